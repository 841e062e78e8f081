/- Packets: the writers of the kinds. -/
import Derived.Lib.SlBytesConst
import Derived.Deep.RegionHeld3
import Derived.Deep.DeepCutAuto
import Derived.Test.YtgdfpmnbofnjfaaPkD
import Derived.Test.YtgdfpmnbofnjfaaPkD
namespace Go.Proofs.Ytgdfpmnbofnjfaa
open Go.RowKit Go.Shelf
set_option linter.unusedVariables false
set_option linter.unusedSimpArgs false
set_option maxRecDepth 100000


theorem dwrite (g : Nat) (l : List Nat) (s : WS) (w : World) (H : WrL w l g s) :
    Calls Try.prog 114 #[.agg #[], .pointer (some ⟨g, 0, none⟩)] w fun e w' => e = .returned (.tuple #[]) ∧ ∃ l', WrL w' l' g (s.add []) ∧ Next w l w' l' := by
  have HH := Lib.hid H
  clear H
  go_enter Try.func114, Try.ntmps114
  go_wp2_with fail
  go_end0
  refine ⟨rfl, l, ?_, (Next.refl w l).alloc _⟩
  rw [WS.add_nil]
  exact HH.out.below ((Below.refl _ w).alloc (Nat.le_refl _) _)

set_option maxHeartbeats 2000000 in
theorem awrite (x : FR) (hx : x.okA) (g : Nat) (l : List Nat) (s0 : WS) (L0 : List Int) (w : World) (H : WrL w l g (s0.add L0)) (hr : s0.out.length + (L0.length + 28) ≤ s0.lim) :
    Calls Try.prog 117 #[.agg x.ac, .pointer (some ⟨g, 0, none⟩)] w fun e w' => e = .returned (.tuple #[]) ∧ ∃ l', WrL w' l' g (s0.add (L0 ++ bodyA x)) ∧ Next w l w' l' := by
  unfold FR.ac
  obtain ⟨s, hs⟩ : ∃ s, s0.add L0 = s := ⟨_, rfl⟩
  have HLim : Hid (s.out.length + 28 ≤ s.lim ∧ True) := Lib.hid (by rw [← hs]; simp [WS.add]; omega)
  have HF : Hid (s.add (bodyA x) = s0.add (L0 ++ bodyA x)) := Lib.hid (by rw [← hs]; simp [WS.add])
  rw [hs] at H
  clear hs hr
  obtain ⟨hop0, hop1⟩ := hx.op
  obtain ⟨hsm0, hsm1⟩ := hx.sm
  obtain ⟨hsi0, hsi1⟩ := hx.si
  obtain ⟨htm0, htm1⟩ := hx.tm
  obtain ⟨hti0, hti1⟩ := hx.ti
  clear hx
  have HW := Lib.hid (PB.start (s := s.add []) 105 #[.int .i64 x.op, .int .u64 x.sm, .int .u32 x.si, .int .u64 x.tm, .int .u32 x.ti] (by rw [WS.add_nil]; exact H) (Next.refl w l))
  clear H
  go_enter Try.func117, Try.ntmps117
  obtain ⟨W1, hW1⟩ : ∃ W1, w.alloc (.cells #[.int .i64 x.op, .int .u64 x.sm, .int .u32 x.si, .int .u64 x.tm, .int .u32 x.ti] 105) = W1 := ⟨_, rfl⟩
  have hsz : W1.heap.size = w.heap.size + 1 := by rw [← hW1]; simp
  have hcv := Lib.run_convert_bytes_const (P := Try.prog) W1 40 5 #[.int .u8 0, .int .u8 1, .int .u8 8, .int .u8 0, .int .u8 6, .int .u8 4] 6 6 Try.underlying40 Try.underlying5
  simp only [List.size_toArray, List.length_cons, List.length_nil, Nat.reduceAdd] at hcv
  go_upto_region 1 with fail
  try rw [hW1] at HW
  try rw [hW1]
  clear hW1
  have HSz := Lib.hid hsz
  clear hsz
  go_wp2_with fail
  obtain ⟨W2, hW2⟩ : ∃ W2, W1.alloc (.cells #[.int .u8 0, .int .u8 1, .int .u8 8, .int .u8 0, .int .u8 6, .int .u8 4] 5 (6, 7)) = W2 := ⟨_, rfl⟩
  have HSl : Hid (Sl W2 W1.heap.size 0 [0, 1, 8, 0, 6, 4]) := Lib.hid (by
    intro j hj
    rw [← hW2, Nat.zero_add, World.cell?_alloc_mark]
    have h6 : j = 0 ∨ j = 1 ∨ j = 2 ∨ j = 3 ∨ j = 4 ∨ j = 5 := by simp at hj; omega
    rcases h6 with rfl | rfl | rfl | rfl | rfl | rfl <;> rfl)
  have HW2 : Hid (PB w l g w.heap.size 105 #[.int .i64 x.op, .int .u64 x.sm, .int .u32 x.si, .int .u64 x.tm, .int .u32 x.ti] (s.add []) l W2) := Lib.hid (HW.out.below (hW2 ▸ (Below.refl _ W1).alloc (Nat.le_refl _) _))
  have HFar : Hid (W1.heap.size ∉ l ∧ W1.heap.size < W2.heap.size) := Lib.hid ⟨fun h => Nat.lt_irrefl _ (HW.out.wr.lt _ h), by rw [← hW2]; simp⟩
  rw [hW2]
  clear hW2 hcv HW
  refine (fitB g _ s [] _ HW2.out.wr W1.heap.size 6 6 [0, 1, 8, 0, 6, 4] rfl (by decide) HSl.out HFar.out.1 HFar.out.2 (by have := HLim.out.1; simp; omega) (by decide)).mono ?_
  rintro e w9 ⟨rfl, l9, hw, hn⟩
  have HW := Lib.hid (HW2.out.step hw hn)
  clear hw hn HW2 HFar HSl
  have c0 := HW.out.box.cell 0
  simp only [List.getElem?_toArray, List.getElem?_cons_zero, List.getElem?_cons_succ] at c0
  go_wp2_with fail
  refine (fit2 g _ s ([] ++ [0, 1, 8, 0, 6, 4]) _ HW.out.wr x.op (by omega) (by omega) (by have := HLim.out.1; simp [be_length]; omega)).mono ?_
  rintro e0 w0 ⟨rfl, l0, hw, hn⟩
  have HV := Lib.hid (HW.out.step hw hn)
  clear hw hn HW c0
  have HW := HV
  clear HV
  have c1 := HW.out.box.cell 1
  simp only [List.getElem?_toArray, List.getElem?_cons_zero, List.getElem?_cons_succ] at c1
  go_wp2_with fail
  refine (fit6 g _ s ([] ++ [0, 1, 8, 0, 6, 4] ++ be x.op 2) _ HW.out.wr x.sm (by omega) (by omega) (by have := HLim.out.1; simp [be_length]; omega)).mono ?_
  rintro e1 w1 ⟨rfl, l1, hw, hn⟩
  have HV := Lib.hid (HW.out.step hw hn)
  clear hw hn HW c1
  have HW := HV
  clear HV
  have c2 := HW.out.box.cell 2
  simp only [List.getElem?_toArray, List.getElem?_cons_zero, List.getElem?_cons_succ] at c2
  go_wp2_with fail
  refine (fit4 g _ s ([] ++ [0, 1, 8, 0, 6, 4] ++ be x.op 2 ++ be x.sm 6) _ HW.out.wr x.si (by omega) (by omega) (by have := HLim.out.1; simp [be_length]; omega)).mono ?_
  rintro e2 w2 ⟨rfl, l2, hw, hn⟩
  have HV := Lib.hid (HW.out.step hw hn)
  clear hw hn HW c2
  have HW := HV
  clear HV
  have c3 := HW.out.box.cell 3
  simp only [List.getElem?_toArray, List.getElem?_cons_zero, List.getElem?_cons_succ] at c3
  go_wp2_with fail
  refine (fit6 g _ s ([] ++ [0, 1, 8, 0, 6, 4] ++ be x.op 2 ++ be x.sm 6 ++ be x.si 4) _ HW.out.wr x.tm (by omega) (by omega) (by have := HLim.out.1; simp [be_length]; omega)).mono ?_
  rintro e3 w3 ⟨rfl, l3, hw, hn⟩
  have HV := Lib.hid (HW.out.step hw hn)
  clear hw hn HW c3
  have HW := HV
  clear HV
  have c4 := HW.out.box.cell 4
  simp only [List.getElem?_toArray, List.getElem?_cons_zero, List.getElem?_cons_succ] at c4
  go_wp2_with fail
  refine (fit4 g _ s ([] ++ [0, 1, 8, 0, 6, 4] ++ be x.op 2 ++ be x.sm 6 ++ be x.si 4 ++ be x.tm 6) _ HW.out.wr x.ti (by omega) (by omega) (by have := HLim.out.1; simp [be_length]; omega)).mono ?_
  rintro e4 w4 ⟨rfl, l4, hw, hn⟩
  have HV := Lib.hid (HW.out.step hw hn)
  clear hw hn HW c4
  have HW := HV
  clear HV
  go_wp2_with fail
  go_end0
  refine ⟨rfl, _, ?_, HW.out.nx⟩
  rw [← HF.out]
  exact HW.out.wr


theorem header_c (x : FR) (hx : x.okH) (w : World) (sm : Int) (hs : 0 ≤ sm ∧ sm ≤ 65535) :
    Calls Try.prog 123 #[.agg x.hc, .int .u16 sm] w fun e w' => ∃ b c, e = .returned (.slice (some ⟨b, 0, none⟩) 20 c) ∧ Row w' b c (hdr x sm) ∧ w.heap.size ≤ b ∧ Below w.heap.size w w' := by
  refine (header_any x hx sm hs.1 hs.2 w).mono ?_
  rintro e w' ⟨⟨v, rfl, hv⟩, hb⟩
  rcases hv with ⟨rfl, h⟩ | ⟨b, c, rfl, h2, h3⟩
  · exact absurd (congrArg List.length h) (by rw [hdr_len]; simp)
  · rw [hdr_len]
    exact ⟨b, c, rfl, h2, h3, hb⟩
theorem has6 {W : World} {B : Nat} {t : TypeId} {a0 a1 a2 a3 a4 a5 : Value} (h : Has W B t #[a0, a1, a2, a3, a4, a5]) : W.cell? ⟨B, 0, none⟩ = some a0 ∧ W.cell? ⟨B, 1, none⟩ = some a1 ∧ W.cell? ⟨B, 2, none⟩ = some a2 ∧ W.cell? ⟨B, 3, none⟩ = some a3 ∧ W.cell? ⟨B, 4, none⟩ = some a4 ∧ W.cell? ⟨B, 5, none⟩ = some a5 := ⟨h.cell 0, h.cell 1, h.cell 2, h.cell 3, h.cell 4, h.cell 5⟩
theorem row_arr {w : World} {b c : Nat} {xs : List Int} {n : Nat} (h : Row w b c xs) (hn : xs.length = n) : Arr w (.slice (some ⟨b, 0, none⟩) n c) xs := by
  subst hn
  exact .inr ⟨_, c, rfl, Sl.at_ h.all⟩

set_option maxHeartbeats 2000000 in
theorem hwrite_true (x : FR) (hx : x.okH) (hp : pd x.pr = true) (g : Nat) (l : List Nat) (s0 : WS) (L0 : List Int) (w : World) (H : WrL w l g (s0.add L0)) (hr : s0.out.length + (L0.length + 28) ≤ s0.lim) :
    Calls Try.prog 121 #[.agg x.hc, .pointer (some ⟨g, 0, none⟩)] w fun e w' => e = .returned (.tuple #[]) ∧ ∃ l', WrL w' l' g (s0.add (L0 ++ bodyH x)) ∧ Next w l w' l' := by
  obtain ⟨s, hs⟩ : ∃ s, s0.add L0 = s := ⟨_, rfl⟩
  have HLim : Hid (s.out.length + 28 ≤ s.lim ∧ True) := Lib.hid (by rw [← hs]; simp [WS.add]; omega)
  have HF : Hid (s.add (bodyH x) = s0.add (L0 ++ bodyH x)) := Lib.hid (by rw [← hs]; simp [WS.add])
  rw [hs] at H
  clear hs hr
  have HC : Hid (∀ (W : World) (sm : Int), 0 ≤ sm ∧ sm ≤ 65535 → Calls Try.prog 123 #[.agg #[.int .u32 x.hs, .int .u32 x.hd, .int .i64 x.tl, .int .i64 x.pr, .int .i64 x.sp, .int .i64 x.dp], .int .u16 sm] W fun e w' => ∃ b c, e = .returned (.slice (some ⟨b, 0, none⟩) 20 c) ∧ Row w' b c (hdr x sm) ∧ W.heap.size ≤ b ∧ Below W.heap.size W w') := Lib.hid (fun W sm h => header_c x hx W sm h)
  unfold FR.hc
  obtain ⟨hhs0, hhs1⟩ := hx.hs
  obtain ⟨hhd0, hhd1⟩ := hx.hd
  obtain ⟨htl0, htl1⟩ := hx.tl
  obtain ⟨hpr0, hpr1⟩ := hx.pr
  obtain ⟨hsp0, hsp1⟩ := hx.sp
  obtain ⟨hdp0, hdp1⟩ := hx.dp
  have HBy : Hid (∀ sm, ∀ v ∈ hdr x sm, 0 ≤ v ∧ v ≤ 255) := Lib.hid (hdr_byte x)
  obtain ⟨q, hq⟩ : ∃ q, sumP (hdr x 0) = q := ⟨_, rfl⟩
  have HQs : Hid (hdrS x = hdr x q) := Lib.hid (by unfold hdrS; rw [hq])
  obtain ⟨hq0, hq1⟩ : 0 ≤ q ∧ q ≤ 65535 := hq ▸ sumP_le _ (hdr_byte x 0)
  have HP := Lib.hid hp
  have HQq := Lib.hid hq
  clear hx hp hq
  obtain ⟨cs, hcs⟩ : ∃ cs : Array Value, #[.int .u32 x.hs, .int .u32 x.hd, .int .i64 x.tl, .int .i64 x.pr, .int .i64 x.sp, .int .i64 x.dp] = cs := ⟨_, rfl⟩
  have HW := Lib.hid (PB.start (s := s.add []) 106 #[.int .u32 x.hs, .int .u32 x.hd, .int .i64 x.tl, .int .i64 x.pr, .int .i64 x.sp, .int .i64 x.dp] (by rw [WS.add_nil]; exact H) (Next.refl w l))
  clear H hcs cs
  go_enter Try.func121, Try.ntmps121
  obtain ⟨W1, hW1⟩ : ∃ W1, w.alloc (.cells #[.int .u32 x.hs, .int .u32 x.hd, .int .i64 x.tl, .int .i64 x.pr, .int .i64 x.sp, .int .i64 x.dp] 106) = W1 := ⟨_, rfl⟩
  go_upto_region 1 with fail
  try rw [hW1] at HW
  try rw [hW1]
  clear hW1
  have HQ : Hid (PB w l g w.heap.size 106 #[.int .u32 x.hs, .int .u32 x.hd, .int .i64 x.tl, .int .i64 x.pr, .int .i64 x.sp, .int .i64 x.dp] (s.add []) l W1.drew) := Lib.hid (HW.out.below (Below.refl _ W1).drew)
  clear HW
  go_wp2_with fail
  go_region_held3 (fun w' => w'.cell? ⟨w.heap.size, 0, none⟩ = some (.int .u32 x.hs) ∧ w'.cell? ⟨w.heap.size, 1, none⟩ = some (.int .u32 x.hd) ∧ w'.cell? ⟨w.heap.size, 2, none⟩ = some (.int .i64 x.tl) ∧ w'.cell? ⟨w.heap.size, 3, none⟩ = some (.int .i64 x.pr) ∧ w'.cell? ⟨w.heap.size, 4, none⟩ = some (.int .i64 x.sp) ∧ w'.cell? ⟨w.heap.size, 5, none⟩ = some (.int .i64 x.dp))
    (first | exact has6 HQ2.out.box | exact has6 HQ.out.box)
    (first
      | (go_at_call 123; refine (HC.out _ _ (by omega)).mono ?_; rintro e w2 ⟨b, c, rfl, hrow, hsz, hb⟩; have HLt := Lib.hid (And.intro hrow hsz); have HFar := Lib.hid (fun hk => Nat.lt_irrefl _ (Nat.lt_of_lt_of_le (HQ.out.wr.lt _ hk) hsz)); have HQ := Lib.hid (HQ.out.below hb); clear hrow hsz hb)
      | (go_at_call 75; refine (sum_arr _ (hdr x 0) _ (row_arr HLt.out.1 (hdr_len x 0)) (by rw [hdr_len]; decide) (HBy.out 0)).mono ?_; rintro e w3 ⟨rfl, hb⟩; rw [HQq.out]; have HQ := Lib.hid (HQ.out.below hb); clear hb)
      | (go_at_call 118; refine (fitB g l s [] _ HQ.out.wr b 20 c (hdr x q) (hdr_len x q) (HBy.out q) HLt.out.1.all HFar.out HLt.out.1.lt (by have := HLim.out.1; rw [hdr_len]; simp; omega) (by rw [hdr_len]; decide)).mono ?_; rintro e w4 ⟨rfl, l4, hw, hn⟩; have HQ2 := Lib.hid (HQ.out.step hw hn); clear hw hn))
  have HW := HQ2
  clear HQ2 HQ HLt HFar
  have c3 := HW.out.box.cell 3
  simp only [List.getElem?_toArray, List.getElem?_cons_zero, List.getElem?_cons_succ] at c3
  go_wp2_with fail
  refine (ported_any _ _).mono ?_
  rintro e w9 ⟨rfl, rfl⟩
  rw [HP.out]
  clear c3
  have c10 := HW.out.box.cell 4
  simp only [List.getElem?_toArray, List.getElem?_cons_zero, List.getElem?_cons_succ] at c10
  go_wp2_with fail
  refine (fit2 g _ s ([] ++ hdr x q) _ HW.out.wr x.sp (by omega) (by omega) (by have := HLim.out.1; simp [be_length, hdr_len]; omega)).mono ?_
  rintro e10 w10 ⟨rfl, l10, hw, hn⟩
  have HV := Lib.hid (HW.out.step hw hn)
  clear hw hn HW c10
  have HW := HV
  clear HV
  have c11 := HW.out.box.cell 5
  simp only [List.getElem?_toArray, List.getElem?_cons_zero, List.getElem?_cons_succ] at c11
  go_wp2_with fail
  refine (fit2 g _ s ([] ++ hdr x q ++ be x.sp 2) _ HW.out.wr x.dp (by omega) (by omega) (by have := HLim.out.1; simp [be_length, hdr_len]; omega)).mono ?_
  rintro e11 w11 ⟨rfl, l11, hw, hn⟩
  have HV := Lib.hid (HW.out.step hw hn)
  clear hw hn HW c11
  have HW := HV
  clear HV
  go_wp2_with fail
  refine (fit2 g _ s ([] ++ hdr x q ++ be x.sp 2 ++ be x.dp 2) _ HW.out.wr 16 (by omega) (by omega) (by have := HLim.out.1; simp [be_length, hdr_len]; omega)).mono ?_
  rintro e12 w12 ⟨rfl, l12, hw, hn⟩
  have HV := Lib.hid (HW.out.step hw hn)
  clear hw hn HW
  have HW := HV
  clear HV
  go_wp2_with fail
  refine (fit2 g _ s ([] ++ hdr x q ++ be x.sp 2 ++ be x.dp 2 ++ be 16 2) _ HW.out.wr 0 (by omega) (by omega) (by have := HLim.out.1; simp [be_length, hdr_len]; omega)).mono ?_
  rintro e13 w13 ⟨rfl, l13, hw, hn⟩
  have HV := Lib.hid (HW.out.step hw hn)
  clear hw hn HW
  have HW := HV
  clear HV
  have HFin : Hid ([] ++ hdr x q ++ be x.sp 2 ++ be x.dp 2 ++ be 16 2 ++ be 0 2 = bodyH x) := Lib.hid (by unfold bodyH; rw [HP.out, HQs.out]; rfl)
  go_wp2_with fail
  go_end0
  refine ⟨rfl, _, ?_, HW.out.nx⟩
  rw [← HF.out, ← HFin.out]
  exact HW.out.wr

set_option maxHeartbeats 2000000 in
theorem hwrite_false (x : FR) (hx : x.okH) (hp : pd x.pr = false) (g : Nat) (l : List Nat) (s0 : WS) (L0 : List Int) (w : World) (H : WrL w l g (s0.add L0)) (hr : s0.out.length + (L0.length + 28) ≤ s0.lim) :
    Calls Try.prog 121 #[.agg x.hc, .pointer (some ⟨g, 0, none⟩)] w fun e w' => e = .returned (.tuple #[]) ∧ ∃ l', WrL w' l' g (s0.add (L0 ++ bodyH x)) ∧ Next w l w' l' := by
  obtain ⟨s, hs⟩ : ∃ s, s0.add L0 = s := ⟨_, rfl⟩
  have HLim : Hid (s.out.length + 28 ≤ s.lim ∧ True) := Lib.hid (by rw [← hs]; simp [WS.add]; omega)
  have HF : Hid (s.add (bodyH x) = s0.add (L0 ++ bodyH x)) := Lib.hid (by rw [← hs]; simp [WS.add])
  rw [hs] at H
  clear hs hr
  have HC : Hid (∀ (W : World) (sm : Int), 0 ≤ sm ∧ sm ≤ 65535 → Calls Try.prog 123 #[.agg #[.int .u32 x.hs, .int .u32 x.hd, .int .i64 x.tl, .int .i64 x.pr, .int .i64 x.sp, .int .i64 x.dp], .int .u16 sm] W fun e w' => ∃ b c, e = .returned (.slice (some ⟨b, 0, none⟩) 20 c) ∧ Row w' b c (hdr x sm) ∧ W.heap.size ≤ b ∧ Below W.heap.size W w') := Lib.hid (fun W sm h => header_c x hx W sm h)
  unfold FR.hc
  obtain ⟨hhs0, hhs1⟩ := hx.hs
  obtain ⟨hhd0, hhd1⟩ := hx.hd
  obtain ⟨htl0, htl1⟩ := hx.tl
  obtain ⟨hpr0, hpr1⟩ := hx.pr
  obtain ⟨hsp0, hsp1⟩ := hx.sp
  obtain ⟨hdp0, hdp1⟩ := hx.dp
  have HBy : Hid (∀ sm, ∀ v ∈ hdr x sm, 0 ≤ v ∧ v ≤ 255) := Lib.hid (hdr_byte x)
  obtain ⟨q, hq⟩ : ∃ q, sumP (hdr x 0) = q := ⟨_, rfl⟩
  have HQs : Hid (hdrS x = hdr x q) := Lib.hid (by unfold hdrS; rw [hq])
  obtain ⟨hq0, hq1⟩ : 0 ≤ q ∧ q ≤ 65535 := hq ▸ sumP_le _ (hdr_byte x 0)
  have HP := Lib.hid hp
  have HQq := Lib.hid hq
  clear hx hp hq
  obtain ⟨cs, hcs⟩ : ∃ cs : Array Value, #[.int .u32 x.hs, .int .u32 x.hd, .int .i64 x.tl, .int .i64 x.pr, .int .i64 x.sp, .int .i64 x.dp] = cs := ⟨_, rfl⟩
  have HW := Lib.hid (PB.start (s := s.add []) 106 #[.int .u32 x.hs, .int .u32 x.hd, .int .i64 x.tl, .int .i64 x.pr, .int .i64 x.sp, .int .i64 x.dp] (by rw [WS.add_nil]; exact H) (Next.refl w l))
  clear H hcs cs
  go_enter Try.func121, Try.ntmps121
  obtain ⟨W1, hW1⟩ : ∃ W1, w.alloc (.cells #[.int .u32 x.hs, .int .u32 x.hd, .int .i64 x.tl, .int .i64 x.pr, .int .i64 x.sp, .int .i64 x.dp] 106) = W1 := ⟨_, rfl⟩
  go_upto_region 1 with fail
  try rw [hW1] at HW
  try rw [hW1]
  clear hW1
  have HQ : Hid (PB w l g w.heap.size 106 #[.int .u32 x.hs, .int .u32 x.hd, .int .i64 x.tl, .int .i64 x.pr, .int .i64 x.sp, .int .i64 x.dp] (s.add []) l W1.drew) := Lib.hid (HW.out.below (Below.refl _ W1).drew)
  clear HW
  go_wp2_with fail
  go_region_held3 (fun w' => w'.cell? ⟨w.heap.size, 0, none⟩ = some (.int .u32 x.hs) ∧ w'.cell? ⟨w.heap.size, 1, none⟩ = some (.int .u32 x.hd) ∧ w'.cell? ⟨w.heap.size, 2, none⟩ = some (.int .i64 x.tl) ∧ w'.cell? ⟨w.heap.size, 3, none⟩ = some (.int .i64 x.pr) ∧ w'.cell? ⟨w.heap.size, 4, none⟩ = some (.int .i64 x.sp) ∧ w'.cell? ⟨w.heap.size, 5, none⟩ = some (.int .i64 x.dp))
    (first | exact has6 HQ2.out.box | exact has6 HQ.out.box)
    (first
      | (go_at_call 123; refine (HC.out _ _ (by omega)).mono ?_; rintro e w2 ⟨b, c, rfl, hrow, hsz, hb⟩; have HLt := Lib.hid (And.intro hrow hsz); have HFar := Lib.hid (fun hk => Nat.lt_irrefl _ (Nat.lt_of_lt_of_le (HQ.out.wr.lt _ hk) hsz)); have HQ := Lib.hid (HQ.out.below hb); clear hrow hsz hb)
      | (go_at_call 75; refine (sum_arr _ (hdr x 0) _ (row_arr HLt.out.1 (hdr_len x 0)) (by rw [hdr_len]; decide) (HBy.out 0)).mono ?_; rintro e w3 ⟨rfl, hb⟩; rw [HQq.out]; have HQ := Lib.hid (HQ.out.below hb); clear hb)
      | (go_at_call 118; refine (fitB g l s [] _ HQ.out.wr b 20 c (hdr x q) (hdr_len x q) (HBy.out q) HLt.out.1.all HFar.out HLt.out.1.lt (by have := HLim.out.1; rw [hdr_len]; simp; omega) (by rw [hdr_len]; decide)).mono ?_; rintro e w4 ⟨rfl, l4, hw, hn⟩; have HQ2 := Lib.hid (HQ.out.step hw hn); clear hw hn))
  have HW := HQ2
  clear HQ2 HQ HLt HFar
  have c3 := HW.out.box.cell 3
  simp only [List.getElem?_toArray, List.getElem?_cons_zero, List.getElem?_cons_succ] at c3
  go_wp2_with fail
  refine (ported_any _ _).mono ?_
  rintro e w9 ⟨rfl, rfl⟩
  rw [HP.out]
  clear c3
  have HFin : Hid ([] ++ hdr x q = bodyH x) := Lib.hid (by unfold bodyH; rw [HP.out, HQs.out]; rfl)
  go_wp2_with fail
  go_end0
  refine ⟨rfl, _, ?_, HW.out.nx⟩
  rw [← HF.out, ← HFin.out]
  exact HW.out.wr

theorem hwrite (x : FR) (hx : x.okH) (g : Nat) (l : List Nat) (s0 : WS) (L0 : List Int) (w : World) (H : WrL w l g (s0.add L0)) (hr : s0.out.length + (L0.length + 28) ≤ s0.lim) :
    Calls Try.prog 121 #[.agg x.hc, .pointer (some ⟨g, 0, none⟩)] w fun e w' => e = .returned (.tuple #[]) ∧ ∃ l', WrL w' l' g (s0.add (L0 ++ bodyH x)) ∧ Next w l w' l' := by
  cases hp : pd x.pr
  · exact hwrite_false x hx hp g l s0 L0 w H hr
  · exact hwrite_true x hx hp g l s0 L0 w H hr

end Go.Proofs.Ytgdfpmnbofnjfaa
