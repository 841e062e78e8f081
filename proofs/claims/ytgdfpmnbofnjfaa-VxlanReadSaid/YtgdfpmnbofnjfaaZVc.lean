/- Packets that carry frames: the layers; written by gen_vxc.py. -/
import Derived.Test.YtgdfpmnbofnjfaaZPq
import Derived.Test.YtgdfpmnbofnjfaaZPl
import Derived.Test.YtgdfpmnbofnjfaaZVa
import Derived.Deep.RegionHeld3
import Derived.Outline
namespace Go.Proofs.Ytgdfpmnbofnjfaa
open Go.RowKit Go.Shelf
set_option linter.unusedVariables false
set_option linter.unusedSimpArgs false
set_option maxRecDepth 100000

theorem fit3 (g : Nat) (l : List Nat) (s : WS) (L : List Int) (w : World) (H : WrL w l g (s.add L)) (v : Int) (h0 : 0 ≤ v) (h1 : v < 256 ^ 3) (hr : s.out.length + (L.length + 3) ≤ s.lim) :
    Calls Try.prog 77 #[.pointer (some ⟨g, 0, none⟩), .int .u64 v] w (Fit g l (s.add (L ++ be v 3)) w) := by
  have hp := WS.put_add (s := s) (L := L) h1 hr
  have h := wU3L g l (s.add L) w H v h0 (by omega)
  rw [hp] at h
  exact h

theorem vlength (x : VP) (A : Option Addr) (k c : Nat) (hk : k ≤ 1000) (w : World) :
    Calls Try.prog 76 #[.agg #[.slice A k c, .int .u32 x.m, .int .u32 x.v, .int .i64 x.n]] w fun e w' => e = .returned (.int .i64 (16 + (k : Int))) ∧ Below w.heap.size w w' := by
  go_enter Try.func76, Try.ntmps76
  go_wp2
  go_ret
  exact ⟨rfl, (Below.refl _ w).alloc (Nat.le_refl _) _⟩

set_option maxHeartbeats 2000000 in
theorem vheader (x : VP) (hx : x.ok) (A : Option Addr) (k c : Nat) (hk : k ≤ 1000) (sm : Int) (hs0 : 0 ≤ sm) (hs1 : sm ≤ 65535) (w : World) :
    Calls Try.prog 74 #[.agg #[.slice A k c, .int .u32 x.m, .int .u32 x.v, .int .i64 x.n, .int .i64 x.t, .int .u32 x.a, .int .u32 x.b], .int .u16 sm] w fun e w' => ∃ b c, e = .returned (.slice (some ⟨b, 0, none⟩) 20 c) ∧ Row w' b c (ghdr (20 + (16 + (k : Int))) x.t 17 sm x.a x.b) ∧ w.heap.size ≤ b ∧ Below w.heap.size w w' := by
  obtain ⟨ha0, ha1⟩ := hx.a
  obtain ⟨hb0, hb1⟩ := hx.b
  obtain ⟨ht0, ht1⟩ := hx.t
  have HLen : Hid (∀ W : World, Calls Try.prog 76 #[.agg #[.slice A k c, .int .u32 x.m, .int .u32 x.v, .int .i64 x.n]] W fun e w' => e = .returned (.int .i64 (16 + (k : Int))) ∧ Below W.heap.size W w') := Lib.hid (fun W => vlength x A k c hk W)
  obtain ⟨L, hL⟩ : ∃ L : Int, 16 + (k : Int) = L := ⟨_, rfl⟩
  rw [hL] at HLen ⊢
  have hL0 : 16 ≤ L := by omega
  have hL1 : L ≤ 1016 := by omega
  have hwi : IntKind.i64.wrap (20 + L) = 20 + L := IntWalk.i64_in _ (by omega)
  have hwu : IntKind.u64.wrap (20 + L) = 20 + L := wr64 _ (by omega) (by omega)
  clear hx hL
  go_enter Try.func74, Try.ntmps74
  obtain ⟨W0, hW0⟩ : ∃ W0, w.alloc (.cells #[.slice A k c, .int .u32 x.m, .int .u32 x.v, .int .i64 x.n, .int .i64 x.t, .int .u32 x.a, .int .u32 x.b] 69) = W0 := ⟨_, rfl⟩
  have HB0 : Hid (Has W0 w.heap.size 69 #[.slice A k c, .int .u32 x.m, .int .u32 x.v, .int .i64 x.n, .int .i64 x.t, .int .u32 x.a, .int .u32 x.b]) := Lib.hid (hW0 ▸ Has.new _ _ _)
  have HL0 : Hid (Below w.heap.size w W0) := Lib.hid (hW0 ▸ (Below.refl _ w).alloc (Nat.le_refl _) _)
  go_upto_region 1 with fail
  try rw [hW0]
  clear hW0
  go_wp2_with fail
  refine (wnewL 20 (by omega) _).mono ?_
  rintro e w8 ⟨g, l8, rfl, hwr, hk8, hb8⟩
  obtain ⟨s, hs⟩ : ∃ s : WS, (⟨20, [], []⟩ : WS) = s := ⟨_, rfl⟩
  have HLim : Hid (s.lim = 20 ∧ s.out = []) := Lib.hid (by rw [← hs]; exact ⟨rfl, rfl⟩)
  rw [hs, ← WS.add_nil s] at hwr
  have HW := Lib.hid (PB.mk (w := w) (l0 := []) (B := w.heap.size) hwr (HB0.out.below hb8) (fun hk => by have := hk8 _ hk; have := HB0.out.lt; omega) ⟨(turn_below (HL0.out.trans (hb8.mono HL0.out.size)) []), fun k hk => .inr (by have := hk8 k hk; have := HL0.out.size; omega)⟩)
  clear hwr hk8 hb8 hs HB0 HL0
  go_wp2_with fail
  refine (fit2 g _ s ([]) _ HW.out.wr 17664 (by omega) (by omega) (by simp [be_length, HLim.out.1, HLim.out.2]; try omega)).mono ?_
  rintro e0 w0 ⟨rfl, l0, hw, hn⟩
  have HV := Lib.hid (HW.out.step hw hn)
  clear hw hn HW
  have HW := HV
  clear HV
  have c0 := HW.out.box.cell 0
  have c1 := HW.out.box.cell 1
  have c2 := HW.out.box.cell 2
  have c3 := HW.out.box.cell 3
  simp only [List.getElem?_toArray, List.getElem?_cons_zero, List.getElem?_cons_succ] at c0 c1 c2 c3
  go_wp2_with fail
  refine (HLen.out _).mono ?_
  rintro e99 w99 ⟨rfl, hb99⟩
  have HV := Lib.hid (HW.out.below hb99)
  clear hb99 HW
  have HW := HV
  clear HV
  go_wp2_with fail
  refine (fit2 g _ s (be 17664 2) _ HW.out.wr (20 + L) (by omega) (by omega) (by simp [be_length, HLim.out.1, HLim.out.2]; try omega)).mono ?_
  rintro e1 w1 ⟨rfl, l1, hw, hn⟩
  have HV := Lib.hid (HW.out.step hw hn)
  clear hw hn HW c0 c1 c2 c3
  have HW := HV
  clear HV
  go_wp2_with fail
  refine (fit4 g _ s (be 17664 2 ++ be (20 + L) 2) _ HW.out.wr 0 (by omega) (by omega) (by simp [be_length, HLim.out.1, HLim.out.2]; try omega)).mono ?_
  rintro e2 w2 ⟨rfl, l2, hw, hn⟩
  have HV := Lib.hid (HW.out.step hw hn)
  clear hw hn HW
  have HW := HV
  clear HV
  have c4 := HW.out.box.cell 4
  simp only [List.getElem?_toArray, List.getElem?_cons_zero, List.getElem?_cons_succ] at c4
  go_wp2_with fail
  refine (fit1 g _ s (be 17664 2 ++ be (20 + L) 2 ++ be 0 4) _ HW.out.wr x.t (by omega) (by omega) (by simp [be_length, HLim.out.1, HLim.out.2]; try omega)).mono ?_
  rintro e3 w3 ⟨rfl, l3, hw, hn⟩
  have HV := Lib.hid (HW.out.step hw hn)
  clear hw hn HW c4
  have HW := HV
  clear HV
  go_wp2_with fail
  refine (fit1 g _ s (be 17664 2 ++ be (20 + L) 2 ++ be 0 4 ++ be x.t 1) _ HW.out.wr 17 (by omega) (by omega) (by simp [be_length, HLim.out.1, HLim.out.2]; try omega)).mono ?_
  rintro e4 w4 ⟨rfl, l4, hw, hn⟩
  have HV := Lib.hid (HW.out.step hw hn)
  clear hw hn HW
  have HW := HV
  clear HV
  go_wp2_with fail
  refine (fit2 g _ s (be 17664 2 ++ be (20 + L) 2 ++ be 0 4 ++ be x.t 1 ++ be 17 1) _ HW.out.wr sm (by omega) (by omega) (by simp [be_length, HLim.out.1, HLim.out.2]; try omega)).mono ?_
  rintro e5 w5 ⟨rfl, l5, hw, hn⟩
  have HV := Lib.hid (HW.out.step hw hn)
  clear hw hn HW
  have HW := HV
  clear HV
  have c5 := HW.out.box.cell 5
  simp only [List.getElem?_toArray, List.getElem?_cons_zero, List.getElem?_cons_succ] at c5
  go_wp2_with fail
  refine (fit4 g _ s (be 17664 2 ++ be (20 + L) 2 ++ be 0 4 ++ be x.t 1 ++ be 17 1 ++ be sm 2) _ HW.out.wr x.a (by omega) (by omega) (by simp [be_length, HLim.out.1, HLim.out.2]; try omega)).mono ?_
  rintro e6 w6 ⟨rfl, l6, hw, hn⟩
  have HV := Lib.hid (HW.out.step hw hn)
  clear hw hn HW c5
  have HW := HV
  clear HV
  have c6 := HW.out.box.cell 6
  simp only [List.getElem?_toArray, List.getElem?_cons_zero, List.getElem?_cons_succ] at c6
  go_wp2_with fail
  refine (fit4 g _ s (be 17664 2 ++ be (20 + L) 2 ++ be 0 4 ++ be x.t 1 ++ be 17 1 ++ be sm 2 ++ be x.a 4) _ HW.out.wr x.b (by omega) (by omega) (by simp [be_length, HLim.out.1, HLim.out.2]; try omega)).mono ?_
  rintro e7 w7 ⟨rfl, l7, hw, hn⟩
  have HV := Lib.hid (HW.out.step hw hn)
  clear hw hn HW c6
  have HW := HV
  clear HV
  go_wp2_with fail
  refine (woutL g _ _ _ HW.out.wr).mono ?_
  rintro e w10 ⟨⟨v, rfl, hv⟩, hb10⟩
  rw [WS.add_out, HLim.out.2, List.nil_append] at hv
  have hb : Below w.heap.size w w10 := (HW.out.nx.below (by simp) (Nat.le_refl _)).1.trans (hb10.mono (HW.out.nx.below (by simp) (Nat.le_refl _)).1.size)
  have hsz := (HW.out.nx.below (by simp) (Nat.le_refl _)).1.size
  have HBl := Lib.hid hb
  rcases hv with ⟨rfl, h⟩ | ⟨h', c', rfl, h2, h3⟩
  · exact absurd (congrArg List.length h) (by simp [be_length])
  have HC : Hid (Row w10 h' c' (ghdr (20 + L) x.t 17 sm x.a x.b) ∧ w.heap.size ≤ h') := Lib.hid ⟨h2, by omega⟩
  have hlen : (be 17664 2 ++ be (20 + L) 2 ++ be 0 4 ++ be x.t 1 ++ be 17 1 ++ be sm 2 ++ be x.a 4 ++ be x.b 4).length = 20 := by simp [be_length]
  rw [hlen]
  clear h2 h3 hb hb10 HW hsz hlen hwi hwu
  go_wp2_with fail
  go_ret
  exact ⟨h', c', rfl, HC.out.1, HC.out.2, HBl.out⟩

set_option maxHeartbeats 2000000 in
theorem vappUDP (x : VP) (hx : x.ok) (A : Option Addr) (k c : Nat) (hk : k ≤ 1000) (l : List Nat) (b : Value) (xs : List Int) (hm : xs.length ≤ 1000) (w : World) (h : O5 w l b xs) :
    Calls Try.prog 57 #[.agg #[.slice A k c, .int .u32 x.m, .int .u32 x.v, .int .i64 x.n], b] w (More5 w l (xs ++ vudp x k)) := by
  obtain ⟨ha0, ha1⟩ := hx.a
  obtain ⟨hb0, hb1⟩ := hx.b
  obtain ⟨ht0, ht1⟩ := hx.t
  obtain ⟨hn0, hn1⟩ := hx.n
  obtain ⟨hv0, hv1⟩ := hx.v
  obtain ⟨hm0, hm1⟩ := hx.m
  obtain ⟨bA, bc, rfl⟩ := h.form
  have HO := Lib.hid h
  have HXs := Lib.hid hm
  have HLen : Hid (∀ W : World, Calls Try.prog 76 #[.agg #[.slice A k c, .int .u32 x.m, .int .u32 x.v, .int .i64 x.n]] W fun e w' => e = .returned (.int .i64 (16 + (k : Int))) ∧ Below W.heap.size W w') := Lib.hid (fun W => vlength x A k c hk W)
  obtain ⟨L, hL⟩ : ∃ L : Int, 16 + (k : Int) = L := ⟨_, rfl⟩
  have hR : vudp x k = be x.n 2 ++ be 4789 2 ++ be L 2 ++ be 0 2 := by unfold vudp; rw [hL]
  rw [hL] at HLen
  rw [hR]
  have hL0 : 16 ≤ L := by omega
  have hL1 : L ≤ 1016 := by omega
  have hwu : IntKind.u64.wrap L = L := wr64 _ (by omega) (by omega)
  have hwn : IntKind.u64.wrap x.n = x.n := wr64 _ (by omega) (by omega)
  clear hL hR
  obtain ⟨R, hR⟩ : ∃ R : List Int, xs ++ (be x.n 2 ++ be 4789 2 ++ be L 2 ++ be 0 2) = R := ⟨_, rfl⟩
  rw [hR]
  have HRR := Lib.hid hR
  clear hx h hm hR
  go_enter Try.func57, Try.ntmps57
  obtain ⟨W0, hW0⟩ : ∃ W0, w.alloc (.cells #[.slice A k c, .int .u32 x.m, .int .u32 x.v, .int .i64 x.n] 67) = W0 := ⟨_, rfl⟩
  have HB0 : Hid (Has W0 w.heap.size 67 #[.slice A k c, .int .u32 x.m, .int .u32 x.v, .int .i64 x.n]) := Lib.hid (hW0 ▸ Has.new _ _ _)
  have HL0 : Hid (Below w.heap.size w W0) := Lib.hid (hW0 ▸ (Below.refl _ w).alloc (Nat.le_refl _) _)
  go_upto_region 1 with fail
  try rw [hW0]
  clear hW0
  go_wp2_with fail
  refine (wnewL 8 (by omega) _).mono ?_
  rintro e w8 ⟨g, l8, rfl, hwr, hk8, hb8⟩
  obtain ⟨s, hs⟩ : ∃ s : WS, (⟨8, [], []⟩ : WS) = s := ⟨_, rfl⟩
  have HLim : Hid (s.lim = 8 ∧ s.out = []) := Lib.hid (by rw [← hs]; exact ⟨rfl, rfl⟩)
  rw [hs, ← WS.add_nil s] at hwr
  have HW := Lib.hid (PB.mk (w := w) (l0 := []) (B := w.heap.size) hwr (HB0.out.below hb8) (fun hk => by have := hk8 _ hk; have := HB0.out.lt; omega) ⟨(turn_below (HL0.out.trans (hb8.mono HL0.out.size)) []), fun k hk => .inr (by have := hk8 k hk; have := HL0.out.size; omega)⟩)
  clear hwr hk8 hb8 hs HB0 HL0
  have c3 := HW.out.box.cell 3
  simp only [List.getElem?_toArray, List.getElem?_cons_zero, List.getElem?_cons_succ] at c3
  go_wp2_with fail
  refine (fit2 g _ s ([]) _ HW.out.wr x.n (by omega) (by omega) (by simp [be_length, HLim.out.1, HLim.out.2]; try omega)).mono ?_
  rintro e0 w0 ⟨rfl, l0, hw, hn⟩
  have HV := Lib.hid (HW.out.step hw hn)
  clear hw hn HW c3
  have HW := HV
  clear HV
  go_wp2_with fail
  refine (fit2 g _ s (be x.n 2) _ HW.out.wr 4789 (by omega) (by omega) (by simp [be_length, HLim.out.1, HLim.out.2]; try omega)).mono ?_
  rintro e1 w1 ⟨rfl, l1, hw, hn⟩
  have HV := Lib.hid (HW.out.step hw hn)
  clear hw hn HW
  have HW := HV
  clear HV
  have c0 := HW.out.box.cell 0
  have c1 := HW.out.box.cell 1
  have c2 := HW.out.box.cell 2
  have c3 := HW.out.box.cell 3
  simp only [List.getElem?_toArray, List.getElem?_cons_zero, List.getElem?_cons_succ] at c0 c1 c2 c3
  go_wp2_with fail
  refine (HLen.out _).mono ?_
  rintro e99 w99 ⟨rfl, hb99⟩
  have HV := Lib.hid (HW.out.below hb99)
  clear hb99 HW
  have HW := HV
  clear HV
  go_wp2_with fail
  refine (fit2 g _ s (be x.n 2 ++ be 4789 2) _ HW.out.wr L (by omega) (by omega) (by simp [be_length, HLim.out.1, HLim.out.2]; try omega)).mono ?_
  rintro e2 w2 ⟨rfl, l2, hw, hn⟩
  have HV := Lib.hid (HW.out.step hw hn)
  clear hw hn HW c0 c1 c2 c3
  have HW := HV
  clear HV
  go_wp2_with fail
  refine (fit2 g _ s (be x.n 2 ++ be 4789 2 ++ be L 2) _ HW.out.wr 0 (by omega) (by omega) (by simp [be_length, HLim.out.1, HLim.out.2]; try omega)).mono ?_
  rintro e3 w3 ⟨rfl, l3, hw, hn⟩
  have HV := Lib.hid (HW.out.step hw hn)
  clear hw hn HW
  have HW := HV
  clear HV
  go_wp2_with fail
  refine (woutL g _ _ _ HW.out.wr).mono ?_
  rintro e w10 ⟨⟨v, rfl, hv⟩, hb10⟩
  rw [WS.add_out, HLim.out.2, List.nil_append] at hv
  have hb : Below w.heap.size w w10 := (HW.out.nx.below (by simp) (Nat.le_refl _)).1.trans (hb10.mono (HW.out.nx.below (by simp) (Nat.le_refl _)).1.size)
  have hsz := (HW.out.nx.below (by simp) (Nat.le_refl _)).1.size
  rcases hv with ⟨rfl, h⟩ | ⟨h', c', rfl, h2, h3⟩
  · exact absurd (congrArg List.length h) (by simp [be_length])
  have hlen : (be x.n 2 ++ be 4789 2 ++ be L 2 ++ be 0 2).length = 8 := by simp [be_length]
  have HC : Hid (Lz w10 l (.slice (some ⟨h', 0, none⟩) 8 c') (be x.n 2 ++ be 4789 2 ++ be L 2 ++ be 0 2)) := Lib.hid (Lz.of_row h2 hlen (fun hk => by have := HO.out.lt _ hk; omega))
  have HO1 : Hid (O5 w10 l (.slice bA xs.length bc) xs) := Lib.hid (HO.out.below hb)
  have HN1 : Hid (Next w l w10 l) := Lib.hid (Next.of_below hb l)
  rw [hlen]
  clear h2 h3 hb hb10 HW hsz hlen HO
  go_wp2_with (at_builtin; refine wpList_app5z rfl (.tmp 25) (.tmp 27) rfl HO1.out rfl HC.out rfl (by have := HXs.out; simp [be_length]; omega) (some 28) rfl ?_; rw [HRR.out]; intro A2 c2 w2 l2 ho hn; have HR := Lib.hid ho; have HN2 := Lib.hid (HN1.out.trans hn); clear ho hn)
  go_ret
  exact ⟨A2, c2, l2, rfl, HR.out, HN2.out⟩

set_option maxHeartbeats 2000000 in
theorem vappVX (x : VP) (hx : x.ok) (A : Option Addr) (k c : Nat) (hk : k ≤ 1000) (l : List Nat) (b : Value) (xs : List Int) (hm : xs.length ≤ 1000) (w : World) (h : O5 w l b xs) :
    Calls Try.prog 58 #[.agg #[.slice A k c, .int .u32 x.m, .int .u32 x.v], b] w (More5 w l (xs ++ vvx x)) := by
  obtain ⟨ha0, ha1⟩ := hx.a
  obtain ⟨hb0, hb1⟩ := hx.b
  obtain ⟨ht0, ht1⟩ := hx.t
  obtain ⟨hn0, hn1⟩ := hx.n
  obtain ⟨hv0, hv1⟩ := hx.v
  obtain ⟨hm0, hm1⟩ := hx.m
  obtain ⟨bA, bc, rfl⟩ := h.form
  have HO := Lib.hid h
  have HXs := Lib.hid hm
  unfold vvx
  obtain ⟨R, hR⟩ : ∃ R : List Int, xs ++ (be 8 1 ++ be x.m 3 ++ be x.v 3 ++ be 0 1) = R := ⟨_, rfl⟩
  rw [hR]
  have HRR := Lib.hid hR
  clear hx h hm hR
  go_enter Try.func58, Try.ntmps58
  obtain ⟨W0, hW0⟩ : ∃ W0, w.alloc (.cells #[.slice A k c, .int .u32 x.m, .int .u32 x.v] 65) = W0 := ⟨_, rfl⟩
  have HB0 : Hid (Has W0 w.heap.size 65 #[.slice A k c, .int .u32 x.m, .int .u32 x.v]) := Lib.hid (hW0 ▸ Has.new _ _ _)
  have HL0 : Hid (Below w.heap.size w W0) := Lib.hid (hW0 ▸ (Below.refl _ w).alloc (Nat.le_refl _) _)
  go_upto_region 1 with fail
  try rw [hW0]
  clear hW0
  go_wp2_with fail
  refine (wnewL 8 (by omega) _).mono ?_
  rintro e w8 ⟨g, l8, rfl, hwr, hk8, hb8⟩
  obtain ⟨s, hs⟩ : ∃ s : WS, (⟨8, [], []⟩ : WS) = s := ⟨_, rfl⟩
  have HLim : Hid (s.lim = 8 ∧ s.out = []) := Lib.hid (by rw [← hs]; exact ⟨rfl, rfl⟩)
  rw [hs, ← WS.add_nil s] at hwr
  have HW := Lib.hid (PB.mk (w := w) (l0 := []) (B := w.heap.size) hwr (HB0.out.below hb8) (fun hk => by have := hk8 _ hk; have := HB0.out.lt; omega) ⟨(turn_below (HL0.out.trans (hb8.mono HL0.out.size)) []), fun k hk => .inr (by have := hk8 k hk; have := HL0.out.size; omega)⟩)
  clear hwr hk8 hb8 hs HB0 HL0
  go_wp2_with fail
  refine (fit1 g _ s ([]) _ HW.out.wr 8 (by omega) (by omega) (by simp [be_length, HLim.out.1, HLim.out.2]; try omega)).mono ?_
  rintro e0 w0 ⟨rfl, l0, hw, hn⟩
  have HV := Lib.hid (HW.out.step hw hn)
  clear hw hn HW
  have HW := HV
  clear HV
  have c1 := HW.out.box.cell 1
  simp only [List.getElem?_toArray, List.getElem?_cons_zero, List.getElem?_cons_succ] at c1
  go_wp2_with fail
  refine (fit3 g _ s (be 8 1) _ HW.out.wr x.m (by omega) (by omega) (by simp [be_length, HLim.out.1, HLim.out.2]; try omega)).mono ?_
  rintro e1 w1 ⟨rfl, l1, hw, hn⟩
  have HV := Lib.hid (HW.out.step hw hn)
  clear hw hn HW c1
  have HW := HV
  clear HV
  have c2 := HW.out.box.cell 2
  simp only [List.getElem?_toArray, List.getElem?_cons_zero, List.getElem?_cons_succ] at c2
  go_wp2_with fail
  refine (fit3 g _ s (be 8 1 ++ be x.m 3) _ HW.out.wr x.v (by omega) (by omega) (by simp [be_length, HLim.out.1, HLim.out.2]; try omega)).mono ?_
  rintro e2 w2 ⟨rfl, l2, hw, hn⟩
  have HV := Lib.hid (HW.out.step hw hn)
  clear hw hn HW c2
  have HW := HV
  clear HV
  go_wp2_with fail
  refine (fit1 g _ s (be 8 1 ++ be x.m 3 ++ be x.v 3) _ HW.out.wr 0 (by omega) (by omega) (by simp [be_length, HLim.out.1, HLim.out.2]; try omega)).mono ?_
  rintro e3 w3 ⟨rfl, l3, hw, hn⟩
  have HV := Lib.hid (HW.out.step hw hn)
  clear hw hn HW
  have HW := HV
  clear HV
  go_wp2_with fail
  refine (woutL g _ _ _ HW.out.wr).mono ?_
  rintro e w10 ⟨⟨v, rfl, hv⟩, hb10⟩
  rw [WS.add_out, HLim.out.2, List.nil_append] at hv
  have hb : Below w.heap.size w w10 := (HW.out.nx.below (by simp) (Nat.le_refl _)).1.trans (hb10.mono (HW.out.nx.below (by simp) (Nat.le_refl _)).1.size)
  have hsz := (HW.out.nx.below (by simp) (Nat.le_refl _)).1.size
  rcases hv with ⟨rfl, h⟩ | ⟨h', c', rfl, h2, h3⟩
  · exact absurd (congrArg List.length h) (by simp [be_length])
  have hlen : (be 8 1 ++ be x.m 3 ++ be x.v 3 ++ be 0 1).length = 8 := by simp [be_length]
  have HC : Hid (Lz w10 l (.slice (some ⟨h', 0, none⟩) 8 c') (be 8 1 ++ be x.m 3 ++ be x.v 3 ++ be 0 1)) := Lib.hid (Lz.of_row h2 hlen (fun hk => by have := HO.out.lt _ hk; omega))
  have HO1 : Hid (O5 w10 l (.slice bA xs.length bc) xs) := Lib.hid (HO.out.below hb)
  have HN1 : Hid (Next w l w10 l) := Lib.hid (Next.of_below hb l)
  rw [hlen]
  clear h2 h3 hb hb10 HW hsz hlen HO
  go_wp2_with (at_builtin; refine wpList_app5z rfl (.tmp 25) (.tmp 27) rfl HO1.out rfl HC.out rfl (by have := HXs.out; simp [be_length]; omega) (some 28) rfl ?_; rw [HRR.out]; intro A2 c2 w2 l2 ho hn; have HR := Lib.hid ho; have HN2 := Lib.hid (HN1.out.trans hn); clear ho hn)
  go_ret
  exact ⟨A2, c2, l2, rfl, HR.out, HN2.out⟩

set_option maxHeartbeats 2000000 in
theorem vappF (A : Option Addr) (k c : Nat) (F : List Int) (hF : F.length = k) (hk : k ≤ 1000) (l : List Nat) (b : Value) (xs : List Int) (hm : xs.length ≤ 1000) (w : World) (h : O5 w l b xs) (hz : Lz w l (.slice A k c) F) :
    Calls Try.prog 59 #[.agg #[.slice A k c], b] w (More5 w l (xs ++ F)) := by
  obtain ⟨bA, bc, rfl⟩ := h.form
  have hb : Below w.heap.size w (w.alloc (.cells #[.slice A k c] 63)) := (Below.refl _ w).alloc (Nat.le_refl _) _
  have HO1 : Hid (O5 (w.alloc (.cells #[.slice A k c] 63)) l (.slice bA xs.length bc) xs) := Lib.hid (h.below hb)
  have HN1 : Hid (Next w l (w.alloc (.cells #[.slice A k c] 63)) l) := Lib.hid (Next.of_below hb l)
  have HZ := Lib.hid (hz.next HN1.out)
  have HBd : Hid (xs.length + F.length ≤ 1000000) := Lib.hid (by omega)
  obtain ⟨R, hR⟩ : ∃ R : List Int, xs ++ F = R := ⟨_, rfl⟩
  rw [hR]
  have HRR := Lib.hid hR
  clear h hz hb hm hF hR
  go_enter Try.func59, Try.ntmps59
  go_wp2_with (at_builtin; refine wpList_app5z rfl (.tmp 5) (.tmp 7) rfl HO1.out rfl HZ.out rfl HBd.out (some 8) rfl ?_; rw [HRR.out]; intro A2 c2 w2 l2 ho hn; have HR := Lib.hid ho; have HN2 := Lib.hid (HN1.out.trans hn); clear ho hn)
  go_ret
  exact ⟨A2, c2, l2, rfl, HR.out, HN2.out⟩

end Go.Proofs.Ytgdfpmnbofnjfaa

namespace Go.Proofs.Ytgdfpmnbofnjfaa
open Go.RowKit Go.Shelf
set_option linter.unusedVariables false
set_option linter.unusedSimpArgs false
set_option maxRecDepth 100000

theorem has7 {W : World} {B : Nat} {t : TypeId} {a0 a1 a2 a3 a4 a5 a6 : Value} (h : Has W B t #[a0, a1, a2, a3, a4, a5, a6]) : W.cell? ⟨B, 0, none⟩ = some a0 ∧ W.cell? ⟨B, 1, none⟩ = some a1 ∧ W.cell? ⟨B, 2, none⟩ = some a2 ∧ W.cell? ⟨B, 3, none⟩ = some a3 ∧ W.cell? ⟨B, 4, none⟩ = some a4 ∧ W.cell? ⟨B, 5, none⟩ = some a5 ∧ W.cell? ⟨B, 6, none⟩ = some a6 := ⟨h.cell 0, h.cell 1, h.cell 2, h.cell 3, h.cell 4, h.cell 5, h.cell 6⟩
/-- A box, and a slice of the caller's. -/
structure AI (w : World) (t : TypeId) (cs : Array Value) (l : List Nat) (b : Value) (xs : List Int) (W : World) : Prop where
  box : Has W w.heap.size t cs
  o5 : O5 W l b xs
  lo : Below w.heap.size w W
theorem AI.below {w W W' : World} {t : TypeId} {cs : Array Value} {l : List Nat} {b : Value} {xs : List Int} (h : AI w t cs l b xs W) (hb : Below W.heap.size W W') : AI w t cs l b xs W' := ⟨h.box.below hb, h.o5.below hb, h.lo.trans (hb.mono h.lo.size)⟩
theorem AI.start {w : World} {l : List Nat} {b : Value} {xs : List Int} (t : TypeId) (cs : Array Value) (h : O5 w l b xs) : AI w t cs l b xs (w.alloc (.cells cs t)) := ⟨Has.new _ _ _, h.below ((Below.refl _ w).alloc (Nat.le_refl _) _), (Below.refl _ w).alloc (Nat.le_refl _) _⟩

set_option maxHeartbeats 2000000 in
theorem vappIP (x : VP) (hx : x.ok) (A : Option Addr) (k c : Nat) (hk : k ≤ 1000) (l : List Nat) (b : Value) (xs : List Int) (hm : xs.length ≤ 1000) (w : World) (h : O5 w l b xs) :
    Calls Try.prog 56 #[.agg #[.slice A k c, .int .u32 x.m, .int .u32 x.v, .int .i64 x.n, .int .i64 x.t, .int .u32 x.a, .int .u32 x.b], b] w (More5 w l (xs ++ vip x k)) := by
  obtain ⟨bA, bc, rfl⟩ := h.form
  have HC : Hid (∀ (W : World) (sm : Int), 0 ≤ sm ∧ sm ≤ 65535 → Calls Try.prog 74 #[.agg #[.slice A k c, .int .u32 x.m, .int .u32 x.v, .int .i64 x.n, .int .i64 x.t, .int .u32 x.a, .int .u32 x.b], .int .u16 sm] W fun e w' => ∃ b c, e = .returned (.slice (some ⟨b, 0, none⟩) 20 c) ∧ Row w' b c (ghdr (20 + (16 + (k : Int))) x.t 17 sm x.a x.b) ∧ W.heap.size ≤ b ∧ Below W.heap.size W w') := Lib.hid (fun W sm hs => vheader x hx A k c hk sm hs.1 hs.2 W)
  obtain ⟨q, hq⟩ : ∃ q, sumP (ghdr (20 + (16 + (k : Int))) x.t 17 0 x.a x.b) = q := ⟨_, rfl⟩
  obtain ⟨hq0, hq1⟩ : 0 ≤ q ∧ q ≤ 65535 := hq ▸ sumP_le _ (ghdr_byte _ _ _ _ _ _)
  have HQq := Lib.hid hq
  have HV : Hid (ghdr (20 + (16 + (k : Int))) x.t 17 q x.a x.b = vip x k) := Lib.hid (by unfold vip ghdrS; rw [hq])
  have HXs := Lib.hid hm
  have HFar : Hid (w.heap.size ∉ l) := Lib.hid (fun hk => Nat.lt_irrefl _ (h.lt _ hk))
  obtain ⟨W1, hW1⟩ : ∃ W1, w.alloc (.cells #[.slice A k c, .int .u32 x.m, .int .u32 x.v, .int .i64 x.n, .int .i64 x.t, .int .u32 x.a, .int .u32 x.b] 69) = W1 := ⟨_, rfl⟩
  have HQ0 : Hid (AI w 69 #[.slice A k c, .int .u32 x.m, .int .u32 x.v, .int .i64 x.n, .int .i64 x.t, .int .u32 x.a, .int .u32 x.b] l (.slice bA xs.length bc) xs W1) := Lib.hid (hW1 ▸ AI.start _ _ h)
  obtain ⟨R, hR⟩ : ∃ R : List Int, xs ++ vip x k = R := ⟨_, rfl⟩
  rw [hR]
  have HRR := Lib.hid hR
  clear hx h hm hq hk hR
  go_enter Try.func56, Try.ntmps56
  go_upto_region 1 with fail
  try rw [hW1]
  clear hW1
  have HQ : Hid (AI w 69 #[.slice A k c, .int .u32 x.m, .int .u32 x.v, .int .i64 x.n, .int .i64 x.t, .int .u32 x.a, .int .u32 x.b] l (.slice bA xs.length bc) xs W1.drew) := Lib.hid (HQ0.out.below (Below.refl _ W1).drew)
  clear HQ0
  refine wp_region_held_drew (S := (fun w' => w'.cell? ⟨w.heap.size, 0, none⟩ = some (.slice A k c) ∧ w'.cell? ⟨w.heap.size, 1, none⟩ = some (.int .u32 x.m) ∧ w'.cell? ⟨w.heap.size, 2, none⟩ = some (.int .u32 x.v) ∧ w'.cell? ⟨w.heap.size, 3, none⟩ = some (.int .i64 x.n) ∧ w'.cell? ⟨w.heap.size, 4, none⟩ = some (.int .i64 x.t) ∧ w'.cell? ⟨w.heap.size, 5, none⟩ = some (.int .u32 x.a) ∧ w'.cell? ⟨w.heap.size, 6, none⟩ = some (.int .u32 x.b))) (by kernel_rfl) (has7 HQ.out.box) (fun hHeld => ?_)
  refine wpAnyH_take (i := 0) (oi := { dst := some 5, op := Go.Op.move (Go.Operand.tmp 1), type := 40, pos := "layer.go:89", after := #[], guard := none }) (v := ?_) rfl (by kernel_rfl) (by kernel_rfl) (by kernel_rfl) (fun _ _ _ h => h) (Or.inl ⟨by rfl, ?_⟩) (by assumption) ?_
  rotate_left
  · intro wS hSw
    try dsimp only at hSw
    go_split_ands
    go_simp
    try with_reducible rfl
  try simp only [Act.put, List.setIfInBounds_toArray, List.set_cons_zero, List.set_cons_succ]
  refine wpAnyH_take (i := 1) (oi := { dst := some 6, op := Go.Op.load 69 (Go.Operand.tmp 2), type := 69, pos := "layer.go:89", after := #[], guard := none }) (v := ?_) rfl (by kernel_rfl) (by kernel_rfl) (by kernel_rfl) (fun _ _ _ h => h) (Or.inl ⟨by rfl, ?_⟩) (by assumption) ?_
  rotate_left
  · intro wS hSw
    try dsimp only at hSw
    go_split_ands
    go_simp
    try with_reducible rfl
  try simp only [Act.put, List.setIfInBounds_toArray, List.set_cons_zero, List.set_cons_succ]
  refine wpAnyH_take (i := 2) (oi := { dst := some 7, op := Go.Op.load 69 (Go.Operand.tmp 2), type := 69, pos := "layer.go:89", after := #[], guard := none }) (v := ?_) rfl (by kernel_rfl) (by kernel_rfl) (by kernel_rfl) (fun _ _ _ h => h) (Or.inl ⟨by rfl, ?_⟩) (by assumption) ?_
  rotate_left
  · intro wS hSw
    try dsimp only at hSw
    go_split_ands
    go_simp
    try with_reducible rfl
  try simp only [Act.put, List.setIfInBounds_toArray, List.set_cons_zero, List.set_cons_succ]
  refine wpAnyH_ready (rs := [3]) (by kernel_rfl) (by simp) ?_
  refine AllReadyH.cons (o := { dst := some 8, op := Go.Op.call { callee := Go.Callee.value (Go.Operand.func 74), args := #[Go.Operand.tmp 7, Go.Operand.const (Go.Value.int Go.IntKind.u16 0)], argTypes := #[69, 96] }, type := 40, pos := "layer.go:89", after := #[{ on := 2, ground := Go.Ground.data }], guard := none }) rfl (fun K hK => ?_) AllReadyH.nil
  go_simp
  go_at_call 74
  refine (HC.out _ 0 ⟨by omega, by omega⟩).mono ?_
  rintro e w2 ⟨b2, c2, rfl, hrow, hsz, hb⟩
  have HR2 := Lib.hid hrow
  have HQ := Lib.hid (HQ.out.below hb)
  clear hrow hsz hb
  refine hK.out _ _ (has7 HQ.out.box) (fun hHeld => ?_)
  clear hK K
  try simp only [Act.put, List.setIfInBounds_toArray, List.set_cons_zero, List.set_cons_succ]
  refine wpAnyH_ready (rs := [4]) (by kernel_rfl) (by simp) ?_
  refine AllReadyH.cons (o := { dst := some 9, op := Go.Op.call { callee := Go.Callee.value (Go.Operand.func 75), args := #[Go.Operand.tmp 8], argTypes := #[40] }, type := 96, pos := "layer.go:89", after := #[{ on := 3, ground := Go.Ground.data }, { on := 3, ground := Go.Ground.chain }], guard := none }) rfl (fun K hK => ?_) AllReadyH.nil
  go_simp
  go_at_call 75
  refine (sum_arr _ _ _ (row_arr HR2.out (ghdr_len _ _ _ _ _ _)) (by rw [ghdr_len]; decide) (ghdr_byte _ _ _ _ _ _)).mono ?_
  rintro e w3 ⟨rfl, hb⟩
  rw [HQq.out]
  have HQ := Lib.hid (HQ.out.below hb)
  clear hb
  refine hK.out _ _ (has7 HQ.out.box) (fun hHeld => ?_)
  clear hK K
  try simp only [Act.put, List.setIfInBounds_toArray, List.set_cons_zero, List.set_cons_succ]
  refine wpAnyH_ready (rs := [5]) (by kernel_rfl) (by simp) ?_
  refine AllReadyH.cons (o := { dst := some 10, op := Go.Op.call { callee := Go.Callee.value (Go.Operand.func 74), args := #[Go.Operand.tmp 6, Go.Operand.tmp 9], argTypes := #[69, 96] }, type := 40, pos := "layer.go:89", after := #[{ on := 1, ground := Go.Ground.data }, { on := 4, ground := Go.Ground.data }, { on := 4, ground := Go.Ground.chain }], guard := none }) rfl (fun K hK => ?_) AllReadyH.nil
  go_simp
  go_at_call 74
  refine (HC.out _ q ⟨hq0, hq1⟩).mono ?_
  rintro e w4 ⟨b4, c4, rfl, hrow, hsz, hb⟩
  have HZ : Hid (Lz w4 l (.slice (some ⟨b4, 0, none⟩) 20 c4) (vip x k)) := Lib.hid (HV.out ▸ Lz.of_row hrow (ghdr_len _ _ _ _ _ _) (fun hk => by have := HQ.out.o5.lt _ hk; omega))
  have HQ := Lib.hid (HQ.out.below hb)
  clear hrow hsz hb
  refine hK.out _ _ (has7 HQ.out.box) (fun hHeld => ?_)
  clear hK K
  try simp only [Act.put, List.setIfInBounds_toArray, List.set_cons_zero, List.set_cons_succ]
  refine wpAnyH_ready (rs := [6]) (by kernel_rfl) (by simp) ?_
  refine AllReadyH.cons (o := { dst := some 11, op := Go.Op.call { callee := Go.Callee.builtin Go.Builtin.append, args := #[Go.Operand.tmp 5, Go.Operand.tmp 10], argTypes := #[40, 40] }, type := 40, pos := "layer.go:89", after := #[{ on := 0, ground := Go.Ground.data }, { on := 5, ground := Go.Ground.data }, { on := 5, ground := Go.Ground.chain }], guard := none }) rfl (fun K hK => ?_) AllReadyH.nil
  refine step_app5z rfl (.tmp 5) (.tmp 10) rfl HQ.out.o5 rfl HZ.out rfl (by have := HXs.out; rw [vip_len]; omega) (some 11) rfl ?_
  rw [HRR.out]
  intro A6 c6 w6 l6 ho hn
  have HR := Lib.hid ho
  have HN : Hid (Next w l w6 l6) := Lib.hid ((Next.of_below HQ.out.lo l).trans hn)
  have HBx : Hid (Has w6 w.heap.size 69 #[.slice A k c, .int .u32 x.m, .int .u32 x.v, .int .i64 x.n, .int .i64 x.t, .int .u32 x.a, .int .u32 x.b]) := Lib.hid (HQ.out.box.turn hn.1 HFar.out)
  clear ho hn
  refine hK.out _ _ (has7 HBx.out) (fun hHeld => ?_)
  clear hK K
  try simp only [Act.put, List.setIfInBounds_toArray, List.set_cons_zero, List.set_cons_succ]
  refine wpAnyH_take (i := 7) (oi := { dst := some 4, op := Go.Op.assign (Go.Operand.tmp 11), type := 40, pos := "layer.go:89", after := #[{ on := 6, ground := Go.Ground.data }, { on := 6, ground := Go.Ground.chain }, { on := 0, ground := Go.Ground.phase }, { on := 1, ground := Go.Ground.phase }, { on := 2, ground := Go.Ground.phase }, { on := 3, ground := Go.Ground.phase }, { on := 4, ground := Go.Ground.phase }, { on := 5, ground := Go.Ground.phase }, { on := 6, ground := Go.Ground.phase }], guard := none }) (v := ?_) rfl (by kernel_rfl) (by kernel_rfl) (by kernel_rfl) (fun _ _ _ h => h) (Or.inl ⟨by rfl, ?_⟩) (by assumption) ?_
  rotate_left
  · intro wS hSw
    try dsimp only at hSw
    go_split_ands
    go_simp
    try with_reducible rfl
  try simp only [Act.put, List.setIfInBounds_toArray, List.set_cons_zero, List.set_cons_succ]
  refine wpAnyH_done (by kernel_rfl) ?_ _
  go_wp2_with fail
  go_ret
  exact ⟨A6, c6, l6, rfl, HR.out, HN.out⟩

set_option maxHeartbeats 2000000 in
theorem vlayers (x : VP) (A : Option Addr) (k c : Nat) (w : World) :
    Calls Try.prog 28 #[.agg x.cs, .slice A k c] w fun e w' => e = .returned (.agg #[.slice A k c, .int .u32 x.m, .int .u32 x.v, .int .i64 x.n, .int .i64 x.t, .int .u32 x.a, .int .u32 x.b]) ∧ Below w.heap.size w w' := by
  obtain ⟨W1, hW1⟩ : ∃ W1, w.alloc (.cells x.cs 34) = W1 := ⟨_, rfl⟩
  have HB : Hid (Has W1 w.heap.size 34 x.cs) := Lib.hid (hW1 ▸ Has.new _ _ _)
  have HL : Hid (Below w.heap.size w W1) := Lib.hid (hW1 ▸ (Below.refl _ w).alloc (Nat.le_refl _) _)
  have hsz : W1.heap.size = w.heap.size + 1 := by rw [← hW1]; simp
  have HSz := Lib.hid hsz
  have hlt := HB.out.lt
  clear hsz
  have c0 := HB.out.v0
  have c1 := HB.out.v1
  have c2 := HB.out.v2
  have c3 := HB.out.v3
  have c4 := HB.out.v4
  have c5 := HB.out.v5
  go_enter Try.func28, Try.ntmps28
  have hlo : Below w.heap.size w ((W1.alloc (.cells #[.slice A k c, .int .u32 x.m, .int .u32 x.v, .int .i64 x.n, .int .i64 x.t, .int .u32 x.a, .int .u32 x.b] 69)).alloc (.cells #[.slice A k c, .int .u32 x.m, .int .u32 x.v] 65)) := (HL.out.alloc HL.out.size _).alloc (by have := HL.out.size; simp; omega) _
  have hli : Has ((W1.alloc (.cells #[.slice A k c, .int .u32 x.m, .int .u32 x.v, .int .i64 x.n, .int .i64 x.t, .int .u32 x.a, .int .u32 x.b] 69)).alloc (.cells #[.slice A k c, .int .u32 x.m, .int .u32 x.v] 65)) W1.heap.size 69 #[.slice A k c, .int .u32 x.m, .int .u32 x.v, .int .i64 x.n, .int .i64 x.t, .int .u32 x.a, .int .u32 x.b] := (Has.new W1 _ _).below ((Below.refl _ _).alloc (Nat.le_refl _) _)
  have HE := Lib.hid (And.intro hlo hli)
  clear hlo hli
  go_wp2
  exact bodyPost_ret (v := .agg #[.slice A k c, .int .u32 x.m, .int .u32 x.v, .int .i64 x.n, .int .i64 x.t, .int .u32 x.a, .int .u32 x.b]) (by
    have hl := run_loadVar_row _ W1.heap.size 69 69 #[.slice A k c, .int .u32 x.m, .int .u32 x.v, .int .i64 x.n, .int .i64 x.t, .int .u32 x.a, .int .u32 x.b] (0, 0) _ HE.out.2 Try.underlying69 rfl (by kernel_rfl)
    simp [results, Try.f28, asAddr, Result.andThen, hl]) rfl ⟨rfl, HE.out.1⟩

/-- Between two appends: the box, the frame that waits, what is written. -/
structure BB (w : World) (t : TypeId) (cs : Array Value) (s : Value) (F : List Int) (l : List Nat) (v : Value) (xs : List Int) (W : World) : Prop where
  box : Has W w.heap.size t cs
  far : w.heap.size ∉ l
  o5 : O5 W l v xs
  z : Lz W l s F
  nx : Next w [] W l
theorem BB.step {w W W' : World} {t : TypeId} {cs : Array Value} {s v v' : Value} {F xs ys : List Int} {l l' : List Nat} (H : BB w t cs s F l v xs W) (ho : O5 W' l' v' ys) (hn : Next W l W' l') : BB w t cs s F l' v' ys W' :=
  ⟨H.box.turn hn.1 H.far, hn.far H.far H.box.lt, ho, H.z.next hn, H.nx.trans hn⟩
theorem BB.start {w : World} {s : Value} {F : List Int} (t : TypeId) (cs : Array Value) (h : Lz w [] s F) : BB w t cs s F [] (.slice none 0 0) [] (w.alloc (.cells cs t)) := by
  have hn : Next w [] (w.alloc (.cells cs t)) [] := Next.of_below ((Below.refl _ w).alloc (Nat.le_refl _) _) []
  exact ⟨Has.new _ _ _, by simp, O5.nil _, h.next hn, hn⟩

set_option maxHeartbeats 2000000 in
theorem vlbytes (x : VP) (hx : x.ok) (A : Option Addr) (k c : Nat) (F : List Int) (hF : F.length = k) (hk : k ≤ 900) (w : World) (hz : Lz w [] (.slice A k c) F) :
    Calls Try.prog 29 #[.agg #[.slice A k c, .int .u32 x.m, .int .u32 x.v, .int .i64 x.n, .int .i64 x.t, .int .u32 x.a, .int .u32 x.b]] w (More5 w [] (vencK x k F)) := by
  have H1 : Hid (∀ (l : List Nat) (b : Value) (xs : List Int) (hm : xs.length ≤ 1000) (w : World) (h : O5 w l b xs), Calls Try.prog 56 #[.agg #[.slice A k c, .int .u32 x.m, .int .u32 x.v, .int .i64 x.n, .int .i64 x.t, .int .u32 x.a, .int .u32 x.b], b] w (More5 w l (xs ++ vip x k))) := Lib.hid (vappIP x hx A k c (by omega))
  have H2 : Hid (∀ (l : List Nat) (b : Value) (xs : List Int) (hm : xs.length ≤ 1000) (w : World) (h : O5 w l b xs), Calls Try.prog 57 #[.agg #[.slice A k c, .int .u32 x.m, .int .u32 x.v, .int .i64 x.n], b] w (More5 w l (xs ++ vudp x k))) := Lib.hid (vappUDP x hx A k c (by omega))
  have H3 : Hid (∀ (l : List Nat) (b : Value) (xs : List Int) (hm : xs.length ≤ 1000) (w : World) (h : O5 w l b xs), Calls Try.prog 58 #[.agg #[.slice A k c, .int .u32 x.m, .int .u32 x.v], b] w (More5 w l (xs ++ vvx x))) := Lib.hid (vappVX x hx A k c (by omega))
  have H4 : Hid (∀ (l : List Nat) (b : Value) (xs : List Int) (hm : xs.length ≤ 1000) (w : World) (h : O5 w l b xs) (hz : Lz w l (.slice A k c) F), Calls Try.prog 59 #[.agg #[.slice A k c], b] w (More5 w l (xs ++ F))) := Lib.hid (vappF A k c F hF (by omega))
  obtain ⟨P1, hP1⟩ : ∃ P, [] ++ vip x k = P := ⟨_, rfl⟩
  obtain ⟨P2, hP2⟩ : ∃ P, P1 ++ vudp x k = P := ⟨_, rfl⟩
  obtain ⟨P3, hP3⟩ : ∃ P, P2 ++ vvx x = P := ⟨_, rfl⟩
  obtain ⟨P4, hP4⟩ : ∃ P, P3 ++ F = P := ⟨_, rfl⟩
  have hE : vencK x k F = P4 := by unfold vencK; rw [hP1, hP2, hP3, hP4]
  have hl1 : P1.length = 20 := by rw [← hP1, List.nil_append]; exact vip_len x k
  have hl2 : P2.length = 28 := by rw [← hP2]; simp [vudp, be_length, hl1]
  have hl3 : P3.length = 36 := by rw [← hP3]; simp [vvx, be_length, hl2]
  rw [hE]
  have HP1 := Lib.hid hP1
  have HP2 := Lib.hid hP2
  have HP3 := Lib.hid hP3
  have HP4 := Lib.hid hP4
  have HLn := Lib.hid (And.intro hl1 (And.intro hl2 hl3))
  obtain ⟨W1, hW1⟩ : ∃ W1, w.alloc (.cells #[.slice A k c, .int .u32 x.m, .int .u32 x.v, .int .i64 x.n, .int .i64 x.t, .int .u32 x.a, .int .u32 x.b] 69) = W1 := ⟨_, rfl⟩
  have HQ0 : Hid (BB w 69 #[.slice A k c, .int .u32 x.m, .int .u32 x.v, .int .i64 x.n, .int .i64 x.t, .int .u32 x.a, .int .u32 x.b] (.slice A k c) F [] (.slice none 0 0) [] W1) := Lib.hid (hW1 ▸ BB.start _ _ hz)
  clear hx hF hk hz hP1 hP2 hP3 hP4 hE hl1 hl2 hl3
  go_enter Try.func29, Try.ntmps29
  go_upto_region 1 with fail
  try rw [hW1]
  clear hW1
  have q0 := HQ0.out.box.cell 0
  have q1 := HQ0.out.box.cell 1
  have q2 := HQ0.out.box.cell 2
  have q3 := HQ0.out.box.cell 3
  have q4 := HQ0.out.box.cell 4
  have q5 := HQ0.out.box.cell 5
  have q6 := HQ0.out.box.cell 6
  simp only [List.getElem?_toArray, List.getElem?_cons_zero, List.getElem?_cons_succ] at q0 q1 q2 q3 q4 q5 q6
  go_wp2_with fail
  refine (H1.out _ _ [] (by decide) _ HQ0.out.o5).mono ?_
  rw [HP1.out]
  rintro e w2 ⟨A2, c2, l2, rfl, ho, hn⟩
  have HQ1 := Lib.hid (HQ0.out.step ho hn)
  clear ho hn q0 q1 q2 q3 q4 q5 q6 HQ0
  have q0 := HQ1.out.box.cell 0
  have q1 := HQ1.out.box.cell 1
  have q2 := HQ1.out.box.cell 2
  have q3 := HQ1.out.box.cell 3
  have q4 := HQ1.out.box.cell 4
  have q5 := HQ1.out.box.cell 5
  have q6 := HQ1.out.box.cell 6
  simp only [List.getElem?_toArray, List.getElem?_cons_zero, List.getElem?_cons_succ] at q0 q1 q2 q3 q4 q5 q6
  go_wp2_with fail
  refine (H2.out _ _ P1 (by have := HLn.out; omega) _ HQ1.out.o5).mono ?_
  rw [HP2.out]
  rintro e w3 ⟨A3, c3, l3, rfl, ho, hn⟩
  have HQ2 := Lib.hid (HQ1.out.step ho hn)
  clear ho hn q0 q1 q2 q3 q4 q5 q6 HQ1
  have q0 := HQ2.out.box.cell 0
  have q1 := HQ2.out.box.cell 1
  have q2 := HQ2.out.box.cell 2
  have q3 := HQ2.out.box.cell 3
  have q4 := HQ2.out.box.cell 4
  have q5 := HQ2.out.box.cell 5
  have q6 := HQ2.out.box.cell 6
  simp only [List.getElem?_toArray, List.getElem?_cons_zero, List.getElem?_cons_succ] at q0 q1 q2 q3 q4 q5 q6
  go_wp2_with fail
  refine (H3.out _ _ P2 (by have := HLn.out; omega) _ HQ2.out.o5).mono ?_
  rw [HP3.out]
  rintro e w4 ⟨A4, c4, l4, rfl, ho, hn⟩
  have HQ3 := Lib.hid (HQ2.out.step ho hn)
  clear ho hn q0 q1 q2 q3 q4 q5 q6 HQ2
  have q0 := HQ3.out.box.cell 0
  have q1 := HQ3.out.box.cell 1
  have q2 := HQ3.out.box.cell 2
  have q3 := HQ3.out.box.cell 3
  have q4 := HQ3.out.box.cell 4
  have q5 := HQ3.out.box.cell 5
  have q6 := HQ3.out.box.cell 6
  simp only [List.getElem?_toArray, List.getElem?_cons_zero, List.getElem?_cons_succ] at q0 q1 q2 q3 q4 q5 q6
  go_wp2_with fail
  refine (H4.out _ _ P3 (by have := HLn.out; omega) _ HQ3.out.o5 HQ3.out.z).mono ?_
  rw [HP4.out]
  rintro e w5 ⟨A5, c5, l5, rfl, ho, hn⟩
  have HQ4 := Lib.hid (HQ3.out.step ho hn)
  clear ho hn q0 q1 q2 q3 q4 q5 q6 HQ3
  go_wp2_with fail
  go_ret
  exact ⟨A5, c5, l5, rfl, HQ4.out.o5, HQ4.out.nx⟩

/-- What Bytes returns for a valid packet. -/
def VEnc (w : World) (x : VP) (e : Ending) (w' : World) : Prop := ∃ b c, e = .returned (.tuple #[.slice (some ⟨b, 0, none⟩) (venc x).length c, .int .i64 0]) ∧ Row w' b c (venc x) ∧ w.heap.size ≤ b ∧ Below w.heap.size w w'

set_option maxHeartbeats 2000000 in
theorem vbytes_no (x : VP) (hx : x.ty) (hc : vchk x ≠ 0) (w : World) :
    Calls Try.prog 11 #[.agg x.cs] w fun e w' => e = .returned (.tuple #[.slice none 0 0, .int .i64 (vchk x)]) ∧ Below w.heap.size w w' := by
  have HChk : Hid (∀ W : World, Calls Try.prog 14 #[.agg x.cs] W fun e w' => e = .returned (.int .i64 (vchk x)) ∧ Below W.heap.size W w') := Lib.hid (fun W => vcheck_any x hx W)
  obtain ⟨er, her⟩ : ∃ er, vchk x = er := ⟨_, rfl⟩
  have HE := Lib.hid her
  rw [her] at hc ⊢
  have hne : (er != 0) = true := by simpa using hc
  have HB : Hid (Below w.heap.size w (w.alloc (.cells x.cs 34))) := Lib.hid ((Below.refl _ w).alloc (Nat.le_refl _) _)
  have HX : Hid (Has (w.alloc (.cells x.cs 34)) w.heap.size 34 x.cs) := Lib.hid (Has.new _ _ _)
  clear her hc hx
  go_enter Try.func11, Try.ntmps11
  go_wp2_with (first | (refine wpList_load_row rfl 34 (.tmp 1) rfl w.heap.size rfl 34 x.cs (0, 0) _ HX.out Try.underlying34 rfl x.fit ?_) | (go_at_call 14; refine (HChk.out _).mono ?_; rintro e w1 ⟨rfl, hb⟩; rw [HE.out]; have HB1 := Lib.hid hb; clear hb))
  go_ret2
  exact ⟨rfl, HB.out.trans (HB1.out.mono HB.out.size)⟩

set_option maxHeartbeats 2000000 in
theorem vbytes_yes (x : VP) (hx : x.ty) (hc : vchk x = 0) (w : World) : Calls Try.prog 11 #[.agg x.cs] w (VEnc w x) := by
  obtain ⟨hok, hfc⟩ := vchk_zero hx hc
  have HChk : Hid (∀ W : World, Calls Try.prog 14 #[.agg x.cs] W fun e w' => e = .returned (.int .i64 0) ∧ Below W.heap.size W w') := Lib.hid (fun W => hc ▸ vcheck_any x hx W)
  obtain ⟨k, hk⟩ : ∃ k, (fenc x.f).length = k := ⟨_, rfl⟩
  have hk9 : k ≤ 50 := hk ▸ fenc_len x.f
  have HIn : Hid (∀ W : World, Calls Try.prog 27 #[.agg x.f.cs.toList.toArray] W fun e w' => ∃ b c, e = .returned (.tuple #[.slice (some ⟨b, 0, none⟩) k c, .int .i64 0]) ∧ Row w' b c (fenc x.f) ∧ W.heap.size ≤ b ∧ Below W.heap.size W w') := Lib.hid (fun W => hk ▸ bytes_yes x.f hx.f hfc W)
  have HLy : Hid (∀ (A : Option Addr) (c : Nat) (W : World), Calls Try.prog 28 #[.agg x.cs, .slice A k c] W fun e w' => e = .returned (.agg #[.slice A k c, .int .u32 x.m, .int .u32 x.v, .int .i64 x.n, .int .i64 x.t, .int .u32 x.a, .int .u32 x.b]) ∧ Below W.heap.size W w') := Lib.hid (fun A c W => vlayers x A k c W)
  have HBy : Hid (∀ (A : Option Addr) (c : Nat) (W : World) (hz : Lz W [] (.slice A k c) (fenc x.f)), Calls Try.prog 29 #[.agg #[.slice A k c, .int .u32 x.m, .int .u32 x.v, .int .i64 x.n, .int .i64 x.t, .int .u32 x.a, .int .u32 x.b]] W (More5 W [] (venc x))) := Lib.hid (fun A c W hz => by
    have h := vlbytes x hok A k c (fenc x.f) hk (by omega) W hz
    unfold venc
    rw [hk]
    exact h)
  have HB : Hid (Below w.heap.size w (w.alloc (.cells x.cs 34))) := Lib.hid ((Below.refl _ w).alloc (Nat.le_refl _) _)
  have HX : Hid (Has (w.alloc (.cells x.cs 34)) w.heap.size 34 x.cs) := Lib.hid (Has.new _ _ _)
  have HPos : Hid (0 < (venc x).length) := Lib.hid (by rw [venc_len]; omega)
  have HK := Lib.hid hk
  unfold VEnc
  obtain ⟨M, hM⟩ : ∃ M, (venc x).length = M := ⟨_, rfl⟩
  rw [hM]
  have HM := Lib.hid hM
  clear hx hc hok hfc hk hk9 hM
  go_enter Try.func11, Try.ntmps11
  go_wp2_with (first | (refine wpList_load_row rfl 34 (.tmp 1) rfl w.heap.size rfl 34 x.cs (0, 0) _ HX.out Try.underlying34 rfl x.fit ?_))
  refine (HChk.out _).mono ?_
  rintro e w1 ⟨rfl, hb⟩
  have HX1 := Lib.hid (HX.out.below hb)
  have HB1 := Lib.hid (HB.out.trans (hb.mono HB.out.size))
  clear hb HX HB
  go_wp2_with (first | (refine wpList_load_mid rfl 32 (.tmp 13) rfl w.heap.size 6 rfl x.f.cs.toList _ HX1.out.inner Try.underlying32 rfl (fr_fit_t x.f) ?_))
  refine (HIn.out _).mono ?_
  rintro e w2 ⟨fb, fc, rfl, hrow, hsz, hb⟩
  have HX2 := Lib.hid (HX1.out.below hb)
  have HB2 := Lib.hid (HB1.out.trans (hb.mono HB1.out.size))
  have HR2 := Lib.hid hrow
  clear hb HX1 HB1 hrow hsz
  go_wp2_with (first | (refine wpList_load_row rfl 34 (.tmp 1) rfl w.heap.size rfl 34 x.cs (0, 0) _ HX2.out Try.underlying34 rfl x.fit ?_))
  refine (HLy.out _ _ _).mono ?_
  rintro e w3 ⟨rfl, hb⟩
  have HB3 := Lib.hid (HB2.out.trans (hb.mono HB2.out.size))
  have HR3 := Lib.hid (HR2.out.below hb)
  clear hb HX2 HB2 HR2
  go_wp2_with fail
  refine (HBy.out _ _ _ (Lz.of_row HR3.out HK.out (by simp))).mono ?_
  rintro e w4 ⟨A4, c4, l4, rfl, ho, hn⟩
  obtain ⟨g, rfl, hrow, rfl⟩ := ho.to HPos.out rfl
  have hnb := hn.below (B := w.heap.size) (by simp) HB3.out.size
  have HG : Hid (Row w4 g c4 (venc x) ∧ w.heap.size ≤ g ∧ Below w.heap.size w w4) := Lib.hid ⟨hrow, hnb.2 g (by simp), HB3.out.trans hnb.1⟩
  clear ho hn hrow hnb
  rw [HM.out]
  go_wp2_with fail
  go_ret2
  exact ⟨g, c4, rfl, HG.out⟩

end Go.Proofs.Ytgdfpmnbofnjfaa
