/- Packets that carry frames: the layers; written by gen_vxc.py. -/
import Derived.Test.YtgdfpmnbofnjfaaPkR4
import Derived.Test.YtgdfpmnbofnjfaaPkW
import Derived.Test.YtgdfpmnbofnjfaaVxD
namespace Go.Proofs.Ytgdfpmnbofnjfaa
open Go.RowKit Go.Shelf
set_option linter.unusedVariables false
set_option linter.unusedSimpArgs false
set_option maxRecDepth 100000

theorem fit3 (g : Nat) (l : List Nat) (s : WS) (L : List Int) (w : World) (H : WrL w l g (s.add L)) (v : Int) (h0 : 0 ≤ v) (h1 : v < 256 ^ 3) (hr : s.out.length + (L.length + 3) ≤ s.lim) :
    Calls Try.prog 77 #[.pointer (some ⟨g, 0, none⟩), .int .u64 v] w (Fit g l (s.add (L ++ be v 3)) w) := by
  have hp := WS.put_add (s := s) (L := L) h1 hr
  have h := wU3L g l (s.add L) w H v h0 (by omega)
  rw [hp] at h
  exact h

theorem vlength (x : VP) (A : Option Addr) (k c : Nat) (hk : k ≤ 1000) (w : World) :
    Calls Try.prog 76 #[.agg #[.slice A k c, .int .u32 x.m, .int .u32 x.v, .int .i64 x.n]] w fun e w' => e = .returned (.int .i64 (16 + (k : Int))) ∧ Below w.heap.size w w' := by
  go_enter Try.func76, Try.ntmps76
  go_wp2
  go_ret
  exact ⟨rfl, (Below.refl _ w).alloc (Nat.le_refl _) _⟩

set_option maxHeartbeats 2000000 in
theorem vheader (x : VP) (hx : x.ok) (A : Option Addr) (k c : Nat) (hk : k ≤ 1000) (sm : Int) (hs0 : 0 ≤ sm) (hs1 : sm ≤ 65535) (w : World) :
    Calls Try.prog 74 #[.agg #[.slice A k c, .int .u32 x.m, .int .u32 x.v, .int .i64 x.n, .int .i64 x.t, .int .u32 x.a, .int .u32 x.b], .int .u16 sm] w fun e w' => ∃ b c, e = .returned (.slice (some ⟨b, 0, none⟩) 20 c) ∧ Row w' b c (ghdr (20 + (16 + (k : Int))) x.t 17 sm x.a x.b) ∧ w.heap.size ≤ b ∧ Below w.heap.size w w' := by
  obtain ⟨ha0, ha1⟩ := hx.a
  obtain ⟨hb0, hb1⟩ := hx.b
  obtain ⟨ht0, ht1⟩ := hx.t
  have HLen : Hid (∀ W : World, Calls Try.prog 76 #[.agg #[.slice A k c, .int .u32 x.m, .int .u32 x.v, .int .i64 x.n]] W fun e w' => e = .returned (.int .i64 (16 + (k : Int))) ∧ Below W.heap.size W w') := Lib.hid (fun W => vlength x A k c hk W)
  obtain ⟨L, hL⟩ : ∃ L : Int, 16 + (k : Int) = L := ⟨_, rfl⟩
  rw [hL] at HLen ⊢
  have hL0 : 16 ≤ L := by omega
  have hL1 : L ≤ 1016 := by omega
  have hwi : IntKind.i64.wrap (20 + L) = 20 + L := IntWalk.i64_in _ (by omega)
  have hwu : IntKind.u64.wrap (20 + L) = 20 + L := wr64 _ (by omega) (by omega)
  clear hx hL
  go_enter Try.func74, Try.ntmps74
  obtain ⟨W0, hW0⟩ : ∃ W0, w.alloc (.cells #[.slice A k c, .int .u32 x.m, .int .u32 x.v, .int .i64 x.n, .int .i64 x.t, .int .u32 x.a, .int .u32 x.b] 69) = W0 := ⟨_, rfl⟩
  have HB0 : Hid (Has W0 w.heap.size 69 #[.slice A k c, .int .u32 x.m, .int .u32 x.v, .int .i64 x.n, .int .i64 x.t, .int .u32 x.a, .int .u32 x.b]) := Lib.hid (hW0 ▸ Has.new _ _ _)
  have HL0 : Hid (Below w.heap.size w W0) := Lib.hid (hW0 ▸ (Below.refl _ w).alloc (Nat.le_refl _) _)
  go_upto_region 1 with fail
  try rw [hW0]
  clear hW0
  go_wp2_with fail
  refine (wnewL 20 (by omega) _).mono ?_
  rintro e w8 ⟨g, l8, rfl, hwr, hk8, hb8⟩
  obtain ⟨s, hs⟩ : ∃ s : WS, (⟨20, [], []⟩ : WS) = s := ⟨_, rfl⟩
  have HLim : Hid (s.lim = 20 ∧ s.out = []) := Lib.hid (by rw [← hs]; exact ⟨rfl, rfl⟩)
  rw [hs, ← WS.add_nil s] at hwr
  have HW := Lib.hid (PB.mk (w := w) (l0 := []) (B := w.heap.size) hwr (HB0.out.below hb8) (fun hk => by have := hk8 _ hk; have := HB0.out.lt; omega) ⟨(turn_below (HL0.out.trans (hb8.mono HL0.out.size)) []), fun k hk => .inr (by have := hk8 k hk; have := HL0.out.size; omega)⟩)
  clear hwr hk8 hb8 hs HB0 HL0
  go_wp2_with fail
  refine (fit2 g _ s ([]) _ HW.out.wr 17664 (by omega) (by omega) (by simp [be_length, HLim.out.1, HLim.out.2]; try omega)).mono ?_
  rintro e0 w0 ⟨rfl, l0, hw, hn⟩
  have HV := Lib.hid (HW.out.step hw hn)
  clear hw hn HW
  have HW := HV
  clear HV
  have c0 := HW.out.box.cell 0
  have c1 := HW.out.box.cell 1
  have c2 := HW.out.box.cell 2
  have c3 := HW.out.box.cell 3
  simp only [List.getElem?_toArray, List.getElem?_cons_zero, List.getElem?_cons_succ] at c0 c1 c2 c3
  go_wp2_with fail
  refine (HLen.out _).mono ?_
  rintro e99 w99 ⟨rfl, hb99⟩
  have HV := Lib.hid (HW.out.below hb99)
  clear hb99 HW
  have HW := HV
  clear HV
  go_wp2_with fail
  refine (fit2 g _ s (be 17664 2) _ HW.out.wr (20 + L) (by omega) (by omega) (by simp [be_length, HLim.out.1, HLim.out.2]; try omega)).mono ?_
  rintro e1 w1 ⟨rfl, l1, hw, hn⟩
  have HV := Lib.hid (HW.out.step hw hn)
  clear hw hn HW c0 c1 c2 c3
  have HW := HV
  clear HV
  go_wp2_with fail
  refine (fit4 g _ s (be 17664 2 ++ be (20 + L) 2) _ HW.out.wr 0 (by omega) (by omega) (by simp [be_length, HLim.out.1, HLim.out.2]; try omega)).mono ?_
  rintro e2 w2 ⟨rfl, l2, hw, hn⟩
  have HV := Lib.hid (HW.out.step hw hn)
  clear hw hn HW
  have HW := HV
  clear HV
  have c4 := HW.out.box.cell 4
  simp only [List.getElem?_toArray, List.getElem?_cons_zero, List.getElem?_cons_succ] at c4
  go_wp2_with fail
  refine (fit1 g _ s (be 17664 2 ++ be (20 + L) 2 ++ be 0 4) _ HW.out.wr x.t (by omega) (by omega) (by simp [be_length, HLim.out.1, HLim.out.2]; try omega)).mono ?_
  rintro e3 w3 ⟨rfl, l3, hw, hn⟩
  have HV := Lib.hid (HW.out.step hw hn)
  clear hw hn HW c4
  have HW := HV
  clear HV
  go_wp2_with fail
  refine (fit1 g _ s (be 17664 2 ++ be (20 + L) 2 ++ be 0 4 ++ be x.t 1) _ HW.out.wr 17 (by omega) (by omega) (by simp [be_length, HLim.out.1, HLim.out.2]; try omega)).mono ?_
  rintro e4 w4 ⟨rfl, l4, hw, hn⟩
  have HV := Lib.hid (HW.out.step hw hn)
  clear hw hn HW
  have HW := HV
  clear HV
  go_wp2_with fail
  refine (fit2 g _ s (be 17664 2 ++ be (20 + L) 2 ++ be 0 4 ++ be x.t 1 ++ be 17 1) _ HW.out.wr sm (by omega) (by omega) (by simp [be_length, HLim.out.1, HLim.out.2]; try omega)).mono ?_
  rintro e5 w5 ⟨rfl, l5, hw, hn⟩
  have HV := Lib.hid (HW.out.step hw hn)
  clear hw hn HW
  have HW := HV
  clear HV
  have c5 := HW.out.box.cell 5
  simp only [List.getElem?_toArray, List.getElem?_cons_zero, List.getElem?_cons_succ] at c5
  go_wp2_with fail
  refine (fit4 g _ s (be 17664 2 ++ be (20 + L) 2 ++ be 0 4 ++ be x.t 1 ++ be 17 1 ++ be sm 2) _ HW.out.wr x.a (by omega) (by omega) (by simp [be_length, HLim.out.1, HLim.out.2]; try omega)).mono ?_
  rintro e6 w6 ⟨rfl, l6, hw, hn⟩
  have HV := Lib.hid (HW.out.step hw hn)
  clear hw hn HW c5
  have HW := HV
  clear HV
  have c6 := HW.out.box.cell 6
  simp only [List.getElem?_toArray, List.getElem?_cons_zero, List.getElem?_cons_succ] at c6
  go_wp2_with fail
  refine (fit4 g _ s (be 17664 2 ++ be (20 + L) 2 ++ be 0 4 ++ be x.t 1 ++ be 17 1 ++ be sm 2 ++ be x.a 4) _ HW.out.wr x.b (by omega) (by omega) (by simp [be_length, HLim.out.1, HLim.out.2]; try omega)).mono ?_
  rintro e7 w7 ⟨rfl, l7, hw, hn⟩
  have HV := Lib.hid (HW.out.step hw hn)
  clear hw hn HW c6
  have HW := HV
  clear HV
  go_wp2_with fail
  refine (woutL g _ _ _ HW.out.wr).mono ?_
  rintro e w10 ⟨⟨v, rfl, hv⟩, hb10⟩
  rw [WS.add_out, HLim.out.2, List.nil_append] at hv
  have hb : Below w.heap.size w w10 := (HW.out.nx.below (by simp) (Nat.le_refl _)).1.trans (hb10.mono (HW.out.nx.below (by simp) (Nat.le_refl _)).1.size)
  have hsz := (HW.out.nx.below (by simp) (Nat.le_refl _)).1.size
  have HBl := Lib.hid hb
  rcases hv with ⟨rfl, h⟩ | ⟨h', c', rfl, h2, h3⟩
  · exact absurd (congrArg List.length h) (by simp [be_length])
  have HC : Hid (Row w10 h' c' (ghdr (20 + L) x.t 17 sm x.a x.b) ∧ w.heap.size ≤ h') := Lib.hid ⟨h2, by omega⟩
  have hlen : (be 17664 2 ++ be (20 + L) 2 ++ be 0 4 ++ be x.t 1 ++ be 17 1 ++ be sm 2 ++ be x.a 4 ++ be x.b 4).length = 20 := by simp [be_length]
  rw [hlen]
  clear h2 h3 hb hb10 HW hsz hlen hwi hwu
  go_wp2_with fail
  go_ret
  exact ⟨h', c', rfl, HC.out.1, HC.out.2, HBl.out⟩

set_option maxHeartbeats 2000000 in
theorem vappUDP (x : VP) (hx : x.ok) (A : Option Addr) (k c : Nat) (hk : k ≤ 1000) (l : List Nat) (b : Value) (xs : List Int) (hm : xs.length ≤ 1000) (w : World) (h : O5 w l b xs) :
    Calls Try.prog 57 #[.agg #[.slice A k c, .int .u32 x.m, .int .u32 x.v, .int .i64 x.n], b] w (More5 w l (xs ++ vudp x k)) := by
  obtain ⟨ha0, ha1⟩ := hx.a
  obtain ⟨hb0, hb1⟩ := hx.b
  obtain ⟨ht0, ht1⟩ := hx.t
  obtain ⟨hn0, hn1⟩ := hx.n
  obtain ⟨hv0, hv1⟩ := hx.v
  obtain ⟨hm0, hm1⟩ := hx.m
  obtain ⟨bA, bc, rfl⟩ := h.form
  have HO := Lib.hid h
  have HXs := Lib.hid hm
  have HLen : Hid (∀ W : World, Calls Try.prog 76 #[.agg #[.slice A k c, .int .u32 x.m, .int .u32 x.v, .int .i64 x.n]] W fun e w' => e = .returned (.int .i64 (16 + (k : Int))) ∧ Below W.heap.size W w') := Lib.hid (fun W => vlength x A k c hk W)
  obtain ⟨L, hL⟩ : ∃ L : Int, 16 + (k : Int) = L := ⟨_, rfl⟩
  have hR : vudp x k = be x.n 2 ++ be 4789 2 ++ be L 2 ++ be 0 2 := by unfold vudp; rw [hL]
  rw [hL] at HLen
  rw [hR]
  have hL0 : 16 ≤ L := by omega
  have hL1 : L ≤ 1016 := by omega
  have hwu : IntKind.u64.wrap L = L := wr64 _ (by omega) (by omega)
  have hwn : IntKind.u64.wrap x.n = x.n := wr64 _ (by omega) (by omega)
  clear hL hR
  obtain ⟨R, hR⟩ : ∃ R : List Int, xs ++ (be x.n 2 ++ be 4789 2 ++ be L 2 ++ be 0 2) = R := ⟨_, rfl⟩
  rw [hR]
  have HRR := Lib.hid hR
  clear hx h hm hR
  go_enter Try.func57, Try.ntmps57
  obtain ⟨W0, hW0⟩ : ∃ W0, w.alloc (.cells #[.slice A k c, .int .u32 x.m, .int .u32 x.v, .int .i64 x.n] 67) = W0 := ⟨_, rfl⟩
  have HB0 : Hid (Has W0 w.heap.size 67 #[.slice A k c, .int .u32 x.m, .int .u32 x.v, .int .i64 x.n]) := Lib.hid (hW0 ▸ Has.new _ _ _)
  have HL0 : Hid (Below w.heap.size w W0) := Lib.hid (hW0 ▸ (Below.refl _ w).alloc (Nat.le_refl _) _)
  go_upto_region 1 with fail
  try rw [hW0]
  clear hW0
  go_wp2_with fail
  refine (wnewL 8 (by omega) _).mono ?_
  rintro e w8 ⟨g, l8, rfl, hwr, hk8, hb8⟩
  obtain ⟨s, hs⟩ : ∃ s : WS, (⟨8, [], []⟩ : WS) = s := ⟨_, rfl⟩
  have HLim : Hid (s.lim = 8 ∧ s.out = []) := Lib.hid (by rw [← hs]; exact ⟨rfl, rfl⟩)
  rw [hs, ← WS.add_nil s] at hwr
  have HW := Lib.hid (PB.mk (w := w) (l0 := []) (B := w.heap.size) hwr (HB0.out.below hb8) (fun hk => by have := hk8 _ hk; have := HB0.out.lt; omega) ⟨(turn_below (HL0.out.trans (hb8.mono HL0.out.size)) []), fun k hk => .inr (by have := hk8 k hk; have := HL0.out.size; omega)⟩)
  clear hwr hk8 hb8 hs HB0 HL0
  have c3 := HW.out.box.cell 3
  simp only [List.getElem?_toArray, List.getElem?_cons_zero, List.getElem?_cons_succ] at c3
  go_wp2_with fail
  refine (fit2 g _ s ([]) _ HW.out.wr x.n (by omega) (by omega) (by simp [be_length, HLim.out.1, HLim.out.2]; try omega)).mono ?_
  rintro e0 w0 ⟨rfl, l0, hw, hn⟩
  have HV := Lib.hid (HW.out.step hw hn)
  clear hw hn HW c3
  have HW := HV
  clear HV
  go_wp2_with fail
  refine (fit2 g _ s (be x.n 2) _ HW.out.wr 4789 (by omega) (by omega) (by simp [be_length, HLim.out.1, HLim.out.2]; try omega)).mono ?_
  rintro e1 w1 ⟨rfl, l1, hw, hn⟩
  have HV := Lib.hid (HW.out.step hw hn)
  clear hw hn HW
  have HW := HV
  clear HV
  have c0 := HW.out.box.cell 0
  have c1 := HW.out.box.cell 1
  have c2 := HW.out.box.cell 2
  have c3 := HW.out.box.cell 3
  simp only [List.getElem?_toArray, List.getElem?_cons_zero, List.getElem?_cons_succ] at c0 c1 c2 c3
  go_wp2_with fail
  refine (HLen.out _).mono ?_
  rintro e99 w99 ⟨rfl, hb99⟩
  have HV := Lib.hid (HW.out.below hb99)
  clear hb99 HW
  have HW := HV
  clear HV
  go_wp2_with fail
  refine (fit2 g _ s (be x.n 2 ++ be 4789 2) _ HW.out.wr L (by omega) (by omega) (by simp [be_length, HLim.out.1, HLim.out.2]; try omega)).mono ?_
  rintro e2 w2 ⟨rfl, l2, hw, hn⟩
  have HV := Lib.hid (HW.out.step hw hn)
  clear hw hn HW c0 c1 c2 c3
  have HW := HV
  clear HV
  go_wp2_with fail
  refine (fit2 g _ s (be x.n 2 ++ be 4789 2 ++ be L 2) _ HW.out.wr 0 (by omega) (by omega) (by simp [be_length, HLim.out.1, HLim.out.2]; try omega)).mono ?_
  rintro e3 w3 ⟨rfl, l3, hw, hn⟩
  have HV := Lib.hid (HW.out.step hw hn)
  clear hw hn HW
  have HW := HV
  clear HV
  go_wp2_with fail
  refine (woutL g _ _ _ HW.out.wr).mono ?_
  rintro e w10 ⟨⟨v, rfl, hv⟩, hb10⟩
  rw [WS.add_out, HLim.out.2, List.nil_append] at hv
  have hb : Below w.heap.size w w10 := (HW.out.nx.below (by simp) (Nat.le_refl _)).1.trans (hb10.mono (HW.out.nx.below (by simp) (Nat.le_refl _)).1.size)
  have hsz := (HW.out.nx.below (by simp) (Nat.le_refl _)).1.size
  rcases hv with ⟨rfl, h⟩ | ⟨h', c', rfl, h2, h3⟩
  · exact absurd (congrArg List.length h) (by simp [be_length])
  have hlen : (be x.n 2 ++ be 4789 2 ++ be L 2 ++ be 0 2).length = 8 := by simp [be_length]
  have HC : Hid (Lz w10 l (.slice (some ⟨h', 0, none⟩) 8 c') (be x.n 2 ++ be 4789 2 ++ be L 2 ++ be 0 2)) := Lib.hid (Lz.of_row h2 hlen (fun hk => by have := HO.out.lt _ hk; omega))
  have HO1 : Hid (O5 w10 l (.slice bA xs.length bc) xs) := Lib.hid (HO.out.below hb)
  have HN1 : Hid (Next w l w10 l) := Lib.hid (Next.of_below hb l)
  rw [hlen]
  clear h2 h3 hb hb10 HW hsz hlen HO
  go_wp2_with (at_builtin; refine wpList_app5z rfl (.tmp 25) (.tmp 27) rfl HO1.out rfl HC.out rfl (by have := HXs.out; simp [be_length]; omega) (some 28) rfl ?_; rw [HRR.out]; intro A2 c2 w2 l2 ho hn; have HR := Lib.hid ho; have HN2 := Lib.hid (HN1.out.trans hn); clear ho hn)
  go_ret
  exact ⟨A2, c2, l2, rfl, HR.out, HN2.out⟩

set_option maxHeartbeats 2000000 in
theorem vappVX (x : VP) (hx : x.ok) (A : Option Addr) (k c : Nat) (hk : k ≤ 1000) (l : List Nat) (b : Value) (xs : List Int) (hm : xs.length ≤ 1000) (w : World) (h : O5 w l b xs) :
    Calls Try.prog 58 #[.agg #[.slice A k c, .int .u32 x.m, .int .u32 x.v], b] w (More5 w l (xs ++ vvx x)) := by
  obtain ⟨ha0, ha1⟩ := hx.a
  obtain ⟨hb0, hb1⟩ := hx.b
  obtain ⟨ht0, ht1⟩ := hx.t
  obtain ⟨hn0, hn1⟩ := hx.n
  obtain ⟨hv0, hv1⟩ := hx.v
  obtain ⟨hm0, hm1⟩ := hx.m
  obtain ⟨bA, bc, rfl⟩ := h.form
  have HO := Lib.hid h
  have HXs := Lib.hid hm
  unfold vvx
  obtain ⟨R, hR⟩ : ∃ R : List Int, xs ++ (be 8 1 ++ be x.m 3 ++ be x.v 3 ++ be 0 1) = R := ⟨_, rfl⟩
  rw [hR]
  have HRR := Lib.hid hR
  clear hx h hm hR
  go_enter Try.func58, Try.ntmps58
  obtain ⟨W0, hW0⟩ : ∃ W0, w.alloc (.cells #[.slice A k c, .int .u32 x.m, .int .u32 x.v] 65) = W0 := ⟨_, rfl⟩
  have HB0 : Hid (Has W0 w.heap.size 65 #[.slice A k c, .int .u32 x.m, .int .u32 x.v]) := Lib.hid (hW0 ▸ Has.new _ _ _)
  have HL0 : Hid (Below w.heap.size w W0) := Lib.hid (hW0 ▸ (Below.refl _ w).alloc (Nat.le_refl _) _)
  go_upto_region 1 with fail
  try rw [hW0]
  clear hW0
  go_wp2_with fail
  refine (wnewL 8 (by omega) _).mono ?_
  rintro e w8 ⟨g, l8, rfl, hwr, hk8, hb8⟩
  obtain ⟨s, hs⟩ : ∃ s : WS, (⟨8, [], []⟩ : WS) = s := ⟨_, rfl⟩
  have HLim : Hid (s.lim = 8 ∧ s.out = []) := Lib.hid (by rw [← hs]; exact ⟨rfl, rfl⟩)
  rw [hs, ← WS.add_nil s] at hwr
  have HW := Lib.hid (PB.mk (w := w) (l0 := []) (B := w.heap.size) hwr (HB0.out.below hb8) (fun hk => by have := hk8 _ hk; have := HB0.out.lt; omega) ⟨(turn_below (HL0.out.trans (hb8.mono HL0.out.size)) []), fun k hk => .inr (by have := hk8 k hk; have := HL0.out.size; omega)⟩)
  clear hwr hk8 hb8 hs HB0 HL0
  go_wp2_with fail
  refine (fit1 g _ s ([]) _ HW.out.wr 8 (by omega) (by omega) (by simp [be_length, HLim.out.1, HLim.out.2]; try omega)).mono ?_
  rintro e0 w0 ⟨rfl, l0, hw, hn⟩
  have HV := Lib.hid (HW.out.step hw hn)
  clear hw hn HW
  have HW := HV
  clear HV
  have c1 := HW.out.box.cell 1
  simp only [List.getElem?_toArray, List.getElem?_cons_zero, List.getElem?_cons_succ] at c1
  go_wp2_with fail
  refine (fit3 g _ s (be 8 1) _ HW.out.wr x.m (by omega) (by omega) (by simp [be_length, HLim.out.1, HLim.out.2]; try omega)).mono ?_
  rintro e1 w1 ⟨rfl, l1, hw, hn⟩
  have HV := Lib.hid (HW.out.step hw hn)
  clear hw hn HW c1
  have HW := HV
  clear HV
  have c2 := HW.out.box.cell 2
  simp only [List.getElem?_toArray, List.getElem?_cons_zero, List.getElem?_cons_succ] at c2
  go_wp2_with fail
  refine (fit3 g _ s (be 8 1 ++ be x.m 3) _ HW.out.wr x.v (by omega) (by omega) (by simp [be_length, HLim.out.1, HLim.out.2]; try omega)).mono ?_
  rintro e2 w2 ⟨rfl, l2, hw, hn⟩
  have HV := Lib.hid (HW.out.step hw hn)
  clear hw hn HW c2
  have HW := HV
  clear HV
  go_wp2_with fail
  refine (fit1 g _ s (be 8 1 ++ be x.m 3 ++ be x.v 3) _ HW.out.wr 0 (by omega) (by omega) (by simp [be_length, HLim.out.1, HLim.out.2]; try omega)).mono ?_
  rintro e3 w3 ⟨rfl, l3, hw, hn⟩
  have HV := Lib.hid (HW.out.step hw hn)
  clear hw hn HW
  have HW := HV
  clear HV
  go_wp2_with fail
  refine (woutL g _ _ _ HW.out.wr).mono ?_
  rintro e w10 ⟨⟨v, rfl, hv⟩, hb10⟩
  rw [WS.add_out, HLim.out.2, List.nil_append] at hv
  have hb : Below w.heap.size w w10 := (HW.out.nx.below (by simp) (Nat.le_refl _)).1.trans (hb10.mono (HW.out.nx.below (by simp) (Nat.le_refl _)).1.size)
  have hsz := (HW.out.nx.below (by simp) (Nat.le_refl _)).1.size
  rcases hv with ⟨rfl, h⟩ | ⟨h', c', rfl, h2, h3⟩
  · exact absurd (congrArg List.length h) (by simp [be_length])
  have hlen : (be 8 1 ++ be x.m 3 ++ be x.v 3 ++ be 0 1).length = 8 := by simp [be_length]
  have HC : Hid (Lz w10 l (.slice (some ⟨h', 0, none⟩) 8 c') (be 8 1 ++ be x.m 3 ++ be x.v 3 ++ be 0 1)) := Lib.hid (Lz.of_row h2 hlen (fun hk => by have := HO.out.lt _ hk; omega))
  have HO1 : Hid (O5 w10 l (.slice bA xs.length bc) xs) := Lib.hid (HO.out.below hb)
  have HN1 : Hid (Next w l w10 l) := Lib.hid (Next.of_below hb l)
  rw [hlen]
  clear h2 h3 hb hb10 HW hsz hlen HO
  go_wp2_with (at_builtin; refine wpList_app5z rfl (.tmp 25) (.tmp 27) rfl HO1.out rfl HC.out rfl (by have := HXs.out; simp [be_length]; omega) (some 28) rfl ?_; rw [HRR.out]; intro A2 c2 w2 l2 ho hn; have HR := Lib.hid ho; have HN2 := Lib.hid (HN1.out.trans hn); clear ho hn)
  go_ret
  exact ⟨A2, c2, l2, rfl, HR.out, HN2.out⟩

set_option maxHeartbeats 2000000 in
theorem vappF (A : Option Addr) (k c : Nat) (F : List Int) (hF : F.length = k) (hk : k ≤ 1000) (l : List Nat) (b : Value) (xs : List Int) (hm : xs.length ≤ 1000) (w : World) (h : O5 w l b xs) (hz : Lz w l (.slice A k c) F) :
    Calls Try.prog 59 #[.agg #[.slice A k c], b] w (More5 w l (xs ++ F)) := by
  obtain ⟨bA, bc, rfl⟩ := h.form
  have hb : Below w.heap.size w (w.alloc (.cells #[.slice A k c] 63)) := (Below.refl _ w).alloc (Nat.le_refl _) _
  have HO1 : Hid (O5 (w.alloc (.cells #[.slice A k c] 63)) l (.slice bA xs.length bc) xs) := Lib.hid (h.below hb)
  have HN1 : Hid (Next w l (w.alloc (.cells #[.slice A k c] 63)) l) := Lib.hid (Next.of_below hb l)
  have HZ := Lib.hid (hz.next HN1.out)
  have HBd : Hid (xs.length + F.length ≤ 1000000) := Lib.hid (by omega)
  obtain ⟨R, hR⟩ : ∃ R : List Int, xs ++ F = R := ⟨_, rfl⟩
  rw [hR]
  have HRR := Lib.hid hR
  clear h hz hb hm hF hR
  go_enter Try.func59, Try.ntmps59
  go_wp2_with (at_builtin; refine wpList_app5z rfl (.tmp 5) (.tmp 7) rfl HO1.out rfl HZ.out rfl HBd.out (some 8) rfl ?_; rw [HRR.out]; intro A2 c2 w2 l2 ho hn; have HR := Lib.hid ho; have HN2 := Lib.hid (HN1.out.trans hn); clear ho hn)
  go_ret
  exact ⟨A2, c2, l2, rfl, HR.out, HN2.out⟩

end Go.Proofs.Ytgdfpmnbofnjfaa
