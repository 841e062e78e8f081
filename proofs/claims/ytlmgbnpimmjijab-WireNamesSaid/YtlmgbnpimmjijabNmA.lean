/- WireNames: the walk. -/
import Derived.Test.YtlmgbnpimmjijabLwB
import Derived.Deep.RegionHeld3
namespace Go.Proofs.Ytlmgbnpimmjijab
open Go.RowKit Go.Maps
set_option maxRecDepth 100000
set_option linter.unusedVariables false

/-- The writer, and all that was. -/
structure NW (w : World) (B : Nat) (l : List Nat) (g : Nat) (s : WS) (W : World) : Prop where
  wr : WrL W l g s
  bel : Below w.heap.size w W
  low : ∀ k ∈ l, w.heap.size ≤ k
  lt : ∀ k ∈ l, k < B
  base : w.heap.size ≤ B
  top : B ≤ W.heap.size

section
variable {w W W' : World} {B g : Nat} {l : List Nat} {s : WS}
theorem NW.below (H : NW w B l g s W) (hb : Below W.heap.size W W') : NW w B l g s W' :=
  ⟨H.wr.below hb, H.bel.trans (hb.mono H.bel.size), H.low, H.lt, H.base, Nat.le_trans H.top hb.size⟩
theorem NW.only (H : NW w B l g s W) {g' : Nat} (hg : B ≤ g') (ho : Only W g' W') : NW w B l g s W' :=
  ⟨H.wr.turn (turn_only ho) (fun k hk => by have := H.lt k hk; simp; omega), below_only H.bel ho (Nat.le_trans H.base hg) H.bel.size, H.low, H.lt, H.base, Nat.le_trans H.top ho.size⟩
end

theorem q1 : WS.mark ⟨4, [], []⟩ = (0, 0, ⟨4, [0, 0], [0]⟩) := by simp [WS.mark]
theorem q2 : WS.put ⟨4, [0, 0], [0]⟩ 7 1 = (0, ⟨4, [0, 0, 7], [0]⟩) := by simp [WS.put, be]
theorem q3 : WS.put ⟨4, [0, 0, 7], [0]⟩ 8 1 = (0, ⟨4, [0, 0, 7, 8], [0]⟩) := by simp [WS.put, be]
theorem q4 : WS.put ⟨4, [0, 0, 7, 8], [0]⟩ 9 1 = (7, ⟨4, [0, 0, 7, 8], [0]⟩) := by simp [WS.put]
theorem q5 : WS.patch ⟨4, [0, 0, 7, 8], [0]⟩ 0 = (0, ⟨4, [0, 2, 7, 8], []⟩) := by simp [WS.patch, be]
theorem q6 : WS.patch ⟨4, [0, 2, 7, 8], []⟩ 0 = (16, ⟨4, [0, 2, 7, 8], []⟩) := by simp [WS.patch]
theorem q7 : RS.take ⟨[1, 2, 3, 4], 0, 0, 0, 0⟩ 1 = (some [1], ⟨[1, 2, 3, 4], 0, 1, 0, 0⟩) := by simp [RS.take]
theorem q8 : RS.take ⟨[1, 2, 3, 4], 0, 1, 0, 0⟩ 2 = (some [2, 3], ⟨[1, 2, 3, 4], 0, 3, 0, 0⟩) := by simp [RS.take]
theorem q8' : RS.sub ⟨[1, 2, 3, 4], 0, 1, 0, 0⟩ 2 = ⟨[2, 3], 1, 1, 0, 0⟩ := by unfold RS.sub; rw [q8]; rfl
theorem q9 : RS.take ⟨[2, 3], 1, 1, 0, 0⟩ 1 = (some [2], ⟨[2, 3], 1, 2, 0, 0⟩) := by simp [RS.take]
theorem q10 : RS.take ⟨[2, 3], 1, 2, 0, 0⟩ 2 = (none, ⟨[2, 3], 1, 2, 4, 2⟩) := by simp [RS.take]
theorem q11 : RS.take ⟨[1, 2, 3, 4], 0, 3, 0, 0⟩ 1 = (some [4], ⟨[1, 2, 3, 4], 0, 4, 0, 0⟩) := by simp [RS.take]

set_option maxHeartbeats 1500000 in
theorem names_walk (w : World) :
    Calls Try.prog 3 #[] w fun e w' => e = .returned (.bool true) ∧ Below w.heap.size w w' := by
  go_enter Try.func3, Try.ntmps3
  go_wp2_with fail
  refine (lives_any _).mono ?_
  rintro en w1 ⟨rfl, hb1⟩
  have HB1 := Lib.hid hb1
  clear hb1
  go_wp2_with fail
  refine (wnewL 4 (by omega) _).mono ?_
  rintro en w2 ⟨g, l2, rfl, hw, hl, hb⟩
  have HN2 : Hid (WrL w2 l2 g ⟨4, [], []⟩ ∧ (∀ k ∈ l2, w.heap.size ≤ k) ∧ Below w.heap.size w w2) := Lib.hid ⟨hw, fun k hk => Nat.le_trans HB1.out.size (hl k hk), HB1.out.trans (hb.mono HB1.out.size)⟩
  clear hw hl hb HB1
  go_wp2_with fail
  have hc := wmarkL g l2 ⟨4, [], []⟩ _ HN2.out.1
  rw [q1] at hc
  refine hc.mono ?_
  rintro en w3 ⟨rfl, l3, hw, hn⟩
  have HN3 : Hid (WrL w3 l3 g ⟨4, [0, 0], [0]⟩ ∧ (∀ k ∈ l3, w.heap.size ≤ k) ∧ Below w.heap.size w w3) := Lib.hid ⟨hw, (hn.below HN2.out.2.1 HN2.out.2.2.size).2, HN2.out.2.2.trans (hn.below HN2.out.2.1 HN2.out.2.2.size).1⟩
  clear hw hn hc HN2
  go_wp2_with fail
  have hc := wU1L g l3 ⟨4, [0, 0], [0]⟩ _ HN3.out.1 7 (by omega) (by omega)
  rw [q2] at hc
  refine hc.mono ?_
  rintro en w4 ⟨rfl, l4, hw, hn⟩
  have HN4 : Hid (WrL w4 l4 g ⟨4, [0, 0, 7], [0]⟩ ∧ (∀ k ∈ l4, w.heap.size ≤ k) ∧ Below w.heap.size w w4) := Lib.hid ⟨hw, (hn.below HN3.out.2.1 HN3.out.2.2.size).2, HN3.out.2.2.trans (hn.below HN3.out.2.1 HN3.out.2.2.size).1⟩
  clear hw hn hc HN3
  go_wp2_with fail
  have hc := wU1L g l4 ⟨4, [0, 0, 7], [0]⟩ _ HN4.out.1 8 (by omega) (by omega)
  rw [q3] at hc
  refine hc.mono ?_
  rintro en w5 ⟨rfl, l5, hw, hn⟩
  have HN5 : Hid (WrL w5 l5 g ⟨4, [0, 0, 7, 8], [0]⟩ ∧ (∀ k ∈ l5, w.heap.size ≤ k) ∧ Below w.heap.size w w5) := Lib.hid ⟨hw, (hn.below HN4.out.2.1 HN4.out.2.2.size).2, HN4.out.2.2.trans (hn.below HN4.out.2.1 HN4.out.2.2.size).1⟩
  clear hw hn hc HN4
  go_wp2_with fail
  have hc := wU1L g l5 ⟨4, [0, 0, 7, 8], [0]⟩ _ HN5.out.1 9 (by omega) (by omega)
  rw [q4] at hc
  refine hc.mono ?_
  rintro en w6 ⟨rfl, l6, hw, hn⟩
  have HN6 : Hid (WrL w6 l6 g ⟨4, [0, 0, 7, 8], [0]⟩ ∧ (∀ k ∈ l6, w.heap.size ≤ k) ∧ Below w.heap.size w w6) := Lib.hid ⟨hw, (hn.below HN5.out.2.1 HN5.out.2.2.size).2, HN5.out.2.2.trans (hn.below HN5.out.2.1 HN5.out.2.2.size).1⟩
  clear hw hn hc HN5
  go_wp2_with fail
  have hc := wpatchL g l6 ⟨4, [0, 0, 7, 8], [0]⟩ _ HN6.out.1 0 (WalkArith.wf_i64 (by omega))
  rw [q5] at hc
  refine hc.mono ?_
  rintro en w7 ⟨rfl, l7, hw, hn⟩
  have HN7 : Hid (WrL w7 l7 g ⟨4, [0, 2, 7, 8], []⟩ ∧ (∀ k ∈ l7, w.heap.size ≤ k) ∧ Below w.heap.size w w7) := Lib.hid ⟨hw, (hn.below HN6.out.2.1 HN6.out.2.2.size).2, HN6.out.2.2.trans (hn.below HN6.out.2.1 HN6.out.2.2.size).1⟩
  clear hw hn hc HN6
  go_wp2_with fail
  have hc := wpatchL g l7 ⟨4, [0, 2, 7, 8], []⟩ _ HN7.out.1 0 (WalkArith.wf_i64 (by omega))
  rw [q6] at hc
  refine hc.mono ?_
  rintro en w8 ⟨rfl, l8, hw, hn⟩
  have HN8 : Hid (WrL w8 l8 g ⟨4, [0, 2, 7, 8], []⟩ ∧ (∀ k ∈ l8, w.heap.size ≤ k) ∧ Below w.heap.size w w8) := Lib.hid ⟨hw, (hn.below HN7.out.2.1 HN7.out.2.2.size).2, HN7.out.2.2.trans (hn.below HN7.out.2.1 HN7.out.2.2.size).1⟩
  clear hw hn hc HN7
  have HW8 : Hid (NW w w8.heap.size l8 g ⟨4, [0, 2, 7, 8], []⟩ w8) := Lib.hid ⟨HN8.out.1, HN8.out.2.2, HN8.out.2.1, HN8.out.1.lt, HN8.out.2.2.size, Nat.le_refl _⟩
  clear HN8
  generalize hB : w8.heap.size = B at HW8
  clear hB
  go_wp2_with fail
  have hall : Below w8.heap.size w8 (w8.alloc (.cells #[.int .u8 1, .int .u8 2, .int .u8 3, .int .u8 4] 5)) := (Below.refl _ w8).alloc (Nat.le_refl _) _
  have hsl : Sl (w8.alloc (.cells #[.int .u8 1, .int .u8 2, .int .u8 3, .int .u8 4] 5)) w8.heap.size 0 [1, 2, 3, 4] := by
    have hnew := Has.new w8 5 #[.int .u8 1, .int .u8 2, .int .u8 3, .int .u8 4]
    intro j hj
    rw [Nat.zero_add, hnew.cell j]
    simp at hj
    have : j = 0 ∨ j = 1 ∨ j = 2 ∨ j = 3 := by omega
    rcases this with rfl | rfl | rfl | rfl <;> rfl
  have HW9 := Lib.hid (HW8.out.below hall)
  refine (rnew ⟨w8.heap.size, 0, none⟩ 4 4 [1, 2, 3, 4] rfl (by omega) _ hsl.at_ (by simp)).mono ?_
  rintro en w10 ⟨gr, hr, cr, rfl, hgr, hhr, hrd, hb10⟩
  have HW10 := Lib.hid (HW9.out.below hb10)
  have HR10 := Lib.hid hrd
  have HG : Hid (B ≤ gr) := Lib.hid (Nat.le_trans HW9.out.top hgr)
  clear hsl hall hgr hhr hrd hb10 HW8 HW9
  go_wp2_with fail
  have hc := rU1 _ _ _ ⟨[1, 2, 3, 4], 0, 0, 0, 0⟩ _ HR10.out
  unfold RS.got at hc
  rw [show ((1 : Nat) : Int) = 1 from rfl, q7, show (((some [1] : Option (List Int)), (_ : RS)).1.map num).getD 0 = 1 from rfl] at hc
  refine hc.mono ?_
  rintro en w11 ⟨rfl, hrd, ho⟩
  have HW11 := Lib.hid (HW10.out.only HG.out ho)
  have HR11 := Lib.hid hrd
  clear hc hrd ho HW10 HR10
  go_wp2_with fail
  have hc := rsub _ _ _ ⟨[1, 2, 3, 4], 0, 1, 0, 0⟩ _ HR11.out 2
  rw [q8', q8] at hc
  refine hc.mono ?_
  rintro en w12 ⟨⟨gs, hs, cs, rfl, hgs, hhs, hsub⟩, hrd, ho⟩
  have HW12 := Lib.hid (HW11.out.only HG.out ho)
  have HR12 := Lib.hid hrd
  have HS12 := Lib.hid hsub
  have HGS : Hid (B ≤ gs ∧ gr ≠ gs) := Lib.hid ⟨Nat.le_trans HW11.out.top hgs, by have := HR11.out.blk.lt; omega⟩
  clear hc hrd ho hsub hgs hhs HW11 HR11
  go_wp2_with fail
  have hc := rU1 _ _ _ ⟨[2, 3], 1, 1, 0, 0⟩ _ HS12.out
  unfold RS.got at hc
  rw [show ((1 : Nat) : Int) = 1 from rfl, q9, show (((some [2] : Option (List Int)), (_ : RS)).1.map num).getD 0 = 2 from rfl] at hc
  refine hc.mono ?_
  rintro en w13 ⟨rfl, hrd, ho⟩
  have HW13 := Lib.hid (HW12.out.only HGS.out.1 ho)
  have HR13 := Lib.hid (HR12.out.other HS12.out.blk ho HGS.out.2)
  have HS13 := Lib.hid hrd
  clear hc hrd ho HW12 HR12 HS12
  go_wp2_with fail
  refine (rat _ _ _ _ _ _ _ _ _ HS13.out).mono ?_
  rintro en w13' ⟨rfl, rfl⟩
  go_wp2_with fail
  have hc := rU2 _ _ _ ⟨[2, 3], 1, 2, 0, 0⟩ _ HS13.out
  unfold RS.got at hc
  rw [show ((2 : Nat) : Int) = 2 from rfl, q10, show (((none : Option (List Int)), (_ : RS)).1.map num).getD 0 = 0 from rfl] at hc
  refine hc.mono ?_
  rintro en w14 ⟨rfl, hrd, ho⟩
  have HW14 := Lib.hid (HW13.out.only HGS.out.1 ho)
  have HR14 := Lib.hid (HR13.out.other HS13.out.blk ho HGS.out.2)
  have HS14 := Lib.hid hrd
  clear hc hrd ho HW13 HR13 HS13
  go_wp2_with fail
  refine (rfault _ _ _ _ _ _ _ _ _ HS14.out).mono ?_
  rintro en w15 ⟨rfl, rfl⟩
  have hb15 : Below w14.heap.size w14 (w14.alloc (.cells #[.int .i64 4, .int .i64 2] 39)) := (Below.refl _ w14).alloc (Nat.le_refl _) _
  have HW15 := Lib.hid (HW14.out.below hb15)
  have HR15 := Lib.hid (HR14.out.below hb15)
  clear hb15 HW14 HR14 HS14
  go_wp2_with fail
  have hc := rU1 _ _ _ ⟨[1, 2, 3, 4], 0, 3, 0, 0⟩ _ HR15.out
  unfold RS.got at hc
  rw [show ((1 : Nat) : Int) = 1 from rfl, q11, show (((some [4] : Option (List Int)), (_ : RS)).1.map num).getD 0 = 4 from rfl] at hc
  refine hc.mono ?_
  rintro en w16 ⟨rfl, hrd, ho⟩
  have HW16 := Lib.hid (HW15.out.only HG.out ho)
  clear hc hrd ho HW15 HR15
  go_wp2_with fail
  refine (wnew_no (-1) (by omega) _).mono ?_
  rintro en w16' ⟨rfl, rfl⟩
  go_wp2_with fail
  refine (wnew_no 65537 (by omega) _).mono ?_
  rintro en w16' ⟨rfl, rfl⟩
  go_wp2_with fail
  refine (wmark_nil _).mono ?_
  rintro en w16' ⟨rfl, rfl⟩
  go_wp2_with fail
  refine (rfail_nil _ _).mono ?_
  rintro en w16' ⟨rfl, rfl⟩
  go_wp2_with fail
  have hb17 : Below w16.heap.size w16 (w16.alloc (.cells #[.int .i64 4, .int .i64 2] 39)) := (Below.refl _ w16).alloc (Nat.le_refl _) _
  have HW17 := Lib.hid (HW16.out.below hb17)
  have HF17 := Lib.hid (Has.new w16 39 #[.int .i64 4, .int .i64 2])
  clear hb17 HW16
  generalize hWF : w16.heap.size = WF at *
  generalize w16.alloc (.cells #[.int .i64 4, .int .i64 2] 39) = w17 at *
  clear hWF
  refine (wU1_nil _ 1).mono ?_
  rintro en wz ⟨rfl, rfl⟩
  go_wp2_with fail
  refine (wU8_nil _ 1).mono ?_
  rintro en wz ⟨rfl, rfl⟩
  go_wp2_with fail
  refine (wbytes_nil _).mono ?_
  rintro en wz ⟨rfl, rfl⟩
  go_wp2_with fail
  refine (wpatch_nil _ 0).mono ?_
  rintro en wz ⟨rfl, rfl⟩
  go_wp2_with fail
  refine (wlen_nil _).mono ?_
  rintro en wz ⟨rfl, rfl⟩
  go_wp2_with fail
  refine (wout_nil _).mono ?_
  rintro en wz ⟨rfl, rfl⟩
  go_wp2_with fail
  refine (rU8_nil _).mono ?_
  rintro en w18 ⟨rfl, hb⟩
  have HW18 := Lib.hid (HW17.out.below hb)
  have HF18 := Lib.hid (HF17.out.below hb)
  clear hb HW17 HF17
  go_wp2_with fail
  refine (rU48_nil _).mono ?_
  rintro en w19 ⟨rfl, hb⟩
  have HW19 := Lib.hid (HW18.out.below hb)
  have HF19 := Lib.hid (HF18.out.below hb)
  clear hb HW18 HF18
  go_wp2_with fail
  refine (rbytes_nil _ 0).mono ?_
  rintro en w20 ⟨rfl, hb⟩
  have HW20 := Lib.hid (HW19.out.below hb)
  have HF20 := Lib.hid (HF19.out.below hb)
  clear hb HW19 HF19
  go_wp2_with fail
  refine (rsub_nil _ 0).mono ?_
  rintro en wz ⟨rfl, rfl⟩
  go_wp2_with fail
  refine (rleftOf_nil _).mono ?_
  rintro en wz ⟨rfl, rfl⟩
  go_wp2_with fail
  refine (rat_nil _).mono ?_
  rintro en wz ⟨rfl, rfl⟩
  go_wp2_with fail
  refine (rfault_nil _).mono ?_
  rintro en wz ⟨rfl, rfl⟩
  have hbz : Below w20.heap.size w20 (w20.alloc (.cells #[.int .i64 1, .int .i64 0] 39)) := (Below.refl _ w20).alloc (Nat.le_refl _) _
  have HWz := Lib.hid (HW20.out.below hbz)
  have HFz := Lib.hid (HF20.out.below hbz)
  clear hbz HW20 HF20
  generalize w20.alloc (.cells #[.int .i64 1, .int .i64 0] 39) = wz at *
  go_wp2_with fail
  refine (woutL g l8 _ _ HWz.out.wr).mono ?_
  rintro en wo ⟨⟨v, rfl, hcp⟩, hbo⟩
  have HWo := Lib.hid (HWz.out.below hbo)
  have hFo := HFz.out.below hbo
  have hconv := copied_string hcp
  have hstr : (.ok (.string (strOfNums [0, 2, 7, 8])) wo : Result Value) = .ok (.string ⟨#[0, 2, 7, 8]⟩) wo := rfl
  rw [hstr] at hconv
  have d0 : wo.cell? ⟨WF, 0, none⟩ = some (.int .i64 4) := hFo.cell 0
  have d1 : wo.cell? ⟨WF, 1, none⟩ = some (.int .i64 2) := hFo.cell 1
  clear hcp hbo hstr hFo HWz HFz
  go_wp2_with fail
  go_ret
  exact ⟨rfl, HWo.out.bel⟩

end Go.Proofs.Ytlmgbnpimmjijab
