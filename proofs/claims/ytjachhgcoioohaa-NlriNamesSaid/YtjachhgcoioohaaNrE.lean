/- Routes read: the identifier, and the start of a value. -/
import Derived.Test.YtjachhgcoioohaaNrD
import Derived.Deep.RegionHeld3
import Derived.Deep.CutBlock
namespace Go.Proofs.Ytjachhgcoioohaa
open Go.RowKit Go.Maps Go.Shelf
set_option linter.unusedVariables false
set_option linter.unusedSimpArgs false
set_option maxRecDepth 100000

theorem list10 {α : Type} (l : List α) (h : l.length = 10) : ∃ a b c d e f g h i j, l = [a, b, c, d, e, f, g, h, i, j] := by
  match l, h with
  | [a, b, c, d, e, f, g, h, i, j], _ => exact ⟨a, b, c, d, e, f, g, h, i, j, rfl⟩

abbrev z10a : Array Value := #[.int .u8 0, .int .u8 0, .int .u8 0, .int .u8 0, .int .u8 0, .int .u8 0, .int .u8 0, .int .u8 0, .int .u8 0, .int .u8 0]
theorem splice_ten (X : List Int) (h : X = [] ∨ X.length = 10) : splice (tens []) 0 (u8s X) = tens X := by
  rcases h with rfl | h
  · simp [splice]
  · obtain ⟨a, b, c, d, e, f, g, h, i, j, rfl⟩ := list10 X h
    simp [splice, tens, ten, u8s]
theorem esi_fit : (Try.prog.info? 31).map (·.size) = some 10 := by kernel_rfl

theorem Rd.low {w w' : World} {g h cap B : Nat} {bs : List Int} {st p : Nat} {ef ea : Int} (H : Rd w g h cap bs st p ef ea) (hb : Below B w w') (hg : g < B) (hh : h < B) : Rd w' g h cap bs st p ef ea :=
  ⟨(hb.block g hg).trans H.blk, by
    obtain ⟨cur, h1, r⟩ := H.row
    exact ⟨cur, (hb.block h hh).trans h1, r⟩, H.lo, H.hi, H.small, H.byte⟩
theorem only_low {a w w' : World} {g B : Nat} (h : Only a g w) (k : Below B w w') (hB : a.heap.size ≤ B) : Only a g w' :=
  ⟨k.os.trans h.os, k.tape.trans h.tape, k.output.trans h.output, Nat.le_trans h.size k.size, fun i hi hne => (k.block i (by omega)).trans (h.block i hi hne)⟩

set_option maxHeartbeats 1000000 in
theorem esi_read (g h cap : Nat) (s : RS) (w : World) (H : RdS w g h cap s) :
    Calls Try.prog 154 #[.pointer (some ⟨g, 0, none⟩)] w fun e w' => e = .returned (.agg (tens (s.x 10)).toArray) ∧ RdS w' g h cap (s.t 10) ∧ Only w g w' := by
  have hb : Below w.heap.size w ((w.alloc (.cells z10a 31)).alloc (.cells z10a 31)) := ((Below.refl _ w).alloc (Nat.le_refl _) _).alloc (by simp) _
  have HX : Hid (s.x 10 = [] ∨ (s.x 10).length = 10) := Lib.hid (x_len H 10)
  have HR : Hid (RdS ((w.alloc (.cells z10a 31)).alloc (.cells z10a 31)) g h cap s) := Lib.hid (Rd.below H hb)
  have HB := Lib.hid hb
  have HZ : Hid (Has ((w.alloc (.cells z10a 31)).alloc (.cells z10a 31)) w.heap.size 31 z10a) := Lib.hid ((Has.new w _ _).below ((Below.refl _ _).alloc (Nat.le_refl _) _))
  have HE : Hid (Has ((w.alloc (.cells z10a 31)).alloc (.cells z10a 31)) (w.heap.size + 1) 31 z10a) := Lib.hid (by
    have h1 := Has.new (w.alloc (.cells z10a 31)) 31 z10a
    simpa using h1)
  have hg : g < w.heap.size := H.blk.lt
  have hh : h < w.heap.size := by
    obtain ⟨_, hh, _⟩ := H.row
    exact hh.lt
  clear hb H
  go_enter Try.func154, Try.ntmps154
  go_upto_region 2 with fail
  generalize ((w.alloc (.cells z10a 31)).alloc (.cells z10a 31)) = W2 at *
  have hpos : ∀ (A : Option Addr) (c : Nat) (W : World), Arr W (.slice A (s.x 10).length c) (s.x 10) → 0 < (u8s (s.x 10)).length → ∃ ad, A = some ad ∧ ∀ j v, (u8s (s.x 10))[j]? = some v → W.cell? (ad.add j) = some v := by
    rintro A c W (⟨_, h1⟩ | ⟨ad, c', h1, h2⟩) h0
    · rw [h1] at h0; simp at h0
    · injection h1 with h1
      exact ⟨ad, h1, h2⟩
  have HPos := Lib.hid hpos
  have hn10 : (u8s (s.x 10)).length = Nat.min (s.x 10).length 10 := by
    rcases HX.out with h | h <;> rw [List.length_map, h] <;> rfl
  have hfit10 : 0 + (u8s (s.x 10)).length ≤ (tens []).length := by
    rcases HX.out with h | h <;> rw [List.length_map, h] <;> simp
  have HN := Lib.hid hn10
  have HFit := Lib.hid hfit10
  clear hpos hn10 hfit10
  go_region_held3 (fun w' => True)
    (first | trivial)
    (first
      | (go_at_call 157; refine (rbytes g h cap s _ (Rd.below HR.out (Below.refl _ W2).drew) 10).mono ?_; rintro e w3 ⟨⟨v, rfl, hv⟩, hr3, ho3⟩; change Got w3 _ v (s.x 10) at hv; have HA := Lib.hid hv.arr; clear hv; obtain ⟨A, c, rfl⟩ := HA.out.form; have HR3 := Lib.hid hr3; have HO3 := Lib.hid ho3; have HE3 : Hid (Has w3 (w.heap.size + 1) 31 z10a) := Lib.hid (Has.grown (w := W2.drew) HE.out ho3 (by rintro ⟨⟩; omega)); have HZ3 : Hid (Has w3 w.heap.size 31 z10a) := Lib.hid (Has.grown (w := W2.drew) HZ.out ho3 (by rintro ⟨⟩; omega)); clear hr3 ho3)
      | (refine step_copy_splice rfl (.tmp 4) (.tmp 6) 23 23 rfl 5 Try.underlying23 u8_size (some ⟨w.heap.size + 1, 0, none⟩) A 10 10 (s.x 10).length c rfl rfl (w.heap.size + 1) 0 (tens []) 31 HE3.out (u8s (s.x 10)) HN.out (fun h0 => ⟨rfl, HPos.out A c w3 HA.out h0⟩) HFit.out (u8s_one _) (w.heap.size + 1) w3 (Below.refl _ _) (Nat.le_refl _) ?_; intro w4 hg4 hb4))
  have hE4 : Has w4 (w.heap.size + 1) 31 (tens (s.x 10)).toArray := by
    have := hg4.out
    rw [splice_ten _ HX.out] at this
    exact this
  have HE4 := Lib.hid hE4
  have HZ4 : Hid (Has w4 w.heap.size 31 z10a) := Lib.hid ((hb4.block w.heap.size (by omega)).trans HZ3.out)
  have HR4 : Hid (RdS w4 g h cap (s.t 10)) := Lib.hid (Rd.low HR3.out hb4 (by omega) (by omega))
  have HO4 : Hid (Only w g w4) := Lib.hid (only_low (only_trans (only_drew (only_below HB.out g)) HO3.out) hb4 (by omega))
  have hO : Only w4 w.heap.size (w4.setRow w.heap.size (tens (s.x 10)).toArray) := Only.row _
  have HOF : Hid (Only w g (w4.setRow w.heap.size (tens (s.x 10)).toArray)) := Lib.hid ⟨hO.os.trans HO4.out.os, hO.tape.trans HO4.out.tape, hO.output.trans HO4.out.output, Nat.le_trans HO4.out.size hO.size, fun i hi hne => (hO.block i (Nat.lt_of_lt_of_le hi HO4.out.size) (by rintro ⟨⟩; omega)).trans (HO4.out.block i hi hne)⟩
  have HRF : Hid (RdS (w4.setRow w.heap.size (tens (s.x 10)).toArray) g h cap (s.t 10)) := Lib.hid (Rd.grown HR4.out hO (by rintro ⟨⟩; omega) (by rintro ⟨⟩; omega))
  clear hg4 hb4 hE4 HE3 HZ3 HR3 HO3 hO HE HZ HR HB
  have HT : Hid ((Try.prog.info? 31).map (·.size) = some (tens (s.x 10)).toArray.size ∧ z10a.size = (tens (s.x 10)).toArray.size ∧ (tens (s.x 10)).toArray.all (·.oneCell') = true) := Lib.hid ⟨esi_fit, rfl, by simp [Value.oneCell']⟩
  obtain ⟨T, hT⟩ : ∃ T, (tens (s.x 10)).toArray = T := ⟨_, rfl⟩
  rw [hT] at HT HE4 HOF HRF
  have HTE := Lib.hid hT
  clear hT
  go_wp2_with (first
    | (refine wpList_load_row rfl 31 (.tmp 3) rfl (w.heap.size + 1) rfl 31 T (0, 0) _ HE4.out Try.underlying31 rfl HT.out.1 ?_)
    | (refine wpList_store_row rfl 31 (.tmp 2) (.tmp 8) rfl w.heap.size T rfl rfl 31 z10a HZ4.out HT.out.1 HT.out.2.1 HT.out.2.2 ?_))
  exact bodyPost_ret (v := .agg T) (results_cell_row rfl _ _ w.heap.size 31 T (0, 0) _ rfl (setRow_heap _ _ _ _ _ _ HZ4.out) Try.underlying31 rfl HT.out.1) rfl ⟨by rw [HTE.out], HRF.out, HOF.out⟩

end Go.Proofs.Ytjachhgcoioohaa
