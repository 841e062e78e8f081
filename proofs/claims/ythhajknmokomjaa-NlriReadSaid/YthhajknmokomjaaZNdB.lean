/- Routes: the document's value; written by gen_ndb.py. -/
import Derived.Test.YthhajknmokomjaaZNdA
import Derived.Deep.RegionHeld3
namespace Go.Proofs.Ythhajknmokomjaa
open Go.RowKit Go.Maps Go.Shelf
set_option linter.unusedVariables false
set_option linter.unusedSimpArgs false
set_option maxRecDepth 100000

def vw1 (xs X : List Int) (a : Int) : NL := { beg 1 (tki xs 0 8) X (tki xs a 4) with l1 := tki xs (a + 4) 3 }
def vw2 (xs X : List Int) (a : Int) (h : Bool) : NL := { beg 2 (tki xs 0 8) X (tki xs a 4) with mac := tki xs (a + 5) 6, has := h, ip := if h then tki xs (a + 12) 4 else 0, l1 := tki xs (if h then a + 16 else a + 12) 3, l2 := tki xs (if h then a + 19 else a + 15) 3 }
def vw3 (xs : List Int) : NL := { beg 3 (tki xs 0 8) [] (tki xs 8 4) with has := true, ip := tki xs 13 4 }
def vw4 (xs X : List Int) (a : Int) : NL := { beg 4 (tki xs 0 8) X 0 with has := true, ip := tki xs (a + 1) 4 }
def vw5 (xs X : List Int) (a : Int) : NL := { beg 5 (tki xs 0 8) X (tki xs a 4) with pl := tki xs (a + 4) 1, pip := tki xs (a + 5) 4, gw := tki xs (a + 9) 4, l1 := tki xs (a + 13) 3 }

theorem eight_cells {W : World} {b o : Nat} {xs : List Int} (h : Sl W b o xs) : ∀ j v, (u8s ((xs.drop 8).take 10))[j]? = some v → W.cell? ((⟨b, o + 8, none⟩ : Addr).add j) = some v := by
  intro j v hv
  simp only [u8s, List.getElem?_map, List.getElem?_take, List.getElem?_drop] at hv
  split at hv
  · rw [Addr.add_mid]
    cases hx : xs[8 + j]? with
    | none => rw [hx] at hv; cases hv
    | some y =>
      rw [hx] at hv
      obtain ⟨hl, he⟩ := List.getElem?_eq_some_iff.1 hx
      have := h (8 + j) hl
      rw [he] at this
      rw [show o + 8 + j = o + (8 + j) by omega, this]
      simpa using hv
  · cases hv

set_option maxHeartbeats 2000000 in
theorem rval_3 (A : Option Addr) (n c : Nat) (xs : List Int) (hn : xs.length = n) (hm : n ≤ 300) (hx : ∀ v ∈ xs, 0 ≤ v ∧ v ≤ 255) (hnc : n ≤ c) (hcm : c ≤ 9223372036854775807) (w : World) (h : Lies w A n xs) :
    Calls Try.prog 46 #[.int .i64 3, .slice A n c] w fun e w' => e = .returned (.agg (vw3 xs).cs) ∧ Below w.heap.size w w' := by
  have HN := Lib.hid hn
  have HX := Lib.hid hx
  have HL := Lib.hid h
  have HL1 : Hid (Lies (w.alloc (.cells zcs 31)) A n xs) := Lib.hid (h.below ((Below.refl _ w).alloc (Nat.le_refl _) _))
  have HW0 : Hid (VB w nl0 ((w.alloc (.cells zcs 31)).alloc (.cells zcs 31))) := Lib.hid (VB.start w)
  have HW : Hid (VB w ⟨3, tki xs 0 8, 0, 0, 0, 0, 0, 0, 0, 0, 0, 0, 0, 0, 0, false, 0, 0, 0, 0, 0⟩ (((w.alloc (.cells zcs 31)).alloc (.cells zcs 31)).setRow (w.heap.size + 1) (⟨3, tki xs 0 8, 0, 0, 0, 0, 0, 0, 0, 0, 0, 0, 0, 0, 0, false, 0, 0, 0, 0, 0⟩ : NL).cs)) := Lib.hid (HW0.out.row _)
  clear hn hx h
  go_enter Try.func46, Try.ntmps46
  go_wp2_with fail
  refine (rtk A n c xs HN.out 0 8 (by omega) (by omega) (by omega) HX.out _ HL1.out).mono ?_
  rintro e w1 ⟨rfl, rfl⟩
  go_wp2_with (refine wpList_store_row rfl 31 (.tmp 5) (.tmp 10) rfl (w.heap.size + 1) (⟨3, tki xs 0 8, 0, 0, 0, 0, 0, 0, 0, 0, 0, 0, 0, 0, 0, false, 0, 0, 0, 0, 0⟩ : NL).cs rfl rfl 31 zcs HW0.out.box (NL.fit _) rfl (NL.one _) ?_)
  clear HW0 HL1
  refine (rtk _ n c xs HN.out (8) 4 (by omega) (by omega) (by omega) HX.out _ (HW.out.lies HL.out)).mono ?_
  rintro e w1 ⟨rfl, rfl⟩
  have hm := in4 (tki_bd HX.out 8 4)
  have HO := HW
  clear HW
  have c := HO.out.box.n12
  have f := HO.out.box.free 12
  have HW := Lib.hid (HO.out.set 12 (.int .u32 (tki xs 8 4)) _ (set_tag _ _))
  go_wp2_with fail
  clear c f HO hm
  refine (rtk _ n c xs HN.out (13) 4 (by omega) (by omega) (by omega) HX.out _ (HW.out.lies HL.out)).mono ?_
  rintro e w1 ⟨rfl, rfl⟩
  have hm := in4 (tki_bd HX.out 13 4)
  have HO := HW
  clear HW
  have c := HO.out.box.n14
  have f := HO.out.box.free 14
  have HO2 := Lib.hid (HO.out.set 14 (.int .u32 (tki xs 13 4)) _ (set_ip _ _))
  have c15 := HO.out.box.n15
  have f15 := HO.out.box.free 15
  have HW := Lib.hid (HO2.out.set 15 (.bool true) _ (set_has _ _))
  go_upto_region 24 with fail
  go_wp2_with (first
    | (refine wpList_load_row rfl 31 (.tmp 5) rfl (w.heap.size + 1) rfl 31 _ (0, 0) _ HW.out.box Try.underlying31 rfl (NL.fit _) ?_)
    | (refine wpList_store_row rfl 31 (.tmp 4) (.tmp 107) rfl (w.heap.size) _ rfl rfl 31 zcs HW.out.zer (NL.fit _) rfl (NL.one _) ?_))
  have HE := Lib.hid (VB.end_ HW.out)
  exact bodyPost_ret (v := .agg (vw3 xs).cs) (results_cell_row rfl _ _ (w.heap.size) 31 (vw3 xs).cs (0, 0) _ rfl (setRow_heap _ _ _ _ _ _ HW.out.zer) Try.underlying31 rfl (NL.fit _)) rfl ⟨rfl, HE.out⟩

set_option maxHeartbeats 2000000 in
theorem rval_1y (A : Option Addr) (n c : Nat) (xs : List Int) (hn : xs.length = n) (hm : n ≤ 300) (hx : ∀ v ∈ xs, 0 ≤ v ∧ v ≤ 255) (hE : 18 ≤ n) (hnc : n ≤ c) (hcm : c ≤ 9223372036854775807) (w : World) (h : Lies w A n xs) :
    Calls Try.prog 46 #[.int .i64 1, .slice A n c] w fun e w' => e = .returned (.agg (vw1 xs ((xs.drop 8).take 10) 18).cs) ∧ Below w.heap.size w w' := by
  have HN := Lib.hid hn
  have HX := Lib.hid hx
  have HL := Lib.hid h
  have HL1 : Hid (Lies (w.alloc (.cells zcs 31)) A n xs) := Lib.hid (h.below ((Below.refl _ w).alloc (Nat.le_refl _) _))
  have HW0 : Hid (VB w nl0 ((w.alloc (.cells zcs 31)).alloc (.cells zcs 31))) := Lib.hid (VB.start w)
  have HW : Hid (VB w ⟨1, tki xs 0 8, 0, 0, 0, 0, 0, 0, 0, 0, 0, 0, 0, 0, 0, false, 0, 0, 0, 0, 0⟩ (((w.alloc (.cells zcs 31)).alloc (.cells zcs 31)).setRow (w.heap.size + 1) (⟨1, tki xs 0 8, 0, 0, 0, 0, 0, 0, 0, 0, 0, 0, 0, 0, 0, false, 0, 0, 0, 0, 0⟩ : NL).cs)) := Lib.hid (HW0.out.row _)
  clear hn hx h
  go_enter Try.func46, Try.ntmps46
  go_wp2_with fail
  refine (rtk A n c xs HN.out 0 8 (by omega) (by omega) (by omega) HX.out _ HL1.out).mono ?_
  rintro e w1 ⟨rfl, rfl⟩
  go_upto_region 4 with (refine wpList_store_row rfl 31 (.tmp 5) (.tmp 10) rfl (w.heap.size + 1) (⟨1, tki xs 0 8, 0, 0, 0, 0, 0, 0, 0, 0, 0, 0, 0, 0, 0, false, 0, 0, 0, 0, 0⟩ : NL).cs rfl rfl 31 zcs HW0.out.box (NL.fit _) rfl (NL.one _) ?_)
  generalize (((w.alloc (.cells zcs 31)).alloc (.cells zcs 31)).setRow (w.heap.size + 1) (⟨1, tki xs 0 8, 0, 0, 0, 0, 0, 0, 0, 0, 0, 0, 0, 0, 0, false, 0, 0, 0, 0, 0⟩ : NL).cs) = W1 at *
  clear HW0 HL1
  have HVd : Hid (VB w _ W1.drew) := Lib.hid HW.out.drew
  have HX10 : Hid (((xs.drop 8).take 10).length = 10) := Lib.hid (by have := HN.out; simp; omega)
  have hn10 : (u8s ((xs.drop 8).take 10)).length = Nat.min 10 10 := by rw [List.length_map, HX10.out]; rfl
  have hfit10 : 2 + (u8s ((xs.drop 8).take 10)).length ≤ (NL.l ⟨1, tki xs 0 8, 0, 0, 0, 0, 0, 0, 0, 0, 0, 0, 0, 0, 0, false, 0, 0, 0, 0, 0⟩).length := by rw [List.length_map, HX10.out, NL.l_len]; omega
  obtain ⟨b, o, rfl, hsl⟩ := HL.out (by omega)
  have hc18 : (18 : Int) ≤ (c : Int) := by omega
  have hc8 : ¬ c = 8 := by omega
  have hpos : ∃ ad, (some (⟨b, o + 8, none⟩ : Addr)) = some ad ∧ ∀ j v, (u8s ((xs.drop 8).take 10))[j]? = some v → W1.drew.cell? (ad.add j) = some v := ⟨_, rfl, eight_cells (Sl.below hsl HVd.out.bel)⟩
  have HPos := Lib.hid hpos
  have HNn := Lib.hid hn10
  have HFit := Lib.hid hfit10
  clear hpos hn10 hfit10 hsl
  go_region_held3 (fun w' => True)
    (first | trivial)
    (first
      | (refine step_copy_splice rfl (.tmp 19) (.tmp 21) 34 34 rfl 5 Try.underlying34 u8_size (some ⟨w.heap.size + 1, 2, none⟩) (some ⟨b, o + 8, none⟩) 10 10 10 (c - 8) rfl rfl (w.heap.size + 1) 2 (NL.l ⟨1, tki xs 0 8, 0, 0, 0, 0, 0, 0, 0, 0, 0, 0, 0, 0, 0, false, 0, 0, 0, 0, 0⟩) 31 HVd.out.box (u8s ((xs.drop 8).take 10)) HNn.out (fun _ => ⟨rfl, HPos.out⟩) HFit.out (u8s_one _) (w.heap.size + 1) W1.drew (Below.refl _ _) (Nat.le_refl _) ?_; intro w4 hg4 hb4))
  have HW4 := Lib.hid (VB.esi HVd.out hg4.out HX10.out hb4)
  clear HVd HPos HNn HFit hg4 hb4 HW
  have HW := HW4
  clear HW4
  have HL := Lib.hid (show Lies w (some ⟨b, o, none⟩) n xs from HL.out)
  clear hc18 hc8
  go_wp2_with fail
  refine (rtk _ n c xs HN.out (18) 4 (by omega) (by omega) (by omega) HX.out _ (HW.out.lies HL.out)).mono ?_
  rintro e w1 ⟨rfl, rfl⟩
  have hm := in4 (tki_bd HX.out 18 4)
  have HO := HW
  clear HW
  have c := HO.out.box.n12
  have f := HO.out.box.free 12
  have HW := Lib.hid (HO.out.set 12 (.int .u32 (tki xs 18 4)) _ (set_tag _ _))
  go_wp2_with fail
  clear c f HO hm
  refine (rtk _ n c xs HN.out (22) 3 (by omega) (by omega) (by omega) HX.out _ (HW.out.lies HL.out)).mono ?_
  rintro e w1 ⟨rfl, rfl⟩
  have hm := in3 (tki_bd HX.out 22 3)
  have HO := HW
  clear HW
  have c := HO.out.box.n19
  have f := HO.out.box.free 19
  have HW := Lib.hid (HO.out.set 19 (.int .u32 (tki xs 22 3)) _ (set_l1 _ _))
  go_upto_region 24 with fail
  go_wp2_with (first
    | (refine wpList_load_row rfl 31 (.tmp 5) rfl (w.heap.size + 1) rfl 31 _ (0, 0) _ HW.out.box Try.underlying31 rfl (NL.fit _) ?_)
    | (refine wpList_store_row rfl 31 (.tmp 4) (.tmp 107) rfl (w.heap.size) _ rfl rfl 31 zcs HW.out.zer (NL.fit _) rfl (NL.one _) ?_))
  clear c f HO hm
  have HE := Lib.hid (VB.end_ HW.out)
  exact bodyPost_ret (v := .agg (vw1 xs ((xs.drop 8).take 10) 18).cs) (results_cell_row rfl _ _ (w.heap.size) 31 (vw1 xs ((xs.drop 8).take 10) 18).cs (0, 0) _ rfl (setRow_heap _ _ _ _ _ _ HW.out.zer) Try.underlying31 rfl (NL.fit _)) rfl ⟨rfl, HE.out⟩

set_option maxHeartbeats 2000000 in
theorem rval_1n (A : Option Addr) (n c : Nat) (xs : List Int) (hn : xs.length = n) (hm : n ≤ 300) (hx : ∀ v ∈ xs, 0 ≤ v ∧ v ≤ 255) (hE : n < 18) (hnc : n ≤ c) (hcm : c ≤ 9223372036854775807) (w : World) (h : Lies w A n xs) :
    Calls Try.prog 46 #[.int .i64 1, .slice A n c] w fun e w' => e = .returned (.agg (vw1 xs [] 8).cs) ∧ Below w.heap.size w w' := by
  have HN := Lib.hid hn
  have HX := Lib.hid hx
  have HL := Lib.hid h
  have HL1 : Hid (Lies (w.alloc (.cells zcs 31)) A n xs) := Lib.hid (h.below ((Below.refl _ w).alloc (Nat.le_refl _) _))
  have HW0 : Hid (VB w nl0 ((w.alloc (.cells zcs 31)).alloc (.cells zcs 31))) := Lib.hid (VB.start w)
  have HW : Hid (VB w ⟨1, tki xs 0 8, 0, 0, 0, 0, 0, 0, 0, 0, 0, 0, 0, 0, 0, false, 0, 0, 0, 0, 0⟩ (((w.alloc (.cells zcs 31)).alloc (.cells zcs 31)).setRow (w.heap.size + 1) (⟨1, tki xs 0 8, 0, 0, 0, 0, 0, 0, 0, 0, 0, 0, 0, 0, 0, false, 0, 0, 0, 0, 0⟩ : NL).cs)) := Lib.hid (HW0.out.row _)
  clear hn hx h
  go_enter Try.func46, Try.ntmps46
  go_wp2_with fail
  refine (rtk A n c xs HN.out 0 8 (by omega) (by omega) (by omega) HX.out _ HL1.out).mono ?_
  rintro e w1 ⟨rfl, rfl⟩
  go_wp2_with (refine wpList_store_row rfl 31 (.tmp 5) (.tmp 10) rfl (w.heap.size + 1) (⟨1, tki xs 0 8, 0, 0, 0, 0, 0, 0, 0, 0, 0, 0, 0, 0, 0, false, 0, 0, 0, 0, 0⟩ : NL).cs rfl rfl 31 zcs HW0.out.box (NL.fit _) rfl (NL.one _) ?_)
  clear HW0 HL1
  refine (rtk _ n c xs HN.out (8) 4 (by omega) (by omega) (by omega) HX.out _ (HW.out.lies HL.out)).mono ?_
  rintro e w1 ⟨rfl, rfl⟩
  have hm := in4 (tki_bd HX.out 8 4)
  have HO := HW
  clear HW
  have c := HO.out.box.n12
  have f := HO.out.box.free 12
  have HW := Lib.hid (HO.out.set 12 (.int .u32 (tki xs 8 4)) _ (set_tag _ _))
  go_wp2_with fail
  clear c f HO hm
  refine (rtk _ n c xs HN.out (12) 3 (by omega) (by omega) (by omega) HX.out _ (HW.out.lies HL.out)).mono ?_
  rintro e w1 ⟨rfl, rfl⟩
  have hm := in3 (tki_bd HX.out 12 3)
  have HO := HW
  clear HW
  have c := HO.out.box.n19
  have f := HO.out.box.free 19
  have HW := Lib.hid (HO.out.set 19 (.int .u32 (tki xs 12 3)) _ (set_l1 _ _))
  go_upto_region 24 with fail
  go_wp2_with (first
    | (refine wpList_load_row rfl 31 (.tmp 5) rfl (w.heap.size + 1) rfl 31 _ (0, 0) _ HW.out.box Try.underlying31 rfl (NL.fit _) ?_)
    | (refine wpList_store_row rfl 31 (.tmp 4) (.tmp 107) rfl (w.heap.size) _ rfl rfl 31 zcs HW.out.zer (NL.fit _) rfl (NL.one _) ?_))
  clear c f HO hm
  have HE := Lib.hid (VB.end_ HW.out)
  exact bodyPost_ret (v := .agg (vw1 xs [] 8).cs) (results_cell_row rfl _ _ (w.heap.size) 31 (vw1 xs [] 8).cs (0, 0) _ rfl (setRow_heap _ _ _ _ _ _ HW.out.zer) Try.underlying31 rfl (NL.fit _)) rfl ⟨rfl, HE.out⟩

set_option maxHeartbeats 2000000 in
theorem rval_4y (A : Option Addr) (n c : Nat) (xs : List Int) (hn : xs.length = n) (hm : n ≤ 300) (hx : ∀ v ∈ xs, 0 ≤ v ∧ v ≤ 255) (hE : 18 ≤ n) (hnc : n ≤ c) (hcm : c ≤ 9223372036854775807) (w : World) (h : Lies w A n xs) :
    Calls Try.prog 46 #[.int .i64 4, .slice A n c] w fun e w' => e = .returned (.agg (vw4 xs ((xs.drop 8).take 10) 18).cs) ∧ Below w.heap.size w w' := by
  have HN := Lib.hid hn
  have HX := Lib.hid hx
  have HL := Lib.hid h
  have HL1 : Hid (Lies (w.alloc (.cells zcs 31)) A n xs) := Lib.hid (h.below ((Below.refl _ w).alloc (Nat.le_refl _) _))
  have HW0 : Hid (VB w nl0 ((w.alloc (.cells zcs 31)).alloc (.cells zcs 31))) := Lib.hid (VB.start w)
  have HW : Hid (VB w ⟨4, tki xs 0 8, 0, 0, 0, 0, 0, 0, 0, 0, 0, 0, 0, 0, 0, false, 0, 0, 0, 0, 0⟩ (((w.alloc (.cells zcs 31)).alloc (.cells zcs 31)).setRow (w.heap.size + 1) (⟨4, tki xs 0 8, 0, 0, 0, 0, 0, 0, 0, 0, 0, 0, 0, 0, 0, false, 0, 0, 0, 0, 0⟩ : NL).cs)) := Lib.hid (HW0.out.row _)
  clear hn hx h
  go_enter Try.func46, Try.ntmps46
  go_wp2_with fail
  refine (rtk A n c xs HN.out 0 8 (by omega) (by omega) (by omega) HX.out _ HL1.out).mono ?_
  rintro e w1 ⟨rfl, rfl⟩
  go_upto_region 4 with (refine wpList_store_row rfl 31 (.tmp 5) (.tmp 10) rfl (w.heap.size + 1) (⟨4, tki xs 0 8, 0, 0, 0, 0, 0, 0, 0, 0, 0, 0, 0, 0, 0, false, 0, 0, 0, 0, 0⟩ : NL).cs rfl rfl 31 zcs HW0.out.box (NL.fit _) rfl (NL.one _) ?_)
  generalize (((w.alloc (.cells zcs 31)).alloc (.cells zcs 31)).setRow (w.heap.size + 1) (⟨4, tki xs 0 8, 0, 0, 0, 0, 0, 0, 0, 0, 0, 0, 0, 0, 0, false, 0, 0, 0, 0, 0⟩ : NL).cs) = W1 at *
  clear HW0 HL1
  have HVd : Hid (VB w _ W1.drew) := Lib.hid HW.out.drew
  have HX10 : Hid (((xs.drop 8).take 10).length = 10) := Lib.hid (by have := HN.out; simp; omega)
  have hn10 : (u8s ((xs.drop 8).take 10)).length = Nat.min 10 10 := by rw [List.length_map, HX10.out]; rfl
  have hfit10 : 2 + (u8s ((xs.drop 8).take 10)).length ≤ (NL.l ⟨4, tki xs 0 8, 0, 0, 0, 0, 0, 0, 0, 0, 0, 0, 0, 0, 0, false, 0, 0, 0, 0, 0⟩).length := by rw [List.length_map, HX10.out, NL.l_len]; omega
  obtain ⟨b, o, rfl, hsl⟩ := HL.out (by omega)
  have hc18 : (18 : Int) ≤ (c : Int) := by omega
  have hc8 : ¬ c = 8 := by omega
  have hpos : ∃ ad, (some (⟨b, o + 8, none⟩ : Addr)) = some ad ∧ ∀ j v, (u8s ((xs.drop 8).take 10))[j]? = some v → W1.drew.cell? (ad.add j) = some v := ⟨_, rfl, eight_cells (Sl.below hsl HVd.out.bel)⟩
  have HPos := Lib.hid hpos
  have HNn := Lib.hid hn10
  have HFit := Lib.hid hfit10
  clear hpos hn10 hfit10 hsl
  go_region_held3 (fun w' => True)
    (first | trivial)
    (first
      | (refine step_copy_splice rfl (.tmp 19) (.tmp 21) 34 34 rfl 5 Try.underlying34 u8_size (some ⟨w.heap.size + 1, 2, none⟩) (some ⟨b, o + 8, none⟩) 10 10 10 (c - 8) rfl rfl (w.heap.size + 1) 2 (NL.l ⟨4, tki xs 0 8, 0, 0, 0, 0, 0, 0, 0, 0, 0, 0, 0, 0, 0, false, 0, 0, 0, 0, 0⟩) 31 HVd.out.box (u8s ((xs.drop 8).take 10)) HNn.out (fun _ => ⟨rfl, HPos.out⟩) HFit.out (u8s_one _) (w.heap.size + 1) W1.drew (Below.refl _ _) (Nat.le_refl _) ?_; intro w4 hg4 hb4))
  have HW4 := Lib.hid (VB.esi HVd.out hg4.out HX10.out hb4)
  clear HVd HPos HNn HFit hg4 hb4 HW
  have HW := HW4
  clear HW4
  have HL := Lib.hid (show Lies w (some ⟨b, o, none⟩) n xs from HL.out)
  clear hc18 hc8
  go_wp2_with fail
  refine (rtk _ n c xs HN.out (19) 4 (by omega) (by omega) (by omega) HX.out _ (HW.out.lies HL.out)).mono ?_
  rintro e w1 ⟨rfl, rfl⟩
  have hm := in4 (tki_bd HX.out 19 4)
  have HO := HW
  clear HW
  have c := HO.out.box.n14
  have f := HO.out.box.free 14
  have HO2 := Lib.hid (HO.out.set 14 (.int .u32 (tki xs 19 4)) _ (set_ip _ _))
  have c15 := HO.out.box.n15
  have f15 := HO.out.box.free 15
  have HW := Lib.hid (HO2.out.set 15 (.bool true) _ (set_has _ _))
  go_upto_region 24 with fail
  go_wp2_with (first
    | (refine wpList_load_row rfl 31 (.tmp 5) rfl (w.heap.size + 1) rfl 31 _ (0, 0) _ HW.out.box Try.underlying31 rfl (NL.fit _) ?_)
    | (refine wpList_store_row rfl 31 (.tmp 4) (.tmp 107) rfl (w.heap.size) _ rfl rfl 31 zcs HW.out.zer (NL.fit _) rfl (NL.one _) ?_))
  have HE := Lib.hid (VB.end_ HW.out)
  exact bodyPost_ret (v := .agg (vw4 xs ((xs.drop 8).take 10) 18).cs) (results_cell_row rfl _ _ (w.heap.size) 31 (vw4 xs ((xs.drop 8).take 10) 18).cs (0, 0) _ rfl (setRow_heap _ _ _ _ _ _ HW.out.zer) Try.underlying31 rfl (NL.fit _)) rfl ⟨rfl, HE.out⟩

set_option maxHeartbeats 2000000 in
theorem rval_4n (A : Option Addr) (n c : Nat) (xs : List Int) (hn : xs.length = n) (hm : n ≤ 300) (hx : ∀ v ∈ xs, 0 ≤ v ∧ v ≤ 255) (hE : n < 18) (hnc : n ≤ c) (hcm : c ≤ 9223372036854775807) (w : World) (h : Lies w A n xs) :
    Calls Try.prog 46 #[.int .i64 4, .slice A n c] w fun e w' => e = .returned (.agg (vw4 xs [] 8).cs) ∧ Below w.heap.size w w' := by
  have HN := Lib.hid hn
  have HX := Lib.hid hx
  have HL := Lib.hid h
  have HL1 : Hid (Lies (w.alloc (.cells zcs 31)) A n xs) := Lib.hid (h.below ((Below.refl _ w).alloc (Nat.le_refl _) _))
  have HW0 : Hid (VB w nl0 ((w.alloc (.cells zcs 31)).alloc (.cells zcs 31))) := Lib.hid (VB.start w)
  have HW : Hid (VB w ⟨4, tki xs 0 8, 0, 0, 0, 0, 0, 0, 0, 0, 0, 0, 0, 0, 0, false, 0, 0, 0, 0, 0⟩ (((w.alloc (.cells zcs 31)).alloc (.cells zcs 31)).setRow (w.heap.size + 1) (⟨4, tki xs 0 8, 0, 0, 0, 0, 0, 0, 0, 0, 0, 0, 0, 0, 0, false, 0, 0, 0, 0, 0⟩ : NL).cs)) := Lib.hid (HW0.out.row _)
  clear hn hx h
  go_enter Try.func46, Try.ntmps46
  go_wp2_with fail
  refine (rtk A n c xs HN.out 0 8 (by omega) (by omega) (by omega) HX.out _ HL1.out).mono ?_
  rintro e w1 ⟨rfl, rfl⟩
  go_wp2_with (refine wpList_store_row rfl 31 (.tmp 5) (.tmp 10) rfl (w.heap.size + 1) (⟨4, tki xs 0 8, 0, 0, 0, 0, 0, 0, 0, 0, 0, 0, 0, 0, 0, false, 0, 0, 0, 0, 0⟩ : NL).cs rfl rfl 31 zcs HW0.out.box (NL.fit _) rfl (NL.one _) ?_)
  clear HW0 HL1
  refine (rtk _ n c xs HN.out (9) 4 (by omega) (by omega) (by omega) HX.out _ (HW.out.lies HL.out)).mono ?_
  rintro e w1 ⟨rfl, rfl⟩
  have hm := in4 (tki_bd HX.out 9 4)
  have HO := HW
  clear HW
  have c := HO.out.box.n14
  have f := HO.out.box.free 14
  have HO2 := Lib.hid (HO.out.set 14 (.int .u32 (tki xs 9 4)) _ (set_ip _ _))
  have c15 := HO.out.box.n15
  have f15 := HO.out.box.free 15
  have HW := Lib.hid (HO2.out.set 15 (.bool true) _ (set_has _ _))
  go_upto_region 24 with fail
  go_wp2_with (first
    | (refine wpList_load_row rfl 31 (.tmp 5) rfl (w.heap.size + 1) rfl 31 _ (0, 0) _ HW.out.box Try.underlying31 rfl (NL.fit _) ?_)
    | (refine wpList_store_row rfl 31 (.tmp 4) (.tmp 107) rfl (w.heap.size) _ rfl rfl 31 zcs HW.out.zer (NL.fit _) rfl (NL.one _) ?_))
  have HE := Lib.hid (VB.end_ HW.out)
  exact bodyPost_ret (v := .agg (vw4 xs [] 8).cs) (results_cell_row rfl _ _ (w.heap.size) 31 (vw4 xs [] 8).cs (0, 0) _ rfl (setRow_heap _ _ _ _ _ _ HW.out.zer) Try.underlying31 rfl (NL.fit _)) rfl ⟨rfl, HE.out⟩

set_option maxHeartbeats 2000000 in
theorem rval_5y (A : Option Addr) (n c : Nat) (xs : List Int) (hn : xs.length = n) (hm : n ≤ 300) (hx : ∀ v ∈ xs, 0 ≤ v ∧ v ≤ 255) (hE : 18 ≤ n) (hnc : n ≤ c) (hcm : c ≤ 9223372036854775807) (w : World) (h : Lies w A n xs) :
    Calls Try.prog 46 #[.int .i64 5, .slice A n c] w fun e w' => e = .returned (.agg (vw5 xs ((xs.drop 8).take 10) 18).cs) ∧ Below w.heap.size w w' := by
  have HN := Lib.hid hn
  have HX := Lib.hid hx
  have HL := Lib.hid h
  have HL1 : Hid (Lies (w.alloc (.cells zcs 31)) A n xs) := Lib.hid (h.below ((Below.refl _ w).alloc (Nat.le_refl _) _))
  have HW0 : Hid (VB w nl0 ((w.alloc (.cells zcs 31)).alloc (.cells zcs 31))) := Lib.hid (VB.start w)
  have HW : Hid (VB w ⟨5, tki xs 0 8, 0, 0, 0, 0, 0, 0, 0, 0, 0, 0, 0, 0, 0, false, 0, 0, 0, 0, 0⟩ (((w.alloc (.cells zcs 31)).alloc (.cells zcs 31)).setRow (w.heap.size + 1) (⟨5, tki xs 0 8, 0, 0, 0, 0, 0, 0, 0, 0, 0, 0, 0, 0, 0, false, 0, 0, 0, 0, 0⟩ : NL).cs)) := Lib.hid (HW0.out.row _)
  clear hn hx h
  go_enter Try.func46, Try.ntmps46
  go_wp2_with fail
  refine (rtk A n c xs HN.out 0 8 (by omega) (by omega) (by omega) HX.out _ HL1.out).mono ?_
  rintro e w1 ⟨rfl, rfl⟩
  go_upto_region 4 with (refine wpList_store_row rfl 31 (.tmp 5) (.tmp 10) rfl (w.heap.size + 1) (⟨5, tki xs 0 8, 0, 0, 0, 0, 0, 0, 0, 0, 0, 0, 0, 0, 0, false, 0, 0, 0, 0, 0⟩ : NL).cs rfl rfl 31 zcs HW0.out.box (NL.fit _) rfl (NL.one _) ?_)
  generalize (((w.alloc (.cells zcs 31)).alloc (.cells zcs 31)).setRow (w.heap.size + 1) (⟨5, tki xs 0 8, 0, 0, 0, 0, 0, 0, 0, 0, 0, 0, 0, 0, 0, false, 0, 0, 0, 0, 0⟩ : NL).cs) = W1 at *
  clear HW0 HL1
  have HVd : Hid (VB w _ W1.drew) := Lib.hid HW.out.drew
  have HX10 : Hid (((xs.drop 8).take 10).length = 10) := Lib.hid (by have := HN.out; simp; omega)
  have hn10 : (u8s ((xs.drop 8).take 10)).length = Nat.min 10 10 := by rw [List.length_map, HX10.out]; rfl
  have hfit10 : 2 + (u8s ((xs.drop 8).take 10)).length ≤ (NL.l ⟨5, tki xs 0 8, 0, 0, 0, 0, 0, 0, 0, 0, 0, 0, 0, 0, 0, false, 0, 0, 0, 0, 0⟩).length := by rw [List.length_map, HX10.out, NL.l_len]; omega
  obtain ⟨b, o, rfl, hsl⟩ := HL.out (by omega)
  have hc18 : (18 : Int) ≤ (c : Int) := by omega
  have hc8 : ¬ c = 8 := by omega
  have hpos : ∃ ad, (some (⟨b, o + 8, none⟩ : Addr)) = some ad ∧ ∀ j v, (u8s ((xs.drop 8).take 10))[j]? = some v → W1.drew.cell? (ad.add j) = some v := ⟨_, rfl, eight_cells (Sl.below hsl HVd.out.bel)⟩
  have HPos := Lib.hid hpos
  have HNn := Lib.hid hn10
  have HFit := Lib.hid hfit10
  clear hpos hn10 hfit10 hsl
  go_region_held3 (fun w' => True)
    (first | trivial)
    (first
      | (refine step_copy_splice rfl (.tmp 19) (.tmp 21) 34 34 rfl 5 Try.underlying34 u8_size (some ⟨w.heap.size + 1, 2, none⟩) (some ⟨b, o + 8, none⟩) 10 10 10 (c - 8) rfl rfl (w.heap.size + 1) 2 (NL.l ⟨5, tki xs 0 8, 0, 0, 0, 0, 0, 0, 0, 0, 0, 0, 0, 0, 0, false, 0, 0, 0, 0, 0⟩) 31 HVd.out.box (u8s ((xs.drop 8).take 10)) HNn.out (fun _ => ⟨rfl, HPos.out⟩) HFit.out (u8s_one _) (w.heap.size + 1) W1.drew (Below.refl _ _) (Nat.le_refl _) ?_; intro w4 hg4 hb4))
  have HW4 := Lib.hid (VB.esi HVd.out hg4.out HX10.out hb4)
  clear HVd HPos HNn HFit hg4 hb4 HW
  have HW := HW4
  clear HW4
  have HL := Lib.hid (show Lies w (some ⟨b, o, none⟩) n xs from HL.out)
  clear hc18 hc8
  go_wp2_with fail
  refine (rtk _ n c xs HN.out (18) 4 (by omega) (by omega) (by omega) HX.out _ (HW.out.lies HL.out)).mono ?_
  rintro e w1 ⟨rfl, rfl⟩
  have hm := in4 (tki_bd HX.out 18 4)
  have HO := HW
  clear HW
  have c := HO.out.box.n12
  have f := HO.out.box.free 12
  have HW := Lib.hid (HO.out.set 12 (.int .u32 (tki xs 18 4)) _ (set_tag _ _))
  go_wp2_with fail
  clear c f HO hm
  refine (rtk _ n c xs HN.out (23) 4 (by omega) (by omega) (by omega) HX.out _ (HW.out.lies HL.out)).mono ?_
  rintro e w1 ⟨rfl, rfl⟩
  have hm := in4 (tki_bd HX.out 23 4)
  go_wp2_with fail
  refine (rtk _ n c xs HN.out (22) 1 (by omega) (by omega) (by omega) HX.out _ (HW.out.lies HL.out)).mono ?_
  rintro e w1 ⟨rfl, rfl⟩
  have hm1 := in1 (tki_bd HX.out 22 1)
  have HO := HW
  clear HW
  have c16 := HO.out.box.n16
  have f16 := HO.out.box.free 16
  have HO2 := Lib.hid (HO.out.set 16 (.int .u32 (tki xs 23 4)) _ (set_pip _ _))
  have c17 := HO.out.box.n17
  have f17 := HO.out.box.free 17
  have HW := Lib.hid (HO2.out.set 17 (.int .i64 (tki xs 22 1)) _ (set_pl _ _))
  go_wp2_with fail
  clear c16 f16 c17 f17 hm hm1 HO HO2
  refine (rtk _ n c xs HN.out (27) 4 (by omega) (by omega) (by omega) HX.out _ (HW.out.lies HL.out)).mono ?_
  rintro e w1 ⟨rfl, rfl⟩
  have hm := in4 (tki_bd HX.out 27 4)
  go_wp2_with fail
  refine (rtk _ n c xs HN.out (31) 3 (by omega) (by omega) (by omega) HX.out _ (HW.out.lies HL.out)).mono ?_
  rintro e w1 ⟨rfl, rfl⟩
  have hm2 := in3 (tki_bd HX.out 31 3)
  have HO := HW
  clear HW
  have c := HO.out.box.n18
  have f := HO.out.box.free 18
  have HO2 := Lib.hid (HO.out.set 18 (.int .u32 (tki xs 27 4)) _ (set_gw _ _))
  have c19 := HO.out.box.n19
  have f19 := HO.out.box.free 19
  have HW := Lib.hid (HO2.out.set 19 (.int .u32 (tki xs 31 3)) _ (set_l1 _ _))
  go_upto_region 24 with fail
  go_wp2_with (first
    | (refine wpList_load_row rfl 31 (.tmp 5) rfl (w.heap.size + 1) rfl 31 _ (0, 0) _ HW.out.box Try.underlying31 rfl (NL.fit _) ?_)
    | (refine wpList_store_row rfl 31 (.tmp 4) (.tmp 107) rfl (w.heap.size) _ rfl rfl 31 zcs HW.out.zer (NL.fit _) rfl (NL.one _) ?_))
  have HE := Lib.hid (VB.end_ HW.out)
  exact bodyPost_ret (v := .agg (vw5 xs ((xs.drop 8).take 10) 18).cs) (results_cell_row rfl _ _ (w.heap.size) 31 (vw5 xs ((xs.drop 8).take 10) 18).cs (0, 0) _ rfl (setRow_heap _ _ _ _ _ _ HW.out.zer) Try.underlying31 rfl (NL.fit _)) rfl ⟨rfl, HE.out⟩

set_option maxHeartbeats 2000000 in
theorem rval_5n (A : Option Addr) (n c : Nat) (xs : List Int) (hn : xs.length = n) (hm : n ≤ 300) (hx : ∀ v ∈ xs, 0 ≤ v ∧ v ≤ 255) (hE : n < 18) (hnc : n ≤ c) (hcm : c ≤ 9223372036854775807) (w : World) (h : Lies w A n xs) :
    Calls Try.prog 46 #[.int .i64 5, .slice A n c] w fun e w' => e = .returned (.agg (vw5 xs [] 8).cs) ∧ Below w.heap.size w w' := by
  have HN := Lib.hid hn
  have HX := Lib.hid hx
  have HL := Lib.hid h
  have HL1 : Hid (Lies (w.alloc (.cells zcs 31)) A n xs) := Lib.hid (h.below ((Below.refl _ w).alloc (Nat.le_refl _) _))
  have HW0 : Hid (VB w nl0 ((w.alloc (.cells zcs 31)).alloc (.cells zcs 31))) := Lib.hid (VB.start w)
  have HW : Hid (VB w ⟨5, tki xs 0 8, 0, 0, 0, 0, 0, 0, 0, 0, 0, 0, 0, 0, 0, false, 0, 0, 0, 0, 0⟩ (((w.alloc (.cells zcs 31)).alloc (.cells zcs 31)).setRow (w.heap.size + 1) (⟨5, tki xs 0 8, 0, 0, 0, 0, 0, 0, 0, 0, 0, 0, 0, 0, 0, false, 0, 0, 0, 0, 0⟩ : NL).cs)) := Lib.hid (HW0.out.row _)
  clear hn hx h
  go_enter Try.func46, Try.ntmps46
  go_wp2_with fail
  refine (rtk A n c xs HN.out 0 8 (by omega) (by omega) (by omega) HX.out _ HL1.out).mono ?_
  rintro e w1 ⟨rfl, rfl⟩
  go_wp2_with (refine wpList_store_row rfl 31 (.tmp 5) (.tmp 10) rfl (w.heap.size + 1) (⟨5, tki xs 0 8, 0, 0, 0, 0, 0, 0, 0, 0, 0, 0, 0, 0, 0, false, 0, 0, 0, 0, 0⟩ : NL).cs rfl rfl 31 zcs HW0.out.box (NL.fit _) rfl (NL.one _) ?_)
  clear HW0 HL1
  refine (rtk _ n c xs HN.out (8) 4 (by omega) (by omega) (by omega) HX.out _ (HW.out.lies HL.out)).mono ?_
  rintro e w1 ⟨rfl, rfl⟩
  have hm := in4 (tki_bd HX.out 8 4)
  have HO := HW
  clear HW
  have c := HO.out.box.n12
  have f := HO.out.box.free 12
  have HW := Lib.hid (HO.out.set 12 (.int .u32 (tki xs 8 4)) _ (set_tag _ _))
  go_wp2_with fail
  clear c f HO hm
  refine (rtk _ n c xs HN.out (13) 4 (by omega) (by omega) (by omega) HX.out _ (HW.out.lies HL.out)).mono ?_
  rintro e w1 ⟨rfl, rfl⟩
  have hm := in4 (tki_bd HX.out 13 4)
  go_wp2_with fail
  refine (rtk _ n c xs HN.out (12) 1 (by omega) (by omega) (by omega) HX.out _ (HW.out.lies HL.out)).mono ?_
  rintro e w1 ⟨rfl, rfl⟩
  have hm1 := in1 (tki_bd HX.out 12 1)
  have HO := HW
  clear HW
  have c16 := HO.out.box.n16
  have f16 := HO.out.box.free 16
  have HO2 := Lib.hid (HO.out.set 16 (.int .u32 (tki xs 13 4)) _ (set_pip _ _))
  have c17 := HO.out.box.n17
  have f17 := HO.out.box.free 17
  have HW := Lib.hid (HO2.out.set 17 (.int .i64 (tki xs 12 1)) _ (set_pl _ _))
  go_wp2_with fail
  clear c16 f16 c17 f17 hm hm1 HO HO2
  refine (rtk _ n c xs HN.out (17) 4 (by omega) (by omega) (by omega) HX.out _ (HW.out.lies HL.out)).mono ?_
  rintro e w1 ⟨rfl, rfl⟩
  have hm := in4 (tki_bd HX.out 17 4)
  go_wp2_with fail
  refine (rtk _ n c xs HN.out (21) 3 (by omega) (by omega) (by omega) HX.out _ (HW.out.lies HL.out)).mono ?_
  rintro e w1 ⟨rfl, rfl⟩
  have hm2 := in3 (tki_bd HX.out 21 3)
  have HO := HW
  clear HW
  have c := HO.out.box.n18
  have f := HO.out.box.free 18
  have HO2 := Lib.hid (HO.out.set 18 (.int .u32 (tki xs 17 4)) _ (set_gw _ _))
  have c19 := HO.out.box.n19
  have f19 := HO.out.box.free 19
  have HW := Lib.hid (HO2.out.set 19 (.int .u32 (tki xs 21 3)) _ (set_l1 _ _))
  go_upto_region 24 with fail
  go_wp2_with (first
    | (refine wpList_load_row rfl 31 (.tmp 5) rfl (w.heap.size + 1) rfl 31 _ (0, 0) _ HW.out.box Try.underlying31 rfl (NL.fit _) ?_)
    | (refine wpList_store_row rfl 31 (.tmp 4) (.tmp 107) rfl (w.heap.size) _ rfl rfl 31 zcs HW.out.zer (NL.fit _) rfl (NL.one _) ?_))
  have HE := Lib.hid (VB.end_ HW.out)
  exact bodyPost_ret (v := .agg (vw5 xs [] 8).cs) (results_cell_row rfl _ _ (w.heap.size) 31 (vw5 xs [] 8).cs (0, 0) _ rfl (setRow_heap _ _ _ _ _ _ HW.out.zer) Try.underlying31 rfl (NL.fit _)) rfl ⟨rfl, HE.out⟩

set_option maxHeartbeats 2000000 in
theorem rval_2yy (A : Option Addr) (n c : Nat) (xs : List Int) (hn : xs.length = n) (hm : n ≤ 300) (hx : ∀ v ∈ xs, 0 ≤ v ∧ v ≤ 255) (hE : 18 ≤ n) (hH : (tki xs 29 1 == 32) = true) (hnc : n ≤ c) (hcm : c ≤ 9223372036854775807) (w : World) (h : Lies w A n xs) :
    Calls Try.prog 46 #[.int .i64 2, .slice A n c] w fun e w' => e = .returned (.agg (vw2 xs ((xs.drop 8).take 10) 18 true).cs) ∧ Below w.heap.size w w' := by
  have HN := Lib.hid hn
  have HX := Lib.hid hx
  have HL := Lib.hid h
  have HL1 : Hid (Lies (w.alloc (.cells zcs 31)) A n xs) := Lib.hid (h.below ((Below.refl _ w).alloc (Nat.le_refl _) _))
  have HW0 : Hid (VB w nl0 ((w.alloc (.cells zcs 31)).alloc (.cells zcs 31))) := Lib.hid (VB.start w)
  have HW : Hid (VB w ⟨2, tki xs 0 8, 0, 0, 0, 0, 0, 0, 0, 0, 0, 0, 0, 0, 0, false, 0, 0, 0, 0, 0⟩ (((w.alloc (.cells zcs 31)).alloc (.cells zcs 31)).setRow (w.heap.size + 1) (⟨2, tki xs 0 8, 0, 0, 0, 0, 0, 0, 0, 0, 0, 0, 0, 0, 0, false, 0, 0, 0, 0, 0⟩ : NL).cs)) := Lib.hid (HW0.out.row _)
  have HH := Lib.hid hH
  clear hH
  clear hn hx h
  go_enter Try.func46, Try.ntmps46
  go_wp2_with fail
  refine (rtk A n c xs HN.out 0 8 (by omega) (by omega) (by omega) HX.out _ HL1.out).mono ?_
  rintro e w1 ⟨rfl, rfl⟩
  go_upto_region 4 with (refine wpList_store_row rfl 31 (.tmp 5) (.tmp 10) rfl (w.heap.size + 1) (⟨2, tki xs 0 8, 0, 0, 0, 0, 0, 0, 0, 0, 0, 0, 0, 0, 0, false, 0, 0, 0, 0, 0⟩ : NL).cs rfl rfl 31 zcs HW0.out.box (NL.fit _) rfl (NL.one _) ?_)
  generalize (((w.alloc (.cells zcs 31)).alloc (.cells zcs 31)).setRow (w.heap.size + 1) (⟨2, tki xs 0 8, 0, 0, 0, 0, 0, 0, 0, 0, 0, 0, 0, 0, 0, false, 0, 0, 0, 0, 0⟩ : NL).cs) = W1 at *
  clear HW0 HL1
  have HVd : Hid (VB w _ W1.drew) := Lib.hid HW.out.drew
  have HX10 : Hid (((xs.drop 8).take 10).length = 10) := Lib.hid (by have := HN.out; simp; omega)
  have hn10 : (u8s ((xs.drop 8).take 10)).length = Nat.min 10 10 := by rw [List.length_map, HX10.out]; rfl
  have hfit10 : 2 + (u8s ((xs.drop 8).take 10)).length ≤ (NL.l ⟨2, tki xs 0 8, 0, 0, 0, 0, 0, 0, 0, 0, 0, 0, 0, 0, 0, false, 0, 0, 0, 0, 0⟩).length := by rw [List.length_map, HX10.out, NL.l_len]; omega
  obtain ⟨b, o, rfl, hsl⟩ := HL.out (by omega)
  have hc18 : (18 : Int) ≤ (c : Int) := by omega
  have hc8 : ¬ c = 8 := by omega
  have hpos : ∃ ad, (some (⟨b, o + 8, none⟩ : Addr)) = some ad ∧ ∀ j v, (u8s ((xs.drop 8).take 10))[j]? = some v → W1.drew.cell? (ad.add j) = some v := ⟨_, rfl, eight_cells (Sl.below hsl HVd.out.bel)⟩
  have HPos := Lib.hid hpos
  have HNn := Lib.hid hn10
  have HFit := Lib.hid hfit10
  clear hpos hn10 hfit10 hsl
  go_region_held3 (fun w' => True)
    (first | trivial)
    (first
      | (refine step_copy_splice rfl (.tmp 19) (.tmp 21) 34 34 rfl 5 Try.underlying34 u8_size (some ⟨w.heap.size + 1, 2, none⟩) (some ⟨b, o + 8, none⟩) 10 10 10 (c - 8) rfl rfl (w.heap.size + 1) 2 (NL.l ⟨2, tki xs 0 8, 0, 0, 0, 0, 0, 0, 0, 0, 0, 0, 0, 0, 0, false, 0, 0, 0, 0, 0⟩) 31 HVd.out.box (u8s ((xs.drop 8).take 10)) HNn.out (fun _ => ⟨rfl, HPos.out⟩) HFit.out (u8s_one _) (w.heap.size + 1) W1.drew (Below.refl _ _) (Nat.le_refl _) ?_; intro w4 hg4 hb4))
  have HW4 := Lib.hid (VB.esi HVd.out hg4.out HX10.out hb4)
  clear HVd HPos HNn HFit hg4 hb4 HW
  have HW := HW4
  clear HW4
  have HL := Lib.hid (show Lies w (some ⟨b, o, none⟩) n xs from HL.out)
  clear hc18 hc8
  go_wp2_with fail
  refine (rtk _ n c xs HN.out (18) 4 (by omega) (by omega) (by omega) HX.out _ (HW.out.lies HL.out)).mono ?_
  rintro e w1 ⟨rfl, rfl⟩
  have hm := in4 (tki_bd HX.out 18 4)
  have HO := HW
  clear HW
  have c := HO.out.box.n12
  have f := HO.out.box.free 12
  have HW := Lib.hid (HO.out.set 12 (.int .u32 (tki xs 18 4)) _ (set_tag _ _))
  go_wp2_with fail
  clear c f HO hm
  refine (rtk _ n c xs HN.out (23) 6 (by omega) (by omega) (by omega) HX.out _ (HW.out.lies HL.out)).mono ?_
  rintro e w1 ⟨rfl, rfl⟩
  have HO := HW
  clear HW
  have c := HO.out.box.n13
  have f := HO.out.box.free 13
  have HW := Lib.hid (HO.out.set 13 (.int .u64 (tki xs 23 6)) _ (set_mac _ _))
  go_wp2_with fail
  clear c f HO
  refine (rtk _ n c xs HN.out (29) 1 (by omega) (by omega) (by omega) HX.out _ (HW.out.lies HL.out)).mono ?_
  rintro e w1 ⟨rfl, rfl⟩
  have hH := HH.out
  have HO := HW
  clear HW
  have c := HO.out.box.n15
  have f := HO.out.box.free 15
  have HW := Lib.hid (HO.out.set 15 (.bool true) _ (set_has _ _))
  have b15 := HW.out.box.n15
  go_wp2_with fail
  clear c f HO hH
  refine (rtk _ n c xs HN.out (30) 4 (by omega) (by omega) (by omega) HX.out _ (HW.out.lies HL.out)).mono ?_
  rintro e w1 ⟨rfl, rfl⟩
  have hm := in4 (tki_bd HX.out 30 4)
  have HO := HW
  clear HW
  have c := HO.out.box.n14
  have f := HO.out.box.free 14
  have HW := Lib.hid (HO.out.set 14 (.int .u32 (tki xs 30 4)) _ (set_ip _ _))
  go_wp2_with fail
  clear c f HO hm
  clear b15
  refine (rtk _ n c xs HN.out (34) 3 (by omega) (by omega) (by omega) HX.out _ (HW.out.lies HL.out)).mono ?_
  rintro e w1 ⟨rfl, rfl⟩
  have hm := in3 (tki_bd HX.out 34 3)
  go_wp2_with fail
  refine (rtk _ n c xs HN.out (37) 3 (by omega) (by omega) (by omega) HX.out _ (HW.out.lies HL.out)).mono ?_
  rintro e w1 ⟨rfl, rfl⟩
  have hm2 := in3 (tki_bd HX.out 37 3)
  have HO := HW
  clear HW
  have c := HO.out.box.n19
  have f := HO.out.box.free 19
  have HO2 := Lib.hid (HO.out.set 19 (.int .u32 (tki xs 34 3)) _ (set_l1 _ _))
  have c20 := HO.out.box.n20
  have f20 := HO.out.box.free 20
  have HW := Lib.hid (HO2.out.set 20 (.int .u32 (tki xs 37 3)) _ (set_l2 _ _))
  go_upto_region 24 with fail
  go_wp2_with (first
    | (refine wpList_load_row rfl 31 (.tmp 5) rfl (w.heap.size + 1) rfl 31 _ (0, 0) _ HW.out.box Try.underlying31 rfl (NL.fit _) ?_)
    | (refine wpList_store_row rfl 31 (.tmp 4) (.tmp 107) rfl (w.heap.size) _ rfl rfl 31 zcs HW.out.zer (NL.fit _) rfl (NL.one _) ?_))
  have HE := Lib.hid (VB.end_ HW.out)
  exact bodyPost_ret (v := .agg (vw2 xs ((xs.drop 8).take 10) 18 true).cs) (results_cell_row rfl _ _ (w.heap.size) 31 (vw2 xs ((xs.drop 8).take 10) 18 true).cs (0, 0) _ rfl (setRow_heap _ _ _ _ _ _ HW.out.zer) Try.underlying31 rfl (NL.fit _)) rfl ⟨rfl, HE.out⟩

set_option maxHeartbeats 2000000 in
theorem rval_2yn (A : Option Addr) (n c : Nat) (xs : List Int) (hn : xs.length = n) (hm : n ≤ 300) (hx : ∀ v ∈ xs, 0 ≤ v ∧ v ≤ 255) (hE : 18 ≤ n) (hH : (tki xs 29 1 == 32) = false) (hnc : n ≤ c) (hcm : c ≤ 9223372036854775807) (w : World) (h : Lies w A n xs) :
    Calls Try.prog 46 #[.int .i64 2, .slice A n c] w fun e w' => e = .returned (.agg (vw2 xs ((xs.drop 8).take 10) 18 false).cs) ∧ Below w.heap.size w w' := by
  have HN := Lib.hid hn
  have HX := Lib.hid hx
  have HL := Lib.hid h
  have HL1 : Hid (Lies (w.alloc (.cells zcs 31)) A n xs) := Lib.hid (h.below ((Below.refl _ w).alloc (Nat.le_refl _) _))
  have HW0 : Hid (VB w nl0 ((w.alloc (.cells zcs 31)).alloc (.cells zcs 31))) := Lib.hid (VB.start w)
  have HW : Hid (VB w ⟨2, tki xs 0 8, 0, 0, 0, 0, 0, 0, 0, 0, 0, 0, 0, 0, 0, false, 0, 0, 0, 0, 0⟩ (((w.alloc (.cells zcs 31)).alloc (.cells zcs 31)).setRow (w.heap.size + 1) (⟨2, tki xs 0 8, 0, 0, 0, 0, 0, 0, 0, 0, 0, 0, 0, 0, 0, false, 0, 0, 0, 0, 0⟩ : NL).cs)) := Lib.hid (HW0.out.row _)
  have HH := Lib.hid hH
  clear hH
  clear hn hx h
  go_enter Try.func46, Try.ntmps46
  go_wp2_with fail
  refine (rtk A n c xs HN.out 0 8 (by omega) (by omega) (by omega) HX.out _ HL1.out).mono ?_
  rintro e w1 ⟨rfl, rfl⟩
  go_upto_region 4 with (refine wpList_store_row rfl 31 (.tmp 5) (.tmp 10) rfl (w.heap.size + 1) (⟨2, tki xs 0 8, 0, 0, 0, 0, 0, 0, 0, 0, 0, 0, 0, 0, 0, false, 0, 0, 0, 0, 0⟩ : NL).cs rfl rfl 31 zcs HW0.out.box (NL.fit _) rfl (NL.one _) ?_)
  generalize (((w.alloc (.cells zcs 31)).alloc (.cells zcs 31)).setRow (w.heap.size + 1) (⟨2, tki xs 0 8, 0, 0, 0, 0, 0, 0, 0, 0, 0, 0, 0, 0, 0, false, 0, 0, 0, 0, 0⟩ : NL).cs) = W1 at *
  clear HW0 HL1
  have HVd : Hid (VB w _ W1.drew) := Lib.hid HW.out.drew
  have HX10 : Hid (((xs.drop 8).take 10).length = 10) := Lib.hid (by have := HN.out; simp; omega)
  have hn10 : (u8s ((xs.drop 8).take 10)).length = Nat.min 10 10 := by rw [List.length_map, HX10.out]; rfl
  have hfit10 : 2 + (u8s ((xs.drop 8).take 10)).length ≤ (NL.l ⟨2, tki xs 0 8, 0, 0, 0, 0, 0, 0, 0, 0, 0, 0, 0, 0, 0, false, 0, 0, 0, 0, 0⟩).length := by rw [List.length_map, HX10.out, NL.l_len]; omega
  obtain ⟨b, o, rfl, hsl⟩ := HL.out (by omega)
  have hc18 : (18 : Int) ≤ (c : Int) := by omega
  have hc8 : ¬ c = 8 := by omega
  have hpos : ∃ ad, (some (⟨b, o + 8, none⟩ : Addr)) = some ad ∧ ∀ j v, (u8s ((xs.drop 8).take 10))[j]? = some v → W1.drew.cell? (ad.add j) = some v := ⟨_, rfl, eight_cells (Sl.below hsl HVd.out.bel)⟩
  have HPos := Lib.hid hpos
  have HNn := Lib.hid hn10
  have HFit := Lib.hid hfit10
  clear hpos hn10 hfit10 hsl
  go_region_held3 (fun w' => True)
    (first | trivial)
    (first
      | (refine step_copy_splice rfl (.tmp 19) (.tmp 21) 34 34 rfl 5 Try.underlying34 u8_size (some ⟨w.heap.size + 1, 2, none⟩) (some ⟨b, o + 8, none⟩) 10 10 10 (c - 8) rfl rfl (w.heap.size + 1) 2 (NL.l ⟨2, tki xs 0 8, 0, 0, 0, 0, 0, 0, 0, 0, 0, 0, 0, 0, 0, false, 0, 0, 0, 0, 0⟩) 31 HVd.out.box (u8s ((xs.drop 8).take 10)) HNn.out (fun _ => ⟨rfl, HPos.out⟩) HFit.out (u8s_one _) (w.heap.size + 1) W1.drew (Below.refl _ _) (Nat.le_refl _) ?_; intro w4 hg4 hb4))
  have HW4 := Lib.hid (VB.esi HVd.out hg4.out HX10.out hb4)
  clear HVd HPos HNn HFit hg4 hb4 HW
  have HW := HW4
  clear HW4
  have HL := Lib.hid (show Lies w (some ⟨b, o, none⟩) n xs from HL.out)
  clear hc18 hc8
  go_wp2_with fail
  refine (rtk _ n c xs HN.out (18) 4 (by omega) (by omega) (by omega) HX.out _ (HW.out.lies HL.out)).mono ?_
  rintro e w1 ⟨rfl, rfl⟩
  have hm := in4 (tki_bd HX.out 18 4)
  have HO := HW
  clear HW
  have c := HO.out.box.n12
  have f := HO.out.box.free 12
  have HW := Lib.hid (HO.out.set 12 (.int .u32 (tki xs 18 4)) _ (set_tag _ _))
  go_wp2_with fail
  clear c f HO hm
  refine (rtk _ n c xs HN.out (23) 6 (by omega) (by omega) (by omega) HX.out _ (HW.out.lies HL.out)).mono ?_
  rintro e w1 ⟨rfl, rfl⟩
  have HO := HW
  clear HW
  have c := HO.out.box.n13
  have f := HO.out.box.free 13
  have HW := Lib.hid (HO.out.set 13 (.int .u64 (tki xs 23 6)) _ (set_mac _ _))
  go_wp2_with fail
  clear c f HO
  refine (rtk _ n c xs HN.out (29) 1 (by omega) (by omega) (by omega) HX.out _ (HW.out.lies HL.out)).mono ?_
  rintro e w1 ⟨rfl, rfl⟩
  have hH := HH.out
  have HO := HW
  clear HW
  have c := HO.out.box.n15
  have f := HO.out.box.free 15
  have HW := Lib.hid (HO.out.set 15 (.bool false) _ (set_has _ _))
  have b15 := HW.out.box.n15
  go_wp2_with fail
  clear c f HO hH
  refine (rtk _ n c xs HN.out (30) 3 (by omega) (by omega) (by omega) HX.out _ (HW.out.lies HL.out)).mono ?_
  rintro e w1 ⟨rfl, rfl⟩
  have hm := in3 (tki_bd HX.out 30 3)
  go_wp2_with fail
  refine (rtk _ n c xs HN.out (33) 3 (by omega) (by omega) (by omega) HX.out _ (HW.out.lies HL.out)).mono ?_
  rintro e w1 ⟨rfl, rfl⟩
  have hm2 := in3 (tki_bd HX.out 33 3)
  have HO := HW
  clear HW
  have c := HO.out.box.n19
  have f := HO.out.box.free 19
  have HO2 := Lib.hid (HO.out.set 19 (.int .u32 (tki xs 30 3)) _ (set_l1 _ _))
  have c20 := HO.out.box.n20
  have f20 := HO.out.box.free 20
  have HW := Lib.hid (HO2.out.set 20 (.int .u32 (tki xs 33 3)) _ (set_l2 _ _))
  go_upto_region 24 with fail
  go_wp2_with (first
    | (refine wpList_load_row rfl 31 (.tmp 5) rfl (w.heap.size + 1) rfl 31 _ (0, 0) _ HW.out.box Try.underlying31 rfl (NL.fit _) ?_)
    | (refine wpList_store_row rfl 31 (.tmp 4) (.tmp 107) rfl (w.heap.size) _ rfl rfl 31 zcs HW.out.zer (NL.fit _) rfl (NL.one _) ?_))
  have HE := Lib.hid (VB.end_ HW.out)
  exact bodyPost_ret (v := .agg (vw2 xs ((xs.drop 8).take 10) 18 false).cs) (results_cell_row rfl _ _ (w.heap.size) 31 (vw2 xs ((xs.drop 8).take 10) 18 false).cs (0, 0) _ rfl (setRow_heap _ _ _ _ _ _ HW.out.zer) Try.underlying31 rfl (NL.fit _)) rfl ⟨rfl, HE.out⟩

set_option maxHeartbeats 2000000 in
theorem rval_2ny (A : Option Addr) (n c : Nat) (xs : List Int) (hn : xs.length = n) (hm : n ≤ 300) (hx : ∀ v ∈ xs, 0 ≤ v ∧ v ≤ 255) (hE : n < 18) (hH : (tki xs 19 1 == 32) = true) (hnc : n ≤ c) (hcm : c ≤ 9223372036854775807) (w : World) (h : Lies w A n xs) :
    Calls Try.prog 46 #[.int .i64 2, .slice A n c] w fun e w' => e = .returned (.agg (vw2 xs [] 8 true).cs) ∧ Below w.heap.size w w' := by
  have HN := Lib.hid hn
  have HX := Lib.hid hx
  have HL := Lib.hid h
  have HL1 : Hid (Lies (w.alloc (.cells zcs 31)) A n xs) := Lib.hid (h.below ((Below.refl _ w).alloc (Nat.le_refl _) _))
  have HW0 : Hid (VB w nl0 ((w.alloc (.cells zcs 31)).alloc (.cells zcs 31))) := Lib.hid (VB.start w)
  have HW : Hid (VB w ⟨2, tki xs 0 8, 0, 0, 0, 0, 0, 0, 0, 0, 0, 0, 0, 0, 0, false, 0, 0, 0, 0, 0⟩ (((w.alloc (.cells zcs 31)).alloc (.cells zcs 31)).setRow (w.heap.size + 1) (⟨2, tki xs 0 8, 0, 0, 0, 0, 0, 0, 0, 0, 0, 0, 0, 0, 0, false, 0, 0, 0, 0, 0⟩ : NL).cs)) := Lib.hid (HW0.out.row _)
  have HH := Lib.hid hH
  clear hH
  clear hn hx h
  go_enter Try.func46, Try.ntmps46
  go_wp2_with fail
  refine (rtk A n c xs HN.out 0 8 (by omega) (by omega) (by omega) HX.out _ HL1.out).mono ?_
  rintro e w1 ⟨rfl, rfl⟩
  go_wp2_with (refine wpList_store_row rfl 31 (.tmp 5) (.tmp 10) rfl (w.heap.size + 1) (⟨2, tki xs 0 8, 0, 0, 0, 0, 0, 0, 0, 0, 0, 0, 0, 0, 0, false, 0, 0, 0, 0, 0⟩ : NL).cs rfl rfl 31 zcs HW0.out.box (NL.fit _) rfl (NL.one _) ?_)
  clear HW0 HL1
  refine (rtk _ n c xs HN.out (8) 4 (by omega) (by omega) (by omega) HX.out _ (HW.out.lies HL.out)).mono ?_
  rintro e w1 ⟨rfl, rfl⟩
  have hm := in4 (tki_bd HX.out 8 4)
  have HO := HW
  clear HW
  have c := HO.out.box.n12
  have f := HO.out.box.free 12
  have HW := Lib.hid (HO.out.set 12 (.int .u32 (tki xs 8 4)) _ (set_tag _ _))
  go_wp2_with fail
  clear c f HO hm
  refine (rtk _ n c xs HN.out (13) 6 (by omega) (by omega) (by omega) HX.out _ (HW.out.lies HL.out)).mono ?_
  rintro e w1 ⟨rfl, rfl⟩
  have HO := HW
  clear HW
  have c := HO.out.box.n13
  have f := HO.out.box.free 13
  have HW := Lib.hid (HO.out.set 13 (.int .u64 (tki xs 13 6)) _ (set_mac _ _))
  go_wp2_with fail
  clear c f HO
  refine (rtk _ n c xs HN.out (19) 1 (by omega) (by omega) (by omega) HX.out _ (HW.out.lies HL.out)).mono ?_
  rintro e w1 ⟨rfl, rfl⟩
  have hH := HH.out
  have HO := HW
  clear HW
  have c := HO.out.box.n15
  have f := HO.out.box.free 15
  have HW := Lib.hid (HO.out.set 15 (.bool true) _ (set_has _ _))
  have b15 := HW.out.box.n15
  go_wp2_with fail
  clear c f HO hH
  refine (rtk _ n c xs HN.out (20) 4 (by omega) (by omega) (by omega) HX.out _ (HW.out.lies HL.out)).mono ?_
  rintro e w1 ⟨rfl, rfl⟩
  have hm := in4 (tki_bd HX.out 20 4)
  have HO := HW
  clear HW
  have c := HO.out.box.n14
  have f := HO.out.box.free 14
  have HW := Lib.hid (HO.out.set 14 (.int .u32 (tki xs 20 4)) _ (set_ip _ _))
  go_wp2_with fail
  clear c f HO hm
  clear b15
  refine (rtk _ n c xs HN.out (24) 3 (by omega) (by omega) (by omega) HX.out _ (HW.out.lies HL.out)).mono ?_
  rintro e w1 ⟨rfl, rfl⟩
  have hm := in3 (tki_bd HX.out 24 3)
  go_wp2_with fail
  refine (rtk _ n c xs HN.out (27) 3 (by omega) (by omega) (by omega) HX.out _ (HW.out.lies HL.out)).mono ?_
  rintro e w1 ⟨rfl, rfl⟩
  have hm2 := in3 (tki_bd HX.out 27 3)
  have HO := HW
  clear HW
  have c := HO.out.box.n19
  have f := HO.out.box.free 19
  have HO2 := Lib.hid (HO.out.set 19 (.int .u32 (tki xs 24 3)) _ (set_l1 _ _))
  have c20 := HO.out.box.n20
  have f20 := HO.out.box.free 20
  have HW := Lib.hid (HO2.out.set 20 (.int .u32 (tki xs 27 3)) _ (set_l2 _ _))
  go_upto_region 24 with fail
  go_wp2_with (first
    | (refine wpList_load_row rfl 31 (.tmp 5) rfl (w.heap.size + 1) rfl 31 _ (0, 0) _ HW.out.box Try.underlying31 rfl (NL.fit _) ?_)
    | (refine wpList_store_row rfl 31 (.tmp 4) (.tmp 107) rfl (w.heap.size) _ rfl rfl 31 zcs HW.out.zer (NL.fit _) rfl (NL.one _) ?_))
  have HE := Lib.hid (VB.end_ HW.out)
  exact bodyPost_ret (v := .agg (vw2 xs [] 8 true).cs) (results_cell_row rfl _ _ (w.heap.size) 31 (vw2 xs [] 8 true).cs (0, 0) _ rfl (setRow_heap _ _ _ _ _ _ HW.out.zer) Try.underlying31 rfl (NL.fit _)) rfl ⟨rfl, HE.out⟩

set_option maxHeartbeats 2000000 in
theorem rval_2nn (A : Option Addr) (n c : Nat) (xs : List Int) (hn : xs.length = n) (hm : n ≤ 300) (hx : ∀ v ∈ xs, 0 ≤ v ∧ v ≤ 255) (hE : n < 18) (hH : (tki xs 19 1 == 32) = false) (hnc : n ≤ c) (hcm : c ≤ 9223372036854775807) (w : World) (h : Lies w A n xs) :
    Calls Try.prog 46 #[.int .i64 2, .slice A n c] w fun e w' => e = .returned (.agg (vw2 xs [] 8 false).cs) ∧ Below w.heap.size w w' := by
  have HN := Lib.hid hn
  have HX := Lib.hid hx
  have HL := Lib.hid h
  have HL1 : Hid (Lies (w.alloc (.cells zcs 31)) A n xs) := Lib.hid (h.below ((Below.refl _ w).alloc (Nat.le_refl _) _))
  have HW0 : Hid (VB w nl0 ((w.alloc (.cells zcs 31)).alloc (.cells zcs 31))) := Lib.hid (VB.start w)
  have HW : Hid (VB w ⟨2, tki xs 0 8, 0, 0, 0, 0, 0, 0, 0, 0, 0, 0, 0, 0, 0, false, 0, 0, 0, 0, 0⟩ (((w.alloc (.cells zcs 31)).alloc (.cells zcs 31)).setRow (w.heap.size + 1) (⟨2, tki xs 0 8, 0, 0, 0, 0, 0, 0, 0, 0, 0, 0, 0, 0, 0, false, 0, 0, 0, 0, 0⟩ : NL).cs)) := Lib.hid (HW0.out.row _)
  have HH := Lib.hid hH
  clear hH
  clear hn hx h
  go_enter Try.func46, Try.ntmps46
  go_wp2_with fail
  refine (rtk A n c xs HN.out 0 8 (by omega) (by omega) (by omega) HX.out _ HL1.out).mono ?_
  rintro e w1 ⟨rfl, rfl⟩
  go_wp2_with (refine wpList_store_row rfl 31 (.tmp 5) (.tmp 10) rfl (w.heap.size + 1) (⟨2, tki xs 0 8, 0, 0, 0, 0, 0, 0, 0, 0, 0, 0, 0, 0, 0, false, 0, 0, 0, 0, 0⟩ : NL).cs rfl rfl 31 zcs HW0.out.box (NL.fit _) rfl (NL.one _) ?_)
  clear HW0 HL1
  refine (rtk _ n c xs HN.out (8) 4 (by omega) (by omega) (by omega) HX.out _ (HW.out.lies HL.out)).mono ?_
  rintro e w1 ⟨rfl, rfl⟩
  have hm := in4 (tki_bd HX.out 8 4)
  have HO := HW
  clear HW
  have c := HO.out.box.n12
  have f := HO.out.box.free 12
  have HW := Lib.hid (HO.out.set 12 (.int .u32 (tki xs 8 4)) _ (set_tag _ _))
  go_wp2_with fail
  clear c f HO hm
  refine (rtk _ n c xs HN.out (13) 6 (by omega) (by omega) (by omega) HX.out _ (HW.out.lies HL.out)).mono ?_
  rintro e w1 ⟨rfl, rfl⟩
  have HO := HW
  clear HW
  have c := HO.out.box.n13
  have f := HO.out.box.free 13
  have HW := Lib.hid (HO.out.set 13 (.int .u64 (tki xs 13 6)) _ (set_mac _ _))
  go_wp2_with fail
  clear c f HO
  refine (rtk _ n c xs HN.out (19) 1 (by omega) (by omega) (by omega) HX.out _ (HW.out.lies HL.out)).mono ?_
  rintro e w1 ⟨rfl, rfl⟩
  have hH := HH.out
  have HO := HW
  clear HW
  have c := HO.out.box.n15
  have f := HO.out.box.free 15
  have HW := Lib.hid (HO.out.set 15 (.bool false) _ (set_has _ _))
  have b15 := HW.out.box.n15
  go_wp2_with fail
  clear c f HO hH
  refine (rtk _ n c xs HN.out (20) 3 (by omega) (by omega) (by omega) HX.out _ (HW.out.lies HL.out)).mono ?_
  rintro e w1 ⟨rfl, rfl⟩
  have hm := in3 (tki_bd HX.out 20 3)
  go_wp2_with fail
  refine (rtk _ n c xs HN.out (23) 3 (by omega) (by omega) (by omega) HX.out _ (HW.out.lies HL.out)).mono ?_
  rintro e w1 ⟨rfl, rfl⟩
  have hm2 := in3 (tki_bd HX.out 23 3)
  have HO := HW
  clear HW
  have c := HO.out.box.n19
  have f := HO.out.box.free 19
  have HO2 := Lib.hid (HO.out.set 19 (.int .u32 (tki xs 20 3)) _ (set_l1 _ _))
  have c20 := HO.out.box.n20
  have f20 := HO.out.box.free 20
  have HW := Lib.hid (HO2.out.set 20 (.int .u32 (tki xs 23 3)) _ (set_l2 _ _))
  go_upto_region 24 with fail
  go_wp2_with (first
    | (refine wpList_load_row rfl 31 (.tmp 5) rfl (w.heap.size + 1) rfl 31 _ (0, 0) _ HW.out.box Try.underlying31 rfl (NL.fit _) ?_)
    | (refine wpList_store_row rfl 31 (.tmp 4) (.tmp 107) rfl (w.heap.size) _ rfl rfl 31 zcs HW.out.zer (NL.fit _) rfl (NL.one _) ?_))
  have HE := Lib.hid (VB.end_ HW.out)
  exact bodyPost_ret (v := .agg (vw2 xs [] 8 false).cs) (results_cell_row rfl _ _ (w.heap.size) 31 (vw2 xs [] 8 false).cs (0, 0) _ rfl (setRow_heap _ _ _ _ _ _ HW.out.zer) Try.underlying31 rfl (NL.fit _)) rfl ⟨rfl, HE.out⟩

/-- The route that a value would encode. -/
def vesi (xs : List Int) : List Int := if 18 ≤ xs.length then (xs.drop 8).take 10 else []
def vat (xs : List Int) : Int := if 18 ≤ xs.length then 18 else 8
def vl : Nat → List Int → NL
  | 1, xs => vw1 xs (vesi xs) (vat xs)
  | 2, xs => vw2 xs (vesi xs) (vat xs) (tki xs (vat xs + 11) 1 == 32)
  | 3, xs => vw3 xs
  | 4, xs => vw4 xs (vesi xs) (vat xs)
  | _, xs => vw5 xs (vesi xs) (vat xs)

theorem rvalue_any (k : Nat) (h1 : 1 ≤ k) (h5 : k ≤ 5) (A : Option Addr) (n c : Nat) (xs : List Int) (hn : xs.length = n) (hm : n ≤ 300) (hx : ∀ v ∈ xs, 0 ≤ v ∧ v ≤ 255) (hnc : n ≤ c) (hcm : c ≤ 9223372036854775807) (w : World) (h : Lies w A n xs) :
    Calls Try.prog 46 #[.int .i64 k, .slice A n c] w fun e w' => e = .returned (.agg (vl k xs).cs) ∧ Below w.heap.size w w' := by
  have hk : k = 1 ∨ k = 2 ∨ k = 3 ∨ k = 4 ∨ k = 5 := by omega
  by_cases hE : 18 ≤ n
  · have e1 : vesi xs = (xs.drop 8).take 10 := by unfold vesi; rw [if_pos (by omega)]
    have e2 : vat xs = 18 := by unfold vat; rw [if_pos (by omega)]
    rcases hk with rfl | rfl | rfl | rfl | rfl
    · show Calls _ _ _ _ fun e w' => e = .returned (.agg (vw1 xs (vesi xs) (vat xs)).cs) ∧ _
      rw [e1, e2]; exact rval_1y A n c xs hn hm hx hE hnc hcm w h
    · show Calls _ _ _ _ fun e w' => e = .returned (.agg (vw2 xs (vesi xs) (vat xs) (tki xs (vat xs + 11) 1 == 32)).cs) ∧ _
      rw [e1, e2]
      cases hH : (tki xs (18 + 11) 1 == 32)
      · exact rval_2yn A n c xs hn hm hx hE hH hnc hcm w h
      · exact rval_2yy A n c xs hn hm hx hE hH hnc hcm w h
    · exact rval_3 A n c xs hn hm hx hnc hcm w h
    · show Calls _ _ _ _ fun e w' => e = .returned (.agg (vw4 xs (vesi xs) (vat xs)).cs) ∧ _
      rw [e1, e2]; exact rval_4y A n c xs hn hm hx hE hnc hcm w h
    · show Calls _ _ _ _ fun e w' => e = .returned (.agg (vw5 xs (vesi xs) (vat xs)).cs) ∧ _
      rw [e1, e2]; exact rval_5y A n c xs hn hm hx hE hnc hcm w h
  · have hE : n < 18 := by omega
    have e1 : vesi xs = [] := by unfold vesi; rw [if_neg (by omega)]
    have e2 : vat xs = 8 := by unfold vat; rw [if_neg (by omega)]
    rcases hk with rfl | rfl | rfl | rfl | rfl
    · show Calls _ _ _ _ fun e w' => e = .returned (.agg (vw1 xs (vesi xs) (vat xs)).cs) ∧ _
      rw [e1, e2]; exact rval_1n A n c xs hn hm hx hE hnc hcm w h
    · show Calls _ _ _ _ fun e w' => e = .returned (.agg (vw2 xs (vesi xs) (vat xs) (tki xs (vat xs + 11) 1 == 32)).cs) ∧ _
      rw [e1, e2]
      cases hH : (tki xs (8 + 11) 1 == 32)
      · exact rval_2nn A n c xs hn hm hx hE hH hnc hcm w h
      · exact rval_2ny A n c xs hn hm hx hE hH hnc hcm w h
    · exact rval_3 A n c xs hn hm hx hnc hcm w h
    · show Calls _ _ _ _ fun e w' => e = .returned (.agg (vw4 xs (vesi xs) (vat xs)).cs) ∧ _
      rw [e1, e2]; exact rval_4n A n c xs hn hm hx hE hnc hcm w h
    · show Calls _ _ _ _ fun e w' => e = .returned (.agg (vw5 xs (vesi xs) (vat xs)).cs) ∧ _
      rw [e1, e2]; exact rval_5n A n c xs hn hm hx hE hnc hcm w h

end Go.Proofs.Ythhajknmokomjaa
