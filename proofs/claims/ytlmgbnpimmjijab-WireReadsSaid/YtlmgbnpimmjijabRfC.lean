/- WireReads: the document's own reader: Sub. -/
import Derived.Test.YtlmgbnpimmjijabRfB
import Derived.Deep.RegionHeld3
import Derived.Deep.DeepCutAuto
namespace Go.Proofs.Ytlmgbnpimmjijab
open Go.RowKit
set_option linter.unusedVariables false
set_option maxRecDepth 100000

/-- What is held while a part is laid: the reader stands, and nothing old has turned. -/
structure FH (w : World) (o h cap : Nat) (xs : List Int) (p en : Nat) (ef ea : Int) (w' : World) : Prop where
  rf : Rf w' o h cap xs p en ef ea
  bel : Below w.heap.size w w'

section
variable {w w' : World} {o h cap : Nat} {xs : List Int} {p en : Nat} {ef ea : Int}
theorem FH.all (H : FH w o h cap xs p en ef ea w') : w'.cell? ⟨o, 0, none⟩ = some (.slice (some ⟨h, 0, none⟩) xs.length cap) ∧ w'.cell? ⟨o, 1, none⟩ = some (.int .i64 (p : Int)) ∧ w'.cell? ⟨o, 2, none⟩ = some (.int .i64 (en : Int)) ∧ w'.cell? ⟨o, 3, none⟩ = some (.int .i64 ef) ∧ w'.cell? ⟨o, 4, none⟩ = some (.int .i64 ea) ∧ FH w o h cap xs p en ef ea w' :=
  ⟨H.rf.c0, H.rf.c1, H.rf.c2, H.rf.c3, H.rf.c4, H⟩
theorem FH.drewN (H : FH w o h cap xs p en ef ea w') (n : Nat) : FH w o h cap xs p en ef ea (w'.drewN n) := ⟨H.rf.drewN n, ⟨H.bel.os, H.bel.tape, H.bel.output, H.bel.size, H.bel.block⟩⟩
theorem FH.drew (H : FH w o h cap xs p en ef ea w') : FH w o h cap xs p en ef ea w'.drew := ⟨H.rf.drewN 1, H.bel.drew⟩
theorem FH.alloc (H : FH w o h cap xs p en ef ea w') (x : Obj) : FH w o h cap xs p en ef ea (w'.alloc x) := ⟨H.rf.below ((Below.refl _ w').alloc (Nat.le_refl _) x), H.bel.alloc H.bel.size x⟩
end

theorem fsub_a (o h cap : Nat) (xs : List Int) (p en : Nat) (ef ea : Int) (w : World) (H : Rf w o h cap xs p en ef ea) (m : Int) (hf : (ef == 0) = false) :
    Calls Try.prog 43 #[.pointer (some ⟨o, 0, none⟩), .int .i64 m] w fun e w' => (∃ o', e = .returned (.pointer (some ⟨o', 0, none⟩)) ∧ w.heap.size ≤ o' ∧ Rf w' o' h cap xs p p ef ea) ∧ Below w.heap.size w w' := by
  go_enter Try.func43, Try.ntmps43
  go_wp2_with fail
  refine (fhas_a o h cap xs p en ef ea _ H m hf).mono ?_
  rintro e w' ⟨rfl, k, rfl⟩
  have HF : Hid (FH w o h cap xs p en ef ea (w.drewN k)) := Lib.hid ⟨H.drewN k, ⟨rfl, rfl, rfl, Nat.le_refl _, fun _ _ => rfl⟩⟩
  generalize w.drewN k = w1 at HF ⊢
  have ha := HF.out.all
  obtain ⟨c0, c1, c2, c3, c4, _⟩ := ha
  clear H
  go_wp2_with fail
  go_region_held3 (fun w' => w'.cell? ⟨o, 0, none⟩ = some (.slice (some ⟨h, 0, none⟩) xs.length cap) ∧ w'.cell? ⟨o, 1, none⟩ = some (.int .i64 (p : Int)) ∧ w'.cell? ⟨o, 2, none⟩ = some (.int .i64 (en : Int)) ∧ w'.cell? ⟨o, 3, none⟩ = some (.int .i64 ef) ∧ w'.cell? ⟨o, 4, none⟩ = some (.int .i64 ea) ∧ FH w o h cap xs p en ef ea w')
    (first | exact HF.out.drew.all | (go_split_ands; exact (FH.alloc (by assumption) _).all) | (go_split_ands; exact (FH.drewN (by assumption) _).all) | (go_split_ands; exact FH.all (by assumption)))
    (first | fail)
  go_wp2_with fail
  go_ret
  go_split_ands
  refine ⟨⟨w1.heap.size, rfl, HF.out.bel.size, ⟨Has.new w1 _ _, ?_, Nat.le_refl _, ?_, HF.out.rf.small, HF.out.rf.byte⟩⟩, FH.bel (by assumption)⟩
  · exact Rf.row (FH.rf (by assumption))
  · have h1 := HF.out.rf.lo
    have h2 := HF.out.rf.hi
    omega

theorem fsub_b (o h cap : Nat) (xs : List Int) (p en : Nat) (ea : Int) (w : World) (H : Rf w o h cap xs p en 0 ea) (m : Int) (hm : m < 0) :
    Calls Try.prog 43 #[.pointer (some ⟨o, 0, none⟩), .int .i64 m] w fun e w' => (∃ o', e = .returned (.pointer (some ⟨o', 0, none⟩)) ∧ w.heap.size ≤ o' ∧ Rf w' o' h cap xs p p 4 p) ∧ Rf w' o h cap xs p en 4 p ∧ Only w o w' := by
  go_enter Try.func43, Try.ntmps43
  go_wp2_with fail
  refine (fhas_b o h cap xs p en ea _ H m hm).mono ?_
  rintro e w0 ⟨rfl, hrf, hon⟩
  have HO := Lib.hid hon
  have HF : Hid (FH w0 o h cap xs p en 4 p w0) := Lib.hid ⟨hrf, Below.refl _ _⟩
  have ha := HF.out.all
  obtain ⟨c0, c1, c2, c3, c4, _⟩ := ha
  clear H hrf hon
  go_wp2_with fail
  go_region_held3 (fun w' => w'.cell? ⟨o, 0, none⟩ = some (.slice (some ⟨h, 0, none⟩) xs.length cap) ∧ w'.cell? ⟨o, 1, none⟩ = some (.int .i64 (p : Int)) ∧ w'.cell? ⟨o, 2, none⟩ = some (.int .i64 (en : Int)) ∧ w'.cell? ⟨o, 3, none⟩ = some (.int .i64 4) ∧ w'.cell? ⟨o, 4, none⟩ = some (.int .i64 (p : Int)) ∧ FH w0 o h cap xs p en 4 (p : Int) w')
    (first | exact HF.out.drew.all | (go_split_ands; exact (FH.alloc (by assumption) _).all) | (go_split_ands; exact (FH.drewN (by assumption) _).all) | (go_split_ands; exact FH.all (by assumption)))
    (first | fail)
  go_wp2_with fail
  go_ret
  go_split_ands
  refine ⟨⟨w0.heap.size, rfl, HO.out.size, ⟨Has.new w0 _ _, ?_, Nat.le_refl _, ?_, HF.out.rf.small, HF.out.rf.byte⟩⟩, FH.rf (by assumption), only_trans HO.out (only_below (FH.bel (by assumption)) o)⟩
  · exact Rf.row (FH.rf (by assumption))
  · have h1 := HF.out.rf.lo
    have h2 := HF.out.rf.hi
    omega

theorem fsub_c (o h cap : Nat) (xs : List Int) (p en : Nat) (ea : Int) (w : World) (H : Rf w o h cap xs p en 0 ea) (m : Int) (hm0 : 0 ≤ m) (hm : ((en - p : Nat) : Int) < m) :
    Calls Try.prog 43 #[.pointer (some ⟨o, 0, none⟩), .int .i64 m] w fun e w' => (∃ o', e = .returned (.pointer (some ⟨o', 0, none⟩)) ∧ w.heap.size ≤ o' ∧ Rf w' o' h cap xs p p 4 p) ∧ Rf w' o h cap xs p en 4 p ∧ Only w o w' := by
  go_enter Try.func43, Try.ntmps43
  go_wp2_with fail
  refine (fhas_c o h cap xs p en ea _ H m hm0 hm).mono ?_
  rintro e w0 ⟨rfl, hrf, hon⟩
  have HO := Lib.hid hon
  have HF : Hid (FH w0 o h cap xs p en 4 p w0) := Lib.hid ⟨hrf, Below.refl _ _⟩
  have ha := HF.out.all
  obtain ⟨c0, c1, c2, c3, c4, _⟩ := ha
  clear H hrf hon
  go_wp2_with fail
  go_region_held3 (fun w' => w'.cell? ⟨o, 0, none⟩ = some (.slice (some ⟨h, 0, none⟩) xs.length cap) ∧ w'.cell? ⟨o, 1, none⟩ = some (.int .i64 (p : Int)) ∧ w'.cell? ⟨o, 2, none⟩ = some (.int .i64 (en : Int)) ∧ w'.cell? ⟨o, 3, none⟩ = some (.int .i64 4) ∧ w'.cell? ⟨o, 4, none⟩ = some (.int .i64 (p : Int)) ∧ FH w0 o h cap xs p en 4 (p : Int) w')
    (first | exact HF.out.drew.all | (go_split_ands; exact (FH.alloc (by assumption) _).all) | (go_split_ands; exact (FH.drewN (by assumption) _).all) | (go_split_ands; exact FH.all (by assumption)))
    (first | fail)
  go_wp2_with fail
  go_ret
  go_split_ands
  refine ⟨⟨w0.heap.size, rfl, HO.out.size, ⟨Has.new w0 _ _, ?_, Nat.le_refl _, ?_, HF.out.rf.small, HF.out.rf.byte⟩⟩, FH.rf (by assumption), only_trans HO.out (only_below (FH.bel (by assumption)) o)⟩
  · exact Rf.row (FH.rf (by assumption))
  · have h1 := HF.out.rf.lo
    have h2 := HF.out.rf.hi
    omega

theorem fsub_d (o h cap : Nat) (xs : List Int) (p en : Nat) (w : World) (H : Rf w o h cap xs p en 0 0) (m : Nat) (hm : m ≤ en - p) :
    Calls Try.prog 43 #[.pointer (some ⟨o, 0, none⟩), .int .i64 m] w fun e w' => (∃ o', e = .returned (.pointer (some ⟨o', 0, none⟩)) ∧ w.heap.size ≤ o' ∧ Rf w' o' h cap xs p (p + m) 0 0) ∧ Rf w' o h cap xs (p + m) en 0 0 ∧ Only w o w' := by
  have l1 := H.lo
  have l2 := H.hi
  have l3 := H.small
  go_enter Try.func43, Try.ntmps43
  go_wp2_with fail
  refine (fhas_d o h cap xs p en 0 _ H m (by omega) (by omega)).mono ?_
  rintro e w' ⟨rfl, k, rfl⟩
  have H1 := H.drewN k
  have c1 := H1.c1
  have f1 := H1.blk.free 1
  have HO1 : Hid (Only w o (w.drewN k)) := Lib.hid (only_drewN (only_refl w o) k)
  have HH := Lib.hid H1
  clear H H1
  generalize w.drewN k = w1 at *
  go_upto_region 4 with fail
  have hs1 : IntKind.i64.wrap ((p : Int) + (m : Int)) = ((p + m : Nat) : Int) := IntWalk.i64_in _ (by omega)
  have ho1 : Only w1 o (w1.setCell ⟨o, 1, none⟩ (.int .i64 ((p : Int) + (m : Int)))) := only_setN (only_refl w1 o) 1 _
  have hb1 := HH.out.blk.set_ 1 (.int .i64 ((p : Int) + (m : Int)))
  have hr1 : Rf (w1.setCell ⟨o, 1, none⟩ (.int .i64 ((p : Int) + (m : Int)))) o h cap xs (p + m) en 0 0 := HH.out.moved ho1 (by simpa using hb1) (by omega) l2
  have HO2 : Hid (Only w o (w1.setCell ⟨o, 1, none⟩ (.int .i64 ((p : Int) + (m : Int))))) := Lib.hid (only_trans HO1.out ho1)
  have HF : Hid (FH (w1.setCell ⟨o, 1, none⟩ (.int .i64 ((p : Int) + (m : Int)))) o h cap xs (p + m) en 0 0 (w1.setCell ⟨o, 1, none⟩ (.int .i64 ((p : Int) + (m : Int))))) := Lib.hid ⟨hr1, Below.refl _ _⟩
  clear hs1 ho1 hb1 hr1 c1 f1 HO1 HH
  generalize w1.setCell ⟨o, 1, none⟩ (.int .i64 ((p : Int) + (m : Int))) = w2 at *
  have ha := HF.out.all
  obtain ⟨c0, c1, c2, c3, c4, _⟩ := ha
  go_region_held3 (fun w' => w'.cell? ⟨o, 0, none⟩ = some (.slice (some ⟨h, 0, none⟩) xs.length cap) ∧ w'.cell? ⟨o, 1, none⟩ = some (.int .i64 ((p + m : Nat) : Int)) ∧ w'.cell? ⟨o, 2, none⟩ = some (.int .i64 (en : Int)) ∧ w'.cell? ⟨o, 3, none⟩ = some (.int .i64 0) ∧ w'.cell? ⟨o, 4, none⟩ = some (.int .i64 0) ∧ FH w2 o h cap xs (p + m) en 0 0 w')
    (first | exact HF.out.drew.all | (go_split_ands; exact (FH.alloc (by assumption) _).all) | (go_split_ands; exact (FH.drewN (by assumption) _).all) | (go_split_ands; exact FH.all (by assumption)))
    (first | fail)
  go_wp2_with fail
  go_ret
  go_split_ands
  refine ⟨⟨w2.heap.size, rfl, HO2.out.size, ⟨?_, ?_, ?_, ?_, HF.out.rf.small, HF.out.rf.byte⟩⟩, FH.rf (by assumption), only_trans HO2.out (only_below (FH.bel (by assumption)) o)⟩
  · have hw : IntKind.i64.wrap (p : Int) = (p : Int) := IntWalk.i64_in _ (by omega)
    rw [hw, show ((p + m : Nat) : Int) = (p : Int) + (m : Int) from by omega]
    exact Has.new w2 _ _
  · exact Rf.row (FH.rf (by assumption))
  · omega
  · omega

end Go.Proofs.Ytlmgbnpimmjijab
