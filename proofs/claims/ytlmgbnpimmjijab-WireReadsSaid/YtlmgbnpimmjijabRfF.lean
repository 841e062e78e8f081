/- WireReads: the document's own reader: Bytes that are there. -/
import Derived.Test.YtlmgbnpimmjijabRfE
import Derived.Deep.AppendLies
import Derived.Deep.RegionLawGrows
namespace Go.Proofs.Ytlmgbnpimmjijab
open Go.RowKit
set_option linter.unusedVariables false
set_option maxRecDepth 100000

theorem FH.more {w w' : World} {o h cap : Nat} {xs : List Int} {p en : Nat} {ef ea : Int} (H : FH w o h cap xs p en ef ea w) (hg : (w.alloc (.cells #[] 5)).grownBy w' (some w.heap.size)) : FH w o h cap xs p en ef ea w' := by
  have h1 := H.rf.blk.lt
  have h2 : h < w.heap.size := by
    obtain ⟨cur, hh, _⟩ := H.rf.row
    exact hh.lt
  have hb : Below w.heap.size w (w.alloc (.cells #[] 5)) := (Below.refl _ w).alloc (Nat.le_refl _) _
  exact ⟨(H.rf.below hb).grown hg (by intro he; injection he with he; omega) (by intro he; injection he with he; omega), below_only hb hg (Nat.le_refl _) (by simp)⟩

theorem fbytes_d (o h cap : Nat) (xs : List Int) (p en : Nat) (w : World) (H : Rf w o h cap xs p en 0 0) (m : Nat) (hm : m ≤ en - p) (hm1 : 0 < m) :
    Calls Try.prog 42 #[.pointer (some ⟨o, 0, none⟩), .int .i64 m] w fun e w' => (∃ v, e = .returned v ∧ Got w' w.heap.size v ((xs.drop p).take m)) ∧ Rf w' o h cap xs (p + m) en 0 0 ∧ Only w o w' := by
  have l1 := H.lo
  have l2 := H.hi
  have l3 := H.small
  have hcap : xs.length ≤ cap ∧ cap ≤ maxLen := by
    obtain ⟨_, _, _, _, h1, h2⟩ := H.row
    exact ⟨h1, h2⟩
  unfold maxLen at hcap
  obtain ⟨hcap1, hcap2⟩ := hcap
  go_enter Try.func42, Try.ntmps42
  go_wp2_with fail
  refine (fhas_d o h cap xs p en 0 _ H m (by omega) (by omega)).mono ?_
  rintro e w' ⟨rfl, k, rfl⟩
  have H1 := H.drewN k
  have c1 := H1.c1
  have f1 := H1.blk.free 1
  have HO1 : Hid (Only w o (w.drewN k)) := Lib.hid (only_drewN (only_refl w o) k)
  have HH := Lib.hid H1
  clear H H1
  generalize w.drewN k = w1 at *
  go_upto_region 4 with fail
  have ho1 : Only w1 o (w1.setCell ⟨o, 1, none⟩ (.int .i64 ((p : Int) + (m : Int)))) := only_setN (only_refl w1 o) 1 _
  have hb1 := HH.out.blk.set_ 1 (.int .i64 ((p : Int) + (m : Int)))
  have hr1 : Rf (w1.setCell ⟨o, 1, none⟩ (.int .i64 ((p : Int) + (m : Int)))) o h cap xs (p + m) en 0 0 := HH.out.moved ho1 (by simpa using hb1) (by omega) l2
  have HO2 : Hid (Only w o (w1.setCell ⟨o, 1, none⟩ (.int .i64 ((p : Int) + (m : Int))))) := Lib.hid (only_trans HO1.out ho1)
  have HF : Hid (FH (w1.setCell ⟨o, 1, none⟩ (.int .i64 ((p : Int) + (m : Int)))) o h cap xs (p + m) en 0 0 (w1.setCell ⟨o, 1, none⟩ (.int .i64 ((p : Int) + (m : Int))))) := Lib.hid ⟨hr1, Below.refl _ _⟩
  clear ho1 hb1 hr1 c1 f1 HO1 HH
  generalize w1.setCell ⟨o, 1, none⟩ (.int .i64 ((p : Int) + (m : Int))) = w2 at *
  have ha := HF.out.all
  obtain ⟨c0, c1, c2, c3, c4, _⟩ := ha
  have hw : IntKind.i64.wrap (p : Int) = (p : Int) := IntWalk.i64_in _ (by omega)
  have hl0 : ((p : Int) + (m : Int)).toNat - p = m := by omega
  obtain ⟨i0, hi, hz0, hz1, hz2⟩ := info_parts info_u8
  have b0 : (0 : Int) ≤ (p : Int) := by omega
  have b1 : (p : Int) ≤ (p : Int) + (m : Int) := by omega
  have b2 : (p : Int) + (m : Int) ≤ (cap : Int) := by omega
  have b3 : (cap : Int) - (p : Int) ≠ 0 := by omega
  have b4 : ¬ cap = p := by omega
  have b5 : ¬ p = cap := by omega
  have b6 : (0 : Int) ≤ (p : Int) + (m : Int) := by omega
  have b7 : p ≤ cap := by omega
  have b8 : p + m ≤ cap := by omega
  have b9 : p < cap := by omega
  go_region_held3 (fun w' => w'.cell? ⟨o, 0, none⟩ = some (.slice (some ⟨h, 0, none⟩) xs.length cap) ∧ w'.cell? ⟨o, 1, none⟩ = some (.int .i64 ((p + m : Nat) : Int)) ∧ w'.cell? ⟨o, 2, none⟩ = some (.int .i64 (en : Int)) ∧ w'.cell? ⟨o, 3, none⟩ = some (.int .i64 0) ∧ w'.cell? ⟨o, 4, none⟩ = some (.int .i64 0) ∧ FH w2 o h cap xs (p + m) en 0 0 w')
    (first | exact HF.out.drew.all | (go_split_ands; exact (FH.more HF.out ⟨hgrow.os, hgrow.tape, hgrow.output, hgrow.size, hgrow.block⟩).all) | (go_split_ands; exact (FH.alloc (by assumption) _).all) | (go_split_ands; exact (FH.drewN (by assumption) _).all) | (go_split_ands; exact FH.all (by assumption)))
    (first
      | (go_split_ands; refine step_append_lies _ rfl _ _ 34 rfl _ 5 i0 (.int .u8 0) 1 1 Try.underlying34 hi hz0 hz1 hz2 rfl (by decide) _ 0 [] rfl (own_new _) ⟨h, p, none⟩ m (cap - p) (u8s ((xs.drop p).take m)) rfl (by simp; omega) (Sl.at_ (Row.part (Rf.row (FH.rf (by assumption))) p m)) (u8s_one _) (by omega) (by unfold maxLen; omega) (by omega) (by simp) _ rfl ?_; intro g9 cap9 w9 hown hgrow hor hlt))
  go_wp2_with fail
  go_ret
  go_split_ands
  have hlen : ((xs.drop p).take m).length = m := by simp; omega
  have hfh := FH.more HF.out ⟨hgrow.os, hgrow.tape, hgrow.output, hgrow.size, hgrow.block⟩
  rw [Nat.zero_add, List.nil_append] at hown
  obtain ⟨g8, cap8, hv, hb8, hrow⟩ := own_row hown (by simp) hlen
  injection hv with hv1 _ hv2
  injection hv1 with hv1
  injection hv1 with hv1
  subst hv1
  subst hv2
  refine ⟨⟨_, rfl, .inr ⟨g9, cap9, by rw [hlen]; rfl, ?_, Nat.le_trans HO2.out.size hb8⟩⟩, ?_, ?_⟩
  · exact hrow
  · exact hfh.rf
  · exact only_trans HO2.out (only_below hfh.bel o)

end Go.Proofs.Ytlmgbnpimmjijab
