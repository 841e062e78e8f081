/- WireReads: the document's own reader: Get. -/
import Derived.Test.YtlmgbnpimmjijabRfA
namespace Go.Proofs.Ytlmgbnpimmjijab
open Go.RowKit
set_option linter.unusedVariables false

theorem fget_a (o h cap : Nat) (xs : List Int) (p en : Nat) (ef ea : Int) (w : World) (H : Rf w o h cap xs p en ef ea) (m : Int) (hf : (ef == 0) = false) :
    Calls Try.prog 41 #[.pointer (some ⟨o, 0, none⟩), .int .i64 m] w fun e w' => e = .returned (.int .u64 0) ∧ ∃ k, w' = w.drewN k := by
  go_enter Try.func41, Try.ntmps41
  go_wp2_with fail
  refine (fhas_a o h cap xs p en ef ea _ H m hf).mono ?_
  rintro e w' ⟨rfl, k, rfl⟩
  go_wp2_with fail
  go_ret
  exact ⟨rfl, _, rfl⟩

theorem fget_c (o h cap : Nat) (xs : List Int) (p en : Nat) (ea : Int) (w : World) (H : Rf w o h cap xs p en 0 ea) (m : Nat) (hm : en - p < m) :
    Calls Try.prog 41 #[.pointer (some ⟨o, 0, none⟩), .int .i64 m] w fun e w' => e = .returned (.int .u64 0) ∧ Rf w' o h cap xs p en 4 p ∧ Only w o w' := by
  go_enter Try.func41, Try.ntmps41
  go_wp2_with fail
  refine (fhas_c o h cap xs p en ea _ H m (by omega) (by omega)).mono ?_
  rintro e w' ⟨rfl, h1, h2⟩
  have HH := Lib.hid (And.intro h1 h2)
  clear h1 h2
  go_wp2_with fail
  go_ret
  exact ⟨rfl, HH.out⟩

set_option maxHeartbeats 1000000 in
theorem fget_d (o h cap : Nat) (xs : List Int) (p en : Nat) (ea : Int) (w : World) (H : Rf w o h cap xs p en 0 ea) (m : Nat) (h8 : m ≤ 8) (hm : m ≤ en - p) :
    Calls Try.prog 41 #[.pointer (some ⟨o, 0, none⟩), .int .i64 m] w fun e w' => e = .returned (.int .u64 (num ((xs.drop p).take m))) ∧ Rf w' o h cap xs (p + m) en 0 ea ∧ Only w o w' := by
  have HX := Lib.hid H.byte
  have hen := H.hi
  have hlo := H.lo
  have hsm := H.small
  have HH := Lib.hid H
  clear H
  go_enter Try.func41, Try.ntmps41
  go_wp2_with fail
  refine (fhas_d o h cap xs p en ea _ HH.out m (by omega) (by omega)).mono ?_
  rintro e w' ⟨rfl, k0, rfl⟩
  have HI : Hid (Rf (w.drewN k0) o h cap xs p en 0 ea ∧ Only w o (w.drewN k0)) := Lib.hid ⟨HH.out.drewN k0, only_drewN (only_refl w o) k0⟩
  clear HH
  go_wp2_with fail
  go_loopw [5, 6] (fun n i wr => ∃ k : Nat, k ≤ m ∧ i = .int .i64 k ∧ n = .int .u64 (num ((xs.drop p).take k)) ∧ Rf wr o h cap xs (p + k) en 0 ea ∧ Only w o wr) (fun _ i _ => m - (intOf i).toNat)
  case atStart => exact ⟨0, Nat.zero_le _, rfl, rfl, HI.out⟩
  case round =>
    obtain ⟨k, hk, rfl, rfl, hrf, hon⟩ := hrel
    have HJ := Lib.hid (And.intro hrf hon)
    by_cases hlt : k < m
    · have hpk : p + k < xs.length := by omega
      have c0 := hrf.c0
      have c1 := hrf.c1
      have f1 := hrf.blk.free 1
      have hcell : wr.cell? ⟨h, p + k, none⟩ = some (.int .u8 xs[p + k]) := hrf.row.cell (p + k) hpk
      obtain ⟨hx0, hx1⟩ := HX.out xs[p + k] (List.getElem_mem _)
      obtain ⟨x, hxe⟩ : ∃ x, xs[p + k] = x := ⟨_, rfl⟩
      rw [hxe] at hcell hx0 hx1
      have hgl : (xs.drop p)[k]'(by simp; omega) = x := by simpa using hxe
      obtain ⟨n, hne⟩ : ∃ n, num ((xs.drop p).take k) = n := ⟨_, rfl⟩
      have hn := num_bound ((xs.drop p).take k) (fun v hv => HX.out v (List.mem_of_mem_drop (List.mem_of_mem_take hv)))
      rw [hne] at hn ⊢
      have HS : Hid (num ((xs.drop p).take (k + 1)) = n * 256 + x) := Lib.hid (by rw [List.take_succ_eq_append_getElem (by simp; omega), num_snoc, hne, hgl])
      have hn0 : 0 ≤ n := hn.1
      have hn1 : n < 72057594037927936 := by
        have h2 := hn.2
        have hle : (List.take k (List.drop p xs)).length ≤ 7 := by simp; omega
        have := pow_mono 7 hle
        omega
      clear hn hxe hne hgl hrf hon HI
      go_wp2_with fail
      go_quiet (fail)
      go_wp2_with fail
      have ho1 : Only wr o ((wr.drewN nq).setCell ⟨o, 1, none⟩ (.int .i64 ((p : Int) + (k : Int) + 1))) := only_setN (only_drewN (only_refl wr o) nq) 1 _
      have hb1 := (HJ.out.1.drewN nq).blk.set_ 1 (.int .i64 ((p : Int) + (k : Int) + 1))
      refine ⟨⟨k + 1, by omega, by go_num, by rw [HS.out], HJ.out.1.moved ho1 ?_ (by omega) HJ.out.1.hi, only_trans HJ.out.2 ho1⟩, by simp [intOf]; omega⟩
      have e : ((p + (k + 1) : Nat) : Int) = (p : Int) + (k : Int) + 1 := by omega
      rw [e]
      simpa using hb1
    · have hke : k = m := by omega
      subst hke
      clear hrf hon HI
      go_wp2_with fail
      go_ret
      exact ⟨rfl, HJ.out⟩

end Go.Proofs.Ytlmgbnpimmjijab
