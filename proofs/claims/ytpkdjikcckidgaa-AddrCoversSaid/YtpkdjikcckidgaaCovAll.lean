/- AddrCovers, all cases together. -/
import Derived.Test.YtpkdjikcckidgaaCovB
import Derived.Deep.RegionHeld3
namespace Go.Proofs.Ytpkdjikcckidgaa
open Go.ChangeShapes Go.WideShapes Go.ChangeAt Go.RowKit

theorem covers_all (p l q m r n x : Int) (w : World) :
    Calls Try.prog 3 #[pfx p l, pfx q m, pfx r n, .int .u32 x] w fun e w' => e = .returned (.bool true) ∧ Grown w w' := by
  have hE : cv p l x 32 = ct p l x := cv_whole p l x
  cases hv1 : vld l with
  | false =>
    have hB : cv p l q m = false := by
      cases h : cv p l q m with
      | false => rfl
      | true => rw [(cv_vld h).1] at hv1; exact hv1
    have hP : cv p l p l = false := by rw [cv_self, hv1]
    by_cases hl0 : l < 0
    · cases hv2 : vld m with
      | false => exact cov_00000000 p l q m r n x w (V1 := Lib.hid hv1) (V2 := Lib.hid hv2) (P0 := Lib.hid hP) (B1 := Lib.hid hB) (b5 := ct p l x) (B5 := Lib.hid rfl) (E5 := Lib.hid hE) (hl0 := hl0)
      | true => exact cov_01000000 p l q m r n x w (V1 := Lib.hid hv1) (V2 := Lib.hid hv2) (P0 := Lib.hid hP) (B1 := Lib.hid hB) (b5 := ct p l x) (B5 := Lib.hid rfl) (E5 := Lib.hid hE) (hl0 := hl0)
    · have hl : 0 ≤ l := by omega
      have hl2 : decide (l ≤ 32) = false := by
        cases h : decide (l ≤ 32) with
        | false => rfl
        | true =>
          have h' : vld l = true := vld_iff.2 ⟨hl, of_decide_eq_true h⟩
          rw [hv1] at h'
          exact h'.symm
      cases hv2 : vld m with
      | false => exact cov_20000000 p l q m r n x w (V1 := Lib.hid hv1) (V2 := Lib.hid hv2) (P0 := Lib.hid hP) (B1 := Lib.hid hB) (b5 := ct p l x) (B5 := Lib.hid rfl) (E5 := Lib.hid hE) (hl0 := hl) (hl2 := hl2)
      | true => exact cov_21000000 p l q m r n x w (V1 := Lib.hid hv1) (V2 := Lib.hid hv2) (P0 := Lib.hid hP) (B1 := Lib.hid hB) (b5 := ct p l x) (B5 := Lib.hid rfl) (E5 := Lib.hid hE) (hl0 := hl) (hl2 := hl2)
  | true =>
    have hP : cv p l p l = true := by rw [cv_self, hv1]
    obtain ⟨hl, hl1⟩ := vld_iff.1 hv1
    cases hv2 : vld m with
    | false =>
      have hB : cv p l q m = false := by
        cases h : cv p l q m with
        | false => rfl
        | true => rw [(cv_vld h).2] at hv2; exact hv2
      exact cov_10000000 p l q m r n x w (V1 := Lib.hid hv1) (V2 := Lib.hid hv2) (P0 := Lib.hid hP) (B1 := Lib.hid hB) (b5 := ct p l x) (B5 := Lib.hid rfl) (E5 := Lib.hid hE) (hl0 := hl) (hl1 := hl1)
    | true =>
      have hboth := cv_both (p := p) (q := q) hv1 hv2
      obtain ⟨hA1, hA2⟩ := cv_cl (p := p) hv1
      cases hB : cv p l q m with
      | false =>
        rw [hB, Bool.false_and] at hboth
        cases hc1 : (cl p l == cl q m) with
        | false => exact cov_11000000 p l q m r n x w (V1 := Lib.hid hv1) (V2 := Lib.hid hv2) (P0 := Lib.hid hP) (B1 := Lib.hid hB) (b5 := ct p l x) (B5 := Lib.hid rfl) (E5 := Lib.hid hE) (hl0 := hl) (hl1 := hl1) (c1 := hc1) (A1 := Lib.hid hA1) (A2 := Lib.hid hA2)
        | true =>
          rw [hc1, Bool.true_and] at hboth
          have hc2 := hboth.symm
          exact cov_11000010 p l q m r n x w (V1 := Lib.hid hv1) (V2 := Lib.hid hv2) (P0 := Lib.hid hP) (B1 := Lib.hid hB) (b5 := ct p l x) (B5 := Lib.hid rfl) (E5 := Lib.hid hE) (hl0 := hl) (hl1 := hl1) (c1 := hc1) (c2 := hc2) (A1 := Lib.hid hA1) (A2 := Lib.hid hA2)
      | true =>
        rw [hB, Bool.true_and] at hboth
        cases hB2 : cv q m r n with
        | false =>
          cases hB4 : ct q m x with
          | false =>
            cases hB6 : cv q m p l with
            | true =>
              rw [hB6] at hboth
              have hcc := hboth.symm
              rw [Bool.and_eq_true] at hcc
              obtain ⟨hc1, hc2⟩ := hcc
              exact cov_11100111 p l q m r n x w (V1 := Lib.hid hv1) (V2 := Lib.hid hv2) (P0 := Lib.hid hP) (B1 := Lib.hid hB) (b5 := ct p l x) (B5 := Lib.hid rfl) (E5 := Lib.hid hE) (hl0 := hl) (hl1 := hl1) (B2 := Lib.hid hB2) (B4 := Lib.hid hB4) (B6 := Lib.hid hB6) (c1 := hc1) (c2 := hc2) (A1 := Lib.hid hA1) (A2 := Lib.hid hA2)
            | false =>
              rw [hB6] at hboth
              cases hc1 : (cl p l == cl q m) with
              | false => exact cov_11100000 p l q m r n x w (V1 := Lib.hid hv1) (V2 := Lib.hid hv2) (P0 := Lib.hid hP) (B1 := Lib.hid hB) (b5 := ct p l x) (B5 := Lib.hid rfl) (E5 := Lib.hid hE) (hl0 := hl) (hl1 := hl1) (B2 := Lib.hid hB2) (B4 := Lib.hid hB4) (B6 := Lib.hid hB6) (c1 := hc1) (A1 := Lib.hid hA1) (A2 := Lib.hid hA2)
              | true =>
                rw [hc1, Bool.true_and] at hboth
                have hc2 := hboth.symm
                exact cov_11100010 p l q m r n x w (V1 := Lib.hid hv1) (V2 := Lib.hid hv2) (P0 := Lib.hid hP) (B1 := Lib.hid hB) (b5 := ct p l x) (B5 := Lib.hid rfl) (E5 := Lib.hid hE) (hl0 := hl) (hl1 := hl1) (B2 := Lib.hid hB2) (B4 := Lib.hid hB4) (B6 := Lib.hid hB6) (c1 := hc1) (c2 := hc2) (A1 := Lib.hid hA1) (A2 := Lib.hid hA2)
          | true =>
            cases hB6 : cv q m p l with
            | true =>
              rw [hB6] at hboth
              have hcc := hboth.symm
              rw [Bool.and_eq_true] at hcc
              obtain ⟨hc1, hc2⟩ := hcc
              exact cov_11101111 p l q m r n x w (V1 := Lib.hid hv1) (V2 := Lib.hid hv2) (P0 := Lib.hid hP) (B1 := Lib.hid hB) (b5 := ct p l x) (B5 := Lib.hid rfl) (E5 := Lib.hid hE) (hl0 := hl) (hl1 := hl1) (B2 := Lib.hid hB2) (B4 := Lib.hid hB4) (B5t := Lib.hid (ct_trans hB hB4)) (B6 := Lib.hid hB6) (c1 := hc1) (c2 := hc2) (A1 := Lib.hid hA1) (A2 := Lib.hid hA2)
            | false =>
              rw [hB6] at hboth
              cases hc1 : (cl p l == cl q m) with
              | false => exact cov_11101000 p l q m r n x w (V1 := Lib.hid hv1) (V2 := Lib.hid hv2) (P0 := Lib.hid hP) (B1 := Lib.hid hB) (b5 := ct p l x) (B5 := Lib.hid rfl) (E5 := Lib.hid hE) (hl0 := hl) (hl1 := hl1) (B2 := Lib.hid hB2) (B4 := Lib.hid hB4) (B5t := Lib.hid (ct_trans hB hB4)) (B6 := Lib.hid hB6) (c1 := hc1) (A1 := Lib.hid hA1) (A2 := Lib.hid hA2)
              | true =>
                rw [hc1, Bool.true_and] at hboth
                have hc2 := hboth.symm
                exact cov_11101010 p l q m r n x w (V1 := Lib.hid hv1) (V2 := Lib.hid hv2) (P0 := Lib.hid hP) (B1 := Lib.hid hB) (b5 := ct p l x) (B5 := Lib.hid rfl) (E5 := Lib.hid hE) (hl0 := hl) (hl1 := hl1) (B2 := Lib.hid hB2) (B4 := Lib.hid hB4) (B5t := Lib.hid (ct_trans hB hB4)) (B6 := Lib.hid hB6) (c1 := hc1) (c2 := hc2) (A1 := Lib.hid hA1) (A2 := Lib.hid hA2)
        | true =>
          cases hB4 : ct q m x with
          | false =>
            cases hB6 : cv q m p l with
            | true =>
              rw [hB6] at hboth
              have hcc := hboth.symm
              rw [Bool.and_eq_true] at hcc
              obtain ⟨hc1, hc2⟩ := hcc
              exact cov_11110111 p l q m r n x w (V1 := Lib.hid hv1) (V2 := Lib.hid hv2) (P0 := Lib.hid hP) (B1 := Lib.hid hB) (b5 := ct p l x) (B5 := Lib.hid rfl) (E5 := Lib.hid hE) (hl0 := hl) (hl1 := hl1) (B2 := Lib.hid hB2) (B4 := Lib.hid hB4) (B3 := Lib.hid (cv_trans hB hB2)) (B6 := Lib.hid hB6) (c1 := hc1) (c2 := hc2) (A1 := Lib.hid hA1) (A2 := Lib.hid hA2)
            | false =>
              rw [hB6] at hboth
              cases hc1 : (cl p l == cl q m) with
              | false => exact cov_11110000 p l q m r n x w (V1 := Lib.hid hv1) (V2 := Lib.hid hv2) (P0 := Lib.hid hP) (B1 := Lib.hid hB) (b5 := ct p l x) (B5 := Lib.hid rfl) (E5 := Lib.hid hE) (hl0 := hl) (hl1 := hl1) (B2 := Lib.hid hB2) (B4 := Lib.hid hB4) (B3 := Lib.hid (cv_trans hB hB2)) (B6 := Lib.hid hB6) (c1 := hc1) (A1 := Lib.hid hA1) (A2 := Lib.hid hA2)
              | true =>
                rw [hc1, Bool.true_and] at hboth
                have hc2 := hboth.symm
                exact cov_11110010 p l q m r n x w (V1 := Lib.hid hv1) (V2 := Lib.hid hv2) (P0 := Lib.hid hP) (B1 := Lib.hid hB) (b5 := ct p l x) (B5 := Lib.hid rfl) (E5 := Lib.hid hE) (hl0 := hl) (hl1 := hl1) (B2 := Lib.hid hB2) (B4 := Lib.hid hB4) (B3 := Lib.hid (cv_trans hB hB2)) (B6 := Lib.hid hB6) (c1 := hc1) (c2 := hc2) (A1 := Lib.hid hA1) (A2 := Lib.hid hA2)
          | true =>
            cases hB6 : cv q m p l with
            | true =>
              rw [hB6] at hboth
              have hcc := hboth.symm
              rw [Bool.and_eq_true] at hcc
              obtain ⟨hc1, hc2⟩ := hcc
              exact cov_11111111 p l q m r n x w (V1 := Lib.hid hv1) (V2 := Lib.hid hv2) (P0 := Lib.hid hP) (B1 := Lib.hid hB) (b5 := ct p l x) (B5 := Lib.hid rfl) (E5 := Lib.hid hE) (hl0 := hl) (hl1 := hl1) (B2 := Lib.hid hB2) (B4 := Lib.hid hB4) (B3 := Lib.hid (cv_trans hB hB2)) (B5t := Lib.hid (ct_trans hB hB4)) (B6 := Lib.hid hB6) (c1 := hc1) (c2 := hc2) (A1 := Lib.hid hA1) (A2 := Lib.hid hA2)
            | false =>
              rw [hB6] at hboth
              cases hc1 : (cl p l == cl q m) with
              | false => exact cov_11111000 p l q m r n x w (V1 := Lib.hid hv1) (V2 := Lib.hid hv2) (P0 := Lib.hid hP) (B1 := Lib.hid hB) (b5 := ct p l x) (B5 := Lib.hid rfl) (E5 := Lib.hid hE) (hl0 := hl) (hl1 := hl1) (B2 := Lib.hid hB2) (B4 := Lib.hid hB4) (B3 := Lib.hid (cv_trans hB hB2)) (B5t := Lib.hid (ct_trans hB hB4)) (B6 := Lib.hid hB6) (c1 := hc1) (A1 := Lib.hid hA1) (A2 := Lib.hid hA2)
              | true =>
                rw [hc1, Bool.true_and] at hboth
                have hc2 := hboth.symm
                exact cov_11111010 p l q m r n x w (V1 := Lib.hid hv1) (V2 := Lib.hid hv2) (P0 := Lib.hid hP) (B1 := Lib.hid hB) (b5 := ct p l x) (B5 := Lib.hid rfl) (E5 := Lib.hid hE) (hl0 := hl) (hl1 := hl1) (B2 := Lib.hid hB2) (B4 := Lib.hid hB4) (B3 := Lib.hid (cv_trans hB hB2)) (B5t := Lib.hid (ct_trans hB hB4)) (B6 := Lib.hid hB6) (c1 := hc1) (c2 := hc2) (A1 := Lib.hid hA1) (A2 := Lib.hid hA2)

end Go.Proofs.Ytpkdjikcckidgaa
