/- Graphs, the document's side: Valid. -/
import Derived.Test.YtfmjcjkifjndgaaRfD
namespace Go.Proofs.Ytfmjcjkifjndgaa
open Go.RowKit
set_option linter.unusedVariables false
set_option linter.unusedSimpArgs false
set_option maxRecDepth 100000

theorem lk_at (N : Int) (L : List LK) (k : Nat) (x : LK) (h : L[k]? = some x) : (lkE N L)[k * 2]? = some (eR N x) ∧ (lkE N L)[k * 2 + 1]? = some (eL x) := by
  induction L generalizing k with
  | nil => simp at h
  | cons y L ih =>
    have e : lkE N (y :: L) = eR N y :: eL y :: lkE N L := by simp [lkE]
    rw [e]
    cases k with
    | zero => simp at h; subst h; exact ⟨rfl, rfl⟩
    | succ k =>
      have := ih k (by simpa using h)
      have e1 : (k + 1) * 2 = k * 2 + 1 + 1 := by omega
      rw [e1]
      simp only [List.getElem?_cons_succ]
      exact this
theorem lk_len (N : Int) (L : List LK) : (lkE N L).length = L.length * 2 := by
  induction L with
  | nil => rfl
  | cons y L ih =>
    have e : lkE N (y :: L) = eR N y :: eL y :: lkE N L := by simp [lkE]
    rw [e]; simp [ih]; omega
theorem fnz_head {l : List Int} {k : Nat} {r : Int} (h : l[k]? = some r) (hr : r ≠ 0) : fnz (l.drop k) = r := by
  obtain ⟨hk, rfl⟩ := List.getElem?_eq_some_iff.1 h
  rw [List.drop_eq_getElem_cons hk, fnz, if_pos hr]
theorem eR_eq (N : Int) (x : LK) : eR N x = if decide (x.a < 0) || decide (N ≤ x.a) || decide (x.b < 0) || decide (N ≤ x.b) || decide (x.c < 1) || decide (1000 < x.c) then 2 else 0 := by
  unfold eR inN
  by_cases h : (0 ≤ x.a ∧ x.a < N) ∧ (0 ≤ x.b ∧ x.b < N) ∧ 1 ≤ x.c ∧ x.c ≤ 1000
  · obtain ⟨⟨h1, h2⟩, ⟨h3, h4⟩, h5, h6⟩ := h
    rw [if_pos (by simp; omega), if_neg (by simp; omega)]
  · rw [if_neg (by simp; omega), if_pos (by simp; omega)]

set_option maxHeartbeats 4000000 in
theorem rvalid_any (N : Int) (A : Option Addr) (n c : Nat) (L : List LK) (w : World) (H : Lks w A n c L) (hm : n ≤ 1000000) :
    Calls Try.prog 45 #[.int .i64 N, .slice A n c] w fun e w' => e = .returned (.int .i64 (valE N L)) ∧ Below w.heap.size w w' := by
  have HH := Lib.hid H
  have HLen := Lib.hid H.len
  have hcap := H.cap
  clear H
  go_enter Try.func45, Try.ntmps45
  by_cases h1 : N < 1
  · have hd1 : decide (N < 1) = true := by simp [h1]
    have HV : Hid (valE N L = 2) := Lib.hid (by unfold valE; rw [if_pos (by omega)])
    clear h1
    go_wp2_with fail
    go_ret
    exact ⟨by rw [HV.out]; rfl, Below.refl _ _⟩
  · have hd1 : decide (N < 1) = false := by simp; omega
    by_cases h2 : 32 < N
    · have hd2 : decide ((32 : Int) < N) = true := by simp [h2]
      have HV : Hid (valE N L = 2) := Lib.hid (by unfold valE; rw [if_pos (by omega)])
      clear h1 h2
      go_wp2_with fail
      go_ret
      exact ⟨by rw [HV.out]; rfl, Below.refl _ _⟩
    · have hd2 : decide ((32 : Int) < N) = false := by simp; omega
      have HRg : Hid (1 ≤ N ∧ N ≤ 32) := Lib.hid ⟨by omega, by omega⟩
      clear h1 h2
      by_cases h3 : 128 < n
      · have hd3 : decide ((128 : Int) < (n : Int)) = true := by simp; omega
        have HV : Hid (valE N L = 5) := Lib.hid (by unfold valE; rw [if_neg (fun h => h HRg.out), if_pos (by rw [← HLen.out]; exact h3)])
        clear h3
        go_wp2_with fail
        go_ret
        exact ⟨by rw [HV.out]; rfl, Below.refl _ _⟩
      · have hd3 : decide ((128 : Int) < (n : Int)) = false := by simp; omega
        have HV : Hid (valE N L = fnz (lkE N L)) := Lib.hid (by unfold valE; rw [if_neg (fun h => h HRg.out), if_neg (by rw [← HLen.out]; exact h3)])
        have hn128 : n ≤ 128 := by omega
        clear h3
        go_wp2_with fail
        go_loopw [5] (fun i wr => ∃ k : Nat, k ≤ n ∧ i = .int .i64 k ∧ Hid (fnz ((lkE N L).drop (k * 2)) = fnz (lkE N L)) ∧ Below w.heap.size w wr) (fun i _ => n - (intOf i).toNat)
        case atStart => exact ⟨0, Nat.zero_le _, rfl, Lib.hid rfl, Below.refl _ _⟩
        case round =>
          obtain ⟨k, hk, rfl, HF, hb⟩ := hrel
          by_cases hlt : k < n
          · obtain ⟨x, hx⟩ : ∃ x, L[k]? = some x := ⟨L[k]'(by rw [← HLen.out]; exact hlt), by rw [List.getElem?_eq_getElem]⟩
            have hlk := HH.out.below hb
            obtain ⟨b1, o1, rfl, _⟩ := hlk.plain (by omega)
            obtain ⟨q0, q1, q2⟩ := hlk.at_ hx
            have hkl : (k : Int) < (n : Int) := by omega
            have HAt := Lib.hid (lk_at N L k x hx)
            have HER := Lib.hid (eR_eq N x)
            have hv := Has.new wr 26 #[.int .i64 x.a, .int .i64 x.b, .int .i64 x.c]
            have HVx := Lib.hid hv
            have HB1 := Lib.hid (hb.alloc hb.size (.cells #[.int .i64 x.a, .int .i64 x.b, .int .i64 x.c] 26))
            clear hb hlk hx hv
            go_upto_region 9 with fail
            generalize wr.alloc (.cells #[.int .i64 x.a, .int .i64 x.b, .int .i64 x.c] 26) = W1 at *
            clear q0 q1 q2
            have v0 : W1.cell? ⟨wr.heap.size, 0, none⟩ = some (.int .i64 x.a) := HVx.out.cell 0
            have v1 : W1.cell? ⟨wr.heap.size, 1, none⟩ = some (.int .i64 x.b) := HVx.out.cell 1
            have v2 : W1.cell? ⟨wr.heap.size, 2, none⟩ = some (.int .i64 x.c) := HVx.out.cell 2
            obtain ⟨p1, hp1⟩ : ∃ p, decide (x.a < 0) = p := ⟨_, rfl⟩
            obtain ⟨p2, hp2⟩ : ∃ p, decide (N ≤ x.a) = p := ⟨_, rfl⟩
            obtain ⟨p3, hp3⟩ : ∃ p, decide (x.b < 0) = p := ⟨_, rfl⟩
            obtain ⟨p4, hp4⟩ : ∃ p, decide (N ≤ x.b) = p := ⟨_, rfl⟩
            obtain ⟨p5, hp5⟩ : ∃ p, decide (x.c < 1) = p := ⟨_, rfl⟩
            obtain ⟨p6, hp6⟩ : ∃ p, decide (1000 < x.c) = p := ⟨_, rfl⟩
            have HE : Hid (eR N x = if p1 || p2 || p3 || p4 || p5 || p6 then 2 else 0) := Lib.hid (by rw [HER.out, hp1, hp2, hp3, hp4, hp5, hp6])
            clear HER
            cases p1
            · cases p2
              · cases p3
                · cases p4
                  · cases p5
                    · cases p6
                      · have HG1 := Lib.hid (fnz_step HAt.out.1 HF.out (by rw [HE.out]; simp))
                        by_cases hab : x.a = x.b
                        · have hbb : (x.a == x.b) = true := by simp [hab]
                          have HF2 : Hid (valE N L = 12) := Lib.hid (by
                            have : eL x = 12 := by unfold eL; simp [hab]
                            rw [HV.out, ← HG1.out, fnz_head HAt.out.2 (by rw [this]; decide), this])
                          clear hab
                          go_wp2_with fail
                          go_ret
                          exact ⟨by rw [HF2.out]; rfl, HB1.out⟩
                        · have hbb : (x.a == x.b) = false := by simp; omega
                          have HG2 : Hid (fnz ((lkE N L).drop ((k + 1) * 2)) = fnz (lkE N L)) := Lib.hid (by
                            have : (k + 1) * 2 = k * 2 + 1 + 1 := by omega
                            rw [this]
                            exact fnz_step HAt.out.2 HG1.out (by unfold eL; simp [hab]))
                          clear hab
                          go_wp2_with fail
                          go_roundw
                          case rel => exact ⟨k + 1, by omega, by go_num, HG2, HB1.out⟩
                          case measure => simp [intOf]; omega
                      · have HF2 : Hid (valE N L = 2) := Lib.hid (by rw [HV.out, ← HF.out, fnz_head HAt.out.1 (by rw [HE.out]; simp), HE.out]; simp)
                        go_wp2_with fail
                        go_ret
                        exact ⟨by rw [HF2.out]; rfl, HB1.out⟩
                    · have HF2 : Hid (valE N L = 2) := Lib.hid (by rw [HV.out, ← HF.out, fnz_head HAt.out.1 (by rw [HE.out]; simp), HE.out]; simp)
                      go_wp2_with fail
                      go_ret
                      exact ⟨by rw [HF2.out]; rfl, HB1.out⟩
                  · have HF2 : Hid (valE N L = 2) := Lib.hid (by rw [HV.out, ← HF.out, fnz_head HAt.out.1 (by rw [HE.out]; simp), HE.out]; simp)
                    go_wp2_with fail
                    go_ret
                    exact ⟨by rw [HF2.out]; rfl, HB1.out⟩
                · have HF2 : Hid (valE N L = 2) := Lib.hid (by rw [HV.out, ← HF.out, fnz_head HAt.out.1 (by rw [HE.out]; simp), HE.out]; simp)
                  go_wp2_with fail
                  go_ret
                  exact ⟨by rw [HF2.out]; rfl, HB1.out⟩
              · have HF2 : Hid (valE N L = 2) := Lib.hid (by rw [HV.out, ← HF.out, fnz_head HAt.out.1 (by rw [HE.out]; simp), HE.out]; simp)
                go_wp2_with fail
                go_ret
                exact ⟨by rw [HF2.out]; rfl, HB1.out⟩
            · have HF2 : Hid (valE N L = 2) := Lib.hid (by rw [HV.out, ← HF.out, fnz_head HAt.out.1 (by rw [HE.out]; simp), HE.out]; simp)
              go_wp2_with fail
              go_ret
              exact ⟨by rw [HF2.out]; rfl, HB1.out⟩
          · obtain rfl : k = n := by omega
            have HZ : Hid (valE N L = 0) := Lib.hid (by
              rw [HV.out, ← HF.out, List.drop_eq_nil_of_le (by rw [lk_len, HLen.out]; exact Nat.le_refl _)]; rfl)
            have HB := Lib.hid hb
            clear hb
            go_wp2_with fail
            go_ret
            exact ⟨by rw [HZ.out]; rfl, HB.out⟩

end Go.Proofs.Ytfmjcjkifjndgaa
