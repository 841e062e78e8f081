/- Graphs: the list of checks; the first that fails; New. -/
import Derived.Test.YtfmjcjkifjndgaaToK
namespace Go.Proofs.Ytfmjcjkifjndgaa
open Go.RowKit
set_option linter.unusedVariables false
set_option linter.unusedSimpArgs false
set_option maxRecDepth 100000

/-- A check that answers r. -/
inductive CkIs (w : World) : Value → Int → Prop
  | a (N : Int) (b2 : Nat) (c : Has w b2 3 #[.int .i64 N]) : CkIs w (.func (.func 61) #[] #[.pointer (some ⟨b2, 0, none⟩)]) (e0 N)
  | b (A : Option Addr) (n c : Nat) (b3 : Nat) (hn : n ≤ 9223372036854775807) (hc : Has w b3 22 #[.slice A n c]) : CkIs w (.func (.func 63) #[] #[.pointer (some ⟨b3, 0, none⟩)]) (e1 n)
  | c (N : Int) (x : LK) (b2 b5 b8 : Nat) (c2 : Has w b2 3 #[.int .i64 N]) (c5 : Has w b5 44 #[.func (.func 60) #[] #[.pointer (some ⟨b2, 0, none⟩)]]) (q : Has w b8 26 #[.int .i64 x.a, .int .i64 x.b, .int .i64 x.c]) : CkIs w (.func (.func 64) #[] #[.pointer (some ⟨b5, 0, none⟩), .pointer (some ⟨b8, 0, none⟩)]) (eR N x)
  | d (x : LK) (b8 : Nat) (q : Has w b8 26 #[.int .i64 x.a, .int .i64 x.b, .int .i64 x.c]) : CkIs w (.func (.func 65) #[] #[.pointer (some ⟨b8, 0, none⟩)]) (eL x)
theorem CkIs.keep {w w' : World} {v : Value} {r : Int} (h : CkIs w v r) (hk : ∀ g t cs, t ≠ 93 → Has w g t cs → Has w' g t cs) : CkIs w' v r := by
  cases h with
  | a N b2 c => exact .a N b2 (hk _ _ _ (by decide) c)
  | b A n c b3 hn hc => exact .b A n c b3 hn (hk _ _ _ (by decide) hc)
  | c N x b2 b5 b8 c2 c5 q => exact .c N x b2 b5 b8 (hk _ _ _ (by decide) c2) (hk _ _ _ (by decide) c5) (hk _ _ _ (by decide) q)
  | d x b8 q => exact .d x b8 (hk _ _ _ (by decide) q)

/-- The first that is not 0. -/
def fnz : List Int → Int
  | [] => 0
  | r :: l => if r ≠ 0 then r else fnz l
theorem fnz_step {l : List Int} {k : Nat} {r : Int} (h : l[k]? = some r) (h0 : fnz (l.drop k) = fnz l) (hr : r = 0) : fnz (l.drop (k + 1)) = fnz l := by
  obtain ⟨hk, rfl⟩ := List.getElem?_eq_some_iff.1 h
  rw [← h0, List.drop_eq_getElem_cons hk, fnz, if_neg (by simp [hr])]
theorem fnz_hit {l : List Int} {k : Nat} {r : Int} (h : l[k]? = some r) (h0 : fnz (l.drop k) = fnz l) (hr : r ≠ 0) : fnz l = r := by
  obtain ⟨hk, rfl⟩ := List.getElem?_eq_some_iff.1 h
  rw [← h0, List.drop_eq_getElem_cons hk, fnz, if_pos hr]

set_option maxHeartbeats 2000000 in
theorem first_any (g c : Nat) (vs : List Value) (rs : List Int) (n : Nat) (hn : vs.length = n) (hr : rs.length = n) (hnc : n ≤ c) (hm : n ≤ 100000) (w : World) (hv : ∀ (j : Nat) (v : Value), vs[j]? = some v → w.cell? ⟨g, j, none⟩ = some v) (hk : ∀ (j : Nat) (v : Value) (r : Int), vs[j]? = some v → rs[j]? = some r → CkIs w v r) :
    Calls Try.prog 41 #[.slice (some ⟨g, 0, none⟩) n c] w fun e w' => e = .returned (.int .i64 (fnz rs)) ∧ w = w' := by
  have HV := Lib.hid hv
  have HKs := Lib.hid hk
  have HN := Lib.hid hn
  have HR := Lib.hid hr
  clear hv hk hn hr
  go_enter Try.func41, Try.ntmps41
  go_wp2_with fail
  go_loop [8] (fun i => ∃ k : Nat, k ≤ n ∧ i = .int .i64 k ∧ Hid (fnz (rs.drop k) = fnz rs)) (fun i => n - (intOf i).toNat)
  case atStart => exact ⟨0, Nat.zero_le _, rfl, Lib.hid rfl⟩
  case round =>
    obtain ⟨k, hk, rfl, HF⟩ := hrel
    by_cases hlt : k < n
    · have hkn : (k : Int) < (n : Int) := by omega
      obtain ⟨v, hvk⟩ : ∃ v, vs[k]? = some v := ⟨vs[k]'(by rw [HN.out]; exact hlt), by simp [HN.out, hlt]⟩
      obtain ⟨r, hrk⟩ : ∃ r, rs[k]? = some r := ⟨rs[k]'(by rw [HR.out]; exact hlt), by simp [HR.out, hlt]⟩
      have hcell := HV.out k v hvk
      have hck := HKs.out k v r hvk hrk
      by_cases h0 : r = 0
      · have HS := Lib.hid (fnz_step hrk HF.out h0)
        clear hvk hrk
        have hb : (r != 0) = false := by simp [h0]
        clear h0
        cases hck with
        | a N b2 c2 =>
          have c2 : w.cell? ⟨b2, 0, none⟩ = some (.int .i64 N) := c2.cell 0
          obtain ⟨r, hr9⟩ : ∃ r, e0 N = r := ⟨_, rfl⟩
          rw [hr9] at hb
          have HR9 := Lib.hid hr9
          clear hr9
          go_wp2_with (go_at_call 61; refine (c61 N b2 _ c2).mono ?_; rintro e w' ⟨rfl, rfl⟩; rw [HR9.out])
          go_round
          case rel => exact ⟨k + 1, by omega, by go_num, HS⟩
          case measure => simp [intOf]; omega
        | b A m c' b3 hm3 hc =>
          have hc : w.cell? ⟨b3, 0, none⟩ = some (.slice A m c') := hc.cell 0
          obtain ⟨r, hr9⟩ : ∃ r, e1 m = r := ⟨_, rfl⟩
          rw [hr9] at hb
          have HR9 := Lib.hid hr9
          clear hr9
          go_wp2_with (go_at_call 63; refine (c63 A m c' b3 _ hm3 hc).mono ?_; rintro e w' ⟨rfl, rfl⟩; rw [HR9.out])
          go_round
          case rel => exact ⟨k + 1, by omega, by go_num, HS⟩
          case measure => simp [intOf]; omega
        | c N x b2 b5 b8 c2 c5 q =>
          have q0 : w.cell? ⟨b8, 0, none⟩ = some (.int .i64 x.a) := q.cell 0
          have q1 : w.cell? ⟨b8, 1, none⟩ = some (.int .i64 x.b) := q.cell 1
          have q2 : w.cell? ⟨b8, 2, none⟩ = some (.int .i64 x.c) := q.cell 2
          have c5 : w.cell? ⟨b5, 0, none⟩ = some (.func (.func 60) #[] #[.pointer (some ⟨b2, 0, none⟩)]) := c5.cell 0
          have c2 : w.cell? ⟨b2, 0, none⟩ = some (.int .i64 N) := c2.cell 0
          obtain ⟨r, hr9⟩ : ∃ r, eR N x = r := ⟨_, rfl⟩
          rw [hr9] at hb
          have HR9 := Lib.hid hr9
          clear hr9
          go_wp2_with (go_at_call 64; refine (c64 N x b2 b5 b8 _ c2 c5 q0 q1 q2).mono ?_; rintro e w' ⟨rfl, rfl⟩; rw [HR9.out])
          go_round
          case rel => exact ⟨k + 1, by omega, by go_num, HS⟩
          case measure => simp [intOf]; omega
        | d x b8 q =>
          have q0 : w.cell? ⟨b8, 0, none⟩ = some (.int .i64 x.a) := q.cell 0
          have q1 : w.cell? ⟨b8, 1, none⟩ = some (.int .i64 x.b) := q.cell 1
          obtain ⟨r, hr9⟩ : ∃ r, eL x = r := ⟨_, rfl⟩
          rw [hr9] at hb
          have HR9 := Lib.hid hr9
          clear hr9
          go_wp2_with (go_at_call 65; refine (c65 x b8 _ q0 q1).mono ?_; rintro e w' ⟨rfl, rfl⟩; rw [HR9.out])
          go_round
          case rel => exact ⟨k + 1, by omega, by go_num, HS⟩
          case measure => simp [intOf]; omega
      · have HS := Lib.hid (fnz_hit hrk HF.out h0)
        clear hvk hrk
        have hb : (r != 0) = true := by simp [h0]
        clear h0
        cases hck with
        | a N b2 c2 =>
          have c2 : w.cell? ⟨b2, 0, none⟩ = some (.int .i64 N) := c2.cell 0
          obtain ⟨r, hr9⟩ : ∃ r, e0 N = r := ⟨_, rfl⟩
          rw [hr9] at hb HS
          have HR9 := Lib.hid hr9
          clear hr9
          go_wp2_with (go_at_call 61; refine (c61 N b2 _ c2).mono ?_; rintro e w' ⟨rfl, rfl⟩; rw [HR9.out])
          go_ret
          exact ⟨by rw [HS.out]; rfl, rfl⟩
        | b A m c' b3 hm3 hc =>
          have hc : w.cell? ⟨b3, 0, none⟩ = some (.slice A m c') := hc.cell 0
          obtain ⟨r, hr9⟩ : ∃ r, e1 m = r := ⟨_, rfl⟩
          rw [hr9] at hb HS
          have HR9 := Lib.hid hr9
          clear hr9
          go_wp2_with (go_at_call 63; refine (c63 A m c' b3 _ hm3 hc).mono ?_; rintro e w' ⟨rfl, rfl⟩; rw [HR9.out])
          go_ret
          exact ⟨by rw [HS.out]; rfl, rfl⟩
        | c N x b2 b5 b8 c2 c5 q =>
          have q0 : w.cell? ⟨b8, 0, none⟩ = some (.int .i64 x.a) := q.cell 0
          have q1 : w.cell? ⟨b8, 1, none⟩ = some (.int .i64 x.b) := q.cell 1
          have q2 : w.cell? ⟨b8, 2, none⟩ = some (.int .i64 x.c) := q.cell 2
          have c5 : w.cell? ⟨b5, 0, none⟩ = some (.func (.func 60) #[] #[.pointer (some ⟨b2, 0, none⟩)]) := c5.cell 0
          have c2 : w.cell? ⟨b2, 0, none⟩ = some (.int .i64 N) := c2.cell 0
          obtain ⟨r, hr9⟩ : ∃ r, eR N x = r := ⟨_, rfl⟩
          rw [hr9] at hb HS
          have HR9 := Lib.hid hr9
          clear hr9
          go_wp2_with (go_at_call 64; refine (c64 N x b2 b5 b8 _ c2 c5 q0 q1 q2).mono ?_; rintro e w' ⟨rfl, rfl⟩; rw [HR9.out])
          go_ret
          exact ⟨by rw [HS.out]; rfl, rfl⟩
        | d x b8 q =>
          have q0 : w.cell? ⟨b8, 0, none⟩ = some (.int .i64 x.a) := q.cell 0
          have q1 : w.cell? ⟨b8, 1, none⟩ = some (.int .i64 x.b) := q.cell 1
          obtain ⟨r, hr9⟩ : ∃ r, eL x = r := ⟨_, rfl⟩
          rw [hr9] at hb HS
          have HR9 := Lib.hid hr9
          clear hr9
          go_wp2_with (go_at_call 65; refine (c65 x b8 _ q0 q1).mono ?_; rintro e w' ⟨rfl, rfl⟩; rw [HR9.out])
          go_ret
          exact ⟨by rw [HS.out]; rfl, rfl⟩
    · obtain rfl : k = n := by omega
      have HS : Hid (fnz rs = 0) := Lib.hid (by rw [← HF.out, List.drop_of_length_le (by rw [HR.out]; exact Nat.le_refl _)]; rfl)
      go_wp2_with fail
      go_ret
      exact ⟨by rw [HS.out]; rfl, rfl⟩

end Go.Proofs.Ytfmjcjkifjndgaa
