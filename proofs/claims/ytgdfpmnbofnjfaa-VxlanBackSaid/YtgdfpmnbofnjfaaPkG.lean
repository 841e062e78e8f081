/- Packets, pure: sums; a byte changed. -/
import Derived.Test.YtgdfpmnbofnjfaaPkL
namespace Go.Proofs.Ytgdfpmnbofnjfaa
open Go.RowKit Go.Shelf
set_option linter.unusedVariables false
set_option linter.unusedSimpArgs false
set_option maxRecDepth 100000

/-- The sum of the numbers. -/
def wsum : List Int → Int
  | [] => 0
  | [a] => a * 256
  | a :: b :: r => a * 256 + b + wsum r
/-- A sum with carries added again. -/
def ocs (t : Int) : Int := if t = 0 then 0 else (t - 1) % 65535 + 1
theorem ocs_step {t n : Int} (ht : 0 ≤ t) (h0 : 0 ≤ n) (h1 : n ≤ 65535) : stp (ocs t) n = ocs (t + n) := by
  unfold ocs stp
  by_cases h : t = 0
  · rw [if_pos h]
    by_cases h2 : n = 0
    · rw [if_pos (by omega), h2]; rfl
    · rw [if_neg (by omega)]; omega
  · rw [if_neg h, if_neg (by omega)]
    omega
theorem foldl_ocs : ∀ (l : List Int) (t : Int), 0 ≤ t → (∀ v ∈ l, 0 ≤ v ∧ v ≤ 65535) → l.foldl stp (ocs t) = ocs (t + l.sum)
  | [], t, _, _ => by simp
  | n :: l, t, ht, h => by
    have hn := h n (by simp)
    rw [List.foldl_cons, ocs_step ht hn.1 hn.2, foldl_ocs l (t + n) (by omega) (fun v hv => h v (by simp [hv])), List.sum_cons, Int.add_assoc]
theorem nums_sum : ∀ l : List Int, (nums l).sum = wsum l
  | [] => rfl
  | [a] => by simp [nums, wsum]
  | a :: b :: r => by rw [nums, wsum, List.sum_cons, nums_sum r]
theorem nums_bd : ∀ (l : List Int), (∀ v ∈ l, 0 ≤ v ∧ v ≤ 255) → ∀ v ∈ nums l, 0 ≤ v ∧ v ≤ 65535
  | [], _, v, hv => by simp [nums] at hv
  | [a], h, v, hv => by
    have := h a (by simp)
    simp [nums] at hv
    omega
  | a :: b :: r, h, v, hv => by
    have h1 := h a (by simp)
    have h2 := h b (by simp)
    simp only [nums, List.mem_cons] at hv
    rcases hv with rfl | hv
    · omega
    · exact nums_bd r (fun u hu => h u (by simp [hu])) v hv
theorem sumP_ocs {l : List Int} (h : ∀ v ∈ l, 0 ≤ v ∧ v ≤ 255) : sumP l = 65535 - ocs (wsum l) := by
  have h2 := foldl_ocs (nums l) 0 (by omega) (nums_bd l h)
  unfold sumP sacc
  rw [show (0 : Int) = ocs 0 from rfl, h2, nums_sum, Int.zero_add]
/-- What a byte counts. -/
def wt (i : Nat) : Int := if i % 2 = 0 then 256 else 1
theorem wsum_set : ∀ (l : List Int) (i : Nat) (v : Int) (h : i < l.length), wsum (l.set i v) = wsum l + (v - l[i]) * wt i
  | [a], 0, v, _ => by simp [wsum, wt]; omega
  | a :: b :: r, 0, v, _ => by simp only [List.set_cons_zero, wsum, List.getElem_cons_zero, wt]; simp; omega
  | a :: b :: r, 1, v, _ => by simp only [List.set_cons_succ, List.set_cons_zero, wsum, List.getElem_cons_succ, List.getElem_cons_zero, wt]; simp; omega
  | a :: b :: r, i + 2, v, h => by
    have ih := wsum_set r i v (by simp at h; omega)
    simp only [List.set_cons_succ, wsum, List.getElem_cons_succ]
    rw [ih, show wt (i + 2) = wt i by unfold wt; rw [Nat.add_mod_right]]
    omega
theorem wsum_flat2 (v : Int) (r : List Int) (h0 : 0 ≤ v) (h1 : v < 65536) : wsum (be v 2 ++ r) = v + wsum r := by
  show wsum ((v / 256 ^ 1 % 256) :: (v / 256 ^ 0 % 256) :: r) = _
  rw [wsum]
  have : (256 : Int) ^ 1 = 256 := by decide
  have : (256 : Int) ^ 0 = 1 := by decide
  omega
theorem wsum_pos {l : List Int} (h : ∀ v ∈ l, 0 ≤ v) : 0 ≤ wsum l := by
  have key : ∀ (n : Nat) (l : List Int), l.length ≤ n → (∀ v ∈ l, 0 ≤ v) → 0 ≤ wsum l := by
    intro n
    induction n with
    | zero => intro l hl _; obtain rfl := List.eq_nil_of_length_eq_zero (Nat.le_zero.1 hl); simp [wsum]
    | succ n ih =>
      intro l hl h
      match l with
      | [] => simp [wsum]
      | [a] => have := h a (by simp); simp only [wsum]; omega
      | a :: b :: r =>
        have h1 := h a (by simp)
        have h2 := h b (by simp)
        have := ih r (by simp at hl; omega) (fun u hu => h u (by simp [hu]))
        simp only [wsum]
        omega
  exact key _ l (Nat.le_refl _) h
theorem be4_split (v : Int) : be v 4 = be (v / 65536) 2 ++ be v 2 := by
  show [v / 256 ^ 3 % 256, v / 256 ^ 2 % 256, v / 256 ^ 1 % 256, v / 256 ^ 0 % 256] = [v / 65536 / 256 ^ 1 % 256, v / 65536 / 256 ^ 0 % 256, v / 256 ^ 1 % 256, v / 256 ^ 0 % 256]
  have e3 : (256 : Int) ^ 3 = 16777216 := by decide
  have e2 : (256 : Int) ^ 2 = 65536 := by decide
  have e1 : (256 : Int) ^ 1 = 256 := by decide
  have e0 : (256 : Int) ^ 0 = 1 := by decide
  rw [e3, e2, e1, e0]
  simp only [List.cons.injEq, and_true]
  refine ⟨?_, ?_⟩ <;> omega
/-- The sum of a header without its checksum. -/
def hsum (x : FR) : Int := wsum (hdr x 0)
theorem hdr_sum (x : FR) (s : Int) (h0 : 0 ≤ s) (h1 : s ≤ 65535) : wsum (hdr x s) = s + hsum x := by
  have key : ∀ (a b c : Int) (p q s : Int) (r : List Int), wsum ((be a 2 ++ be b 2 ++ be c 4 ++ be p 1 ++ be q 1 ++ be s 2) ++ r) = wsum (be a 2 ++ be b 2 ++ be c 4 ++ be p 1 ++ be q 1) + wsum (be s 2 ++ r) := by
    intro a b c p q s r
    simp only [be, List.cons_append, List.nil_append, List.append_assoc, wsum]
    omega
  have e : ∀ s, hdr x s = (be 17664 2 ++ be (hsz x) 2 ++ be 0 4 ++ be x.tl 1 ++ be x.pr 1 ++ be s 2) ++ (be x.hs 4 ++ be x.hd 4) := fun s => by
    unfold hdr
    simp only [List.append_assoc]
  unfold hsum
  rw [e s, e 0, key, key, wsum_flat2 s _ h0 (by omega), wsum_flat2 0 _ (by omega) (by omega)]
  omega
theorem hsum_pos (x : FR) : 0 < hsum x := by
  have hb := hdr_byte x 0
  have e : hdr x 0 = be 17664 2 ++ (be (hsz x) 2 ++ be 0 4 ++ be x.tl 1 ++ be x.pr 1 ++ be 0 2 ++ be x.hs 4 ++ be x.hd 4) := by
    unfold hdr
    simp only [List.append_assoc]
  unfold hsum
  rw [e] at hb ⊢
  rw [wsum_flat2 17664 _ (by omega) (by omega)]
  have := wsum_pos (l := be (hsz x) 2 ++ be 0 4 ++ be x.tl 1 ++ be x.pr 1 ++ be 0 2 ++ be x.hs 4 ++ be x.hd 4) (fun v hv => (hb v (List.mem_append.2 (.inr hv))).1)
  omega
theorem hdrS_wsum (x : FR) : ∃ m, 0 < m ∧ wsum (hdrS x) = 65535 * m := by
  have h1 := sumP_le (hdr x 0) (hdr_byte x 0)
  have h2 := sumP_ocs (hdr_byte x 0)
  have h3 := hsum_pos x
  unfold hdrS
  rw [hdr_sum x _ h1.1 h1.2, h2]
  change ∃ m, 0 < m ∧ 65535 - ocs (hsum x) + hsum x = _
  unfold ocs
  rw [if_neg (by omega)]
  refine ⟨(hsum x - 1) / 65535 + 1, by omega, by omega⟩
theorem hdrS_byte (x : FR) : ∀ v ∈ hdrS x, 0 ≤ v ∧ v ≤ 255 := hdr_byte x _
/-- The checksum of a header with its checksum. -/
theorem hdrS_zero (x : FR) : sumP (hdrS x) = 0 := by
  rw [sumP_ocs (hdrS_byte x)]
  obtain ⟨m, h0, h1⟩ := hdrS_wsum x
  rw [h1]
  unfold ocs
  rw [if_neg (by omega)]
  omega
/-- A header with one byte changed is none. -/
theorem hdrS_other (x y : FR) (i : Nat) (hi : i < (hdrS x).length) (v : Int) (h0 : 0 ≤ v) (h1 : v ≤ 255) (hy : hdrS y = (hdrS x).set i v) : v = (hdrS x)[i] := by
  obtain ⟨m, hm0, hm⟩ := hdrS_wsum x
  obtain ⟨k, hk0, hk⟩ := hdrS_wsum y
  rw [hy, wsum_set _ _ _ hi, hm] at hk
  have hb := hdrS_byte x _ (List.getElem_mem hi)
  unfold wt at hk
  split at hk <;> omega

end Go.Proofs.Ytgdfpmnbofnjfaa
