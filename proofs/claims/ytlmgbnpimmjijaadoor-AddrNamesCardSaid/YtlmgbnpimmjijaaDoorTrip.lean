/- Parts with separators: there and back. No program. -/
import Derived.Test.YtlmgbnpimmjijaaDoorRound
namespace Go.Proofs.YtlmgbnpimmjijaaDoor
open Go

/-- Parts with a separator between them. -/
def sepd (c : UInt8) : List (List UInt8) → List UInt8
  | [] => []
  | [p] => p
  | p :: q :: r => p ++ c :: sepd c (q :: r)

theorem sepd_cons (c : UInt8) (p : List UInt8) (ps : List (List UInt8)) (h : ps ≠ []) : sepd c (p :: ps) = p ++ c :: sepd c ps := by
  cases ps with
  | nil => exact absurd rfl h
  | cons q r => rfl

theorem nums_sepd (n : Nota) (c : UInt8) (f : Int → List UInt8) : ∀ (xs acc : List Int), xs ≠ [] → (∀ v ∈ xs, partNum n (f v) = some v ∧ c ∉ f v) → nums n [c] xs.length acc (sepd c (xs.map f)) true = some (acc ++ xs)
  | [], _, h, _ => absurd rfl h
  | [v], acc, _, hf => by
    obtain ⟨h1, h2⟩ := hf v (by simp)
    have hc := cut_no c (f v) h2
    simp only [List.map_cons, List.map_nil, sepd, List.length_cons, List.length_nil]
    rw [nums_good (v := v) (by rw [hc]; exact h1), hc]
    rfl
  | v :: u :: r, acc, _, hf => by
    obtain ⟨h1, h2⟩ := hf v (by simp)
    have hc := cut_app c (sepd c ((u :: r).map f)) (f v) h2
    rw [List.map_cons, sepd_cons c _ _ (by simp), List.length_cons, nums_good (v := v) (by rw [hc]; exact h1), hc]
    have ih := nums_sepd n c f (u :: r) (acc ++ [v]) (by simp) (fun x hx => hf x (List.mem_cons_of_mem _ hx))
    rw [ih]
    simp

theorem nums_back (n : Nota) (c : UInt8) (f : Int → List UInt8) (g : UInt8 → UInt8) (hc : g c = c) (hf : ∀ p v, partNum n p = some v → f v = p.map g) :
    ∀ (k : Nat) (acc : List Int) (l : List UInt8) (ys : List Int), nums n [c] (k + 1) acc l true = some ys → ∃ xs, ys = acc ++ xs ∧ xs.length = k + 1 ∧ sepd c (xs.map f) = l.map g := by
  intro k
  induction k with
  | zero =>
    intro acc l ys h
    obtain ⟨p, r, b, hq⟩ : ∃ p r b, Lib.cut l [c] = (p, r, b) := ⟨_, _, _, rfl⟩
    cases hp : partNum n p with
    | none => rw [nums_bad (by rw [hq]; exact hp)] at h; cases h
    | some v =>
      rw [nums_good (v := v) (by rw [hq]; exact hp), hq] at h
      rcases cut_back c l p r b hq with ⟨rfl, _⟩ | ⟨rfl, rfl, rfl⟩
      · rw [nums_full] at h; cases h
      · rw [nums_stop] at h
        simp only [if_true, Option.some.injEq] at h
        exact ⟨[v], h.symm, rfl, hf l v hp⟩
  | succ k ih =>
    intro acc l ys h
    obtain ⟨p, r, b, hq⟩ : ∃ p r b, Lib.cut l [c] = (p, r, b) := ⟨_, _, _, rfl⟩
    cases hp : partNum n p with
    | none => rw [nums_bad (by rw [hq]; exact hp)] at h; cases h
    | some v =>
      rw [nums_good (v := v) (by rw [hq]; exact hp), hq] at h
      rcases cut_back c l p r b hq with ⟨rfl, rfl⟩ | ⟨rfl, rfl, rfl⟩
      · obtain ⟨xs, h1, h2, h3⟩ := ih _ _ _ h
        refine ⟨v :: xs, by rw [h1]; simp, by simp [h2], ?_⟩
        rw [List.map_cons, sepd_cons c _ _ (by intro e; rw [List.map_eq_nil_iff] at e; rw [e] at h2; cases h2), h3, hf p v hp, List.map_append, List.map_cons, hc]
      · rw [nums_stop, if_neg (by omega)] at h
        cases h

/-- The texts of the program, as parts with separators. -/
def hexT (v : Int) : List UInt8 := [hexd (v / 16), hexd (v % 16)]
theorem ipT_sepd (a b c d : Int) : ipT a b c d = sepd 46 ([a, b, c, d].map Lib.itoa) := by simp [ipT, sepd]
theorem coP_six (a b c d e f : Int) : coP [a, b, c, d, e, f] (List.finRange 6) = sepd 58 ([a, b, c, d, e, f].map hexT) := by
  have h : List.finRange 6 = [0, 1, 2, 3, 4, 5] := by decide
  rw [h]
  rfl
theorem coP_ten (a b c d e f g h i j : Int) : coP [a, b, c, d, e, f, g, h, i, j] (List.finRange 10) = sepd 58 ([a, b, c, d, e, f, g, h, i, j].map hexT) := by
  have h : List.finRange 10 = [0, 1, 2, 3, 4, 5, 6, 7, 8, 9] := by decide
  rw [h]
  rfl

end Go.Proofs.YtlmgbnpimmjijaaDoor
