/- Texts and numbers as plain lists. No program. -/
import Derived.WalkKit
import Derived.Lib.IndexMore
import Derived.Lib.CutLaws
namespace Go.Proofs.YtlmgbnpimmjijaaDoor
open Go

/-- The value of a hexadecimal digit; 255 for any other byte. -/
def dg (c : Int) : Int :=
  if 48 ≤ c ∧ c ≤ 57 then c - 48 else if 97 ≤ c ∧ c ≤ 102 then c - 97 + 10 else if 65 ≤ c ∧ c ≤ 70 then c - 65 + 10 else 255

theorem dg_range {c : Int} : 0 ≤ dg c ∧ dg c ≤ 255 := by
  unfold dg; split <;> (try split) <;> (try split) <;> omega

/-- How numbers are written. -/
structure Nota where
  base : Int
  least : Int
  most : Int
  padded : Bool
  limit : Int

/-- The number that digits give from a sum on; none: one of them is no digit of that base. -/
def sumTo (b : Int) : List UInt8 → Int → Option Int
  | [], s => some s
  | c :: r, s => if b ≤ dg c.toNat then none else sumTo b r (s * b + dg c.toNat)

/-- A part, read: its number, or none. -/
def partNum (n : Nota) (p : List UInt8) : Option Int :=
  if (p.length : Int) < n.least then none
  else if n.most < (p.length : Int) then none
  else if n.padded = false ∧ 1 < p.length ∧ p[0]?.getD 0 = 48 then none
  else match sumTo n.base p 0 with
    | none => none
    | some v => if n.limit < v then none else some v

/-- The number whose bytes are given, most significant byte first. -/
def joined (xs : List Int) : Int := xs.foldl (fun n b => n * 256 + b) 0

theorem joined_snoc (xs : List Int) (x : Int) : joined (xs ++ [x]) = joined xs * 256 + x := by simp [joined]

theorem joined_bound (xs : List Int) (h : ∀ j (h : j < xs.length), 0 ≤ xs[j] ∧ xs[j] ≤ 255) : 0 ≤ joined xs ∧ joined xs < 256 ^ xs.length := by
  have key : ∀ n : Nat, n ≤ xs.length → 0 ≤ joined (xs.take n) ∧ joined (xs.take n) < 256 ^ n := by
    intro n
    induction n with
    | zero => intro _; simp [joined]
    | succ n ih =>
      intro hn
      have i := ih (by omega)
      have hx := h n (by omega)
      rw [List.take_succ_eq_append_getElem (by omega), joined_snoc, Int.pow_succ]
      omega
  have := key xs.length (Nat.le_refl _)
  rwa [List.take_length] at this

theorem pow_le {a : Nat} (b : Nat) (h : a ≤ b) : (256 : Int) ^ a ≤ 256 ^ b := by
  obtain ⟨d, rfl⟩ := Nat.le.dest h
  induction d with
  | zero => exact Int.le_refl _
  | succ d ih =>
    have := ih (by omega)
    rw [show a + (d + 1) = (a + d) + 1 from rfl, Int.pow_succ]
    have hp : (0 : Int) < 256 ^ (a + d) := Int.pow_pos (by omega)
    omega

theorem part_short {n : Nota} {p : List UInt8} (h : (p.length : Int) < n.least) : partNum n p = none := by unfold partNum; rw [if_pos h]
theorem part_long {n : Nota} {p : List UInt8} (h : n.most < (p.length : Int)) : partNum n p = none := by
  unfold partNum
  by_cases h0 : (p.length : Int) < n.least
  · rw [if_pos h0]
  · rw [if_neg h0, if_pos h]
theorem part_zero {n : Nota} {p : List UInt8} (h : n.padded = false ∧ 1 < p.length ∧ p[0]?.getD 0 = 48) : partNum n p = none := by
  unfold partNum
  by_cases h0 : (p.length : Int) < n.least
  · rw [if_pos h0]
  · by_cases h1 : n.most < (p.length : Int)
    · rw [if_neg h0, if_pos h1]
    · rw [if_neg h0, if_neg h1, if_pos h]
theorem part_rest {n : Nota} {p : List UInt8} (h1 : n.least ≤ (p.length : Int)) (h2 : (p.length : Int) ≤ n.most) (h3 : ¬ (n.padded = false ∧ 1 < p.length ∧ p[0]?.getD 0 = 48)) :
    partNum n p = match sumTo n.base p 0 with | none => none | some v => if n.limit < v then none else some v := by
  unfold partNum; rw [if_neg (by omega), if_neg (by omega), if_neg h3]

theorem sumTo_step {b : Int} {p : List UInt8} {j : Nat} (hj : j < p.length) (S : Int) :
    sumTo b (p.drop j) S = if b ≤ dg (p[j].toNat : Int) then none else sumTo b (p.drop (j + 1)) (S * b + dg (p[j].toNat : Int)) := by
  rw [List.drop_eq_getElem_cons hj, sumTo]

theorem cut_length {l sep p r : List UInt8} {b : Bool} (h : Lib.cut l sep = (p, r, b)) : p.length ≤ l.length ∧ r.length ≤ l.length := by
  unfold Lib.cut at h
  split at h
  · simp only [Prod.mk.injEq] at h
    obtain ⟨rfl, rfl, _⟩ := h
    simp
    omega
  · simp only [Prod.mk.injEq] at h
    obtain ⟨rfl, rfl, _⟩ := h
    simp

/-- What the loop of 'numbers' comes to when k numbers may still be read. -/
def nums (n : Nota) (sep : List UInt8) : Nat → List Int → List UInt8 → Bool → Option (List Int)
  | 0, xs, _, more => if more then none else some xs
  | k + 1, xs, rest, more =>
    if more then
      match partNum n (Lib.cut rest sep).1 with
      | none => none
      | some v => nums n sep k (xs ++ [v]) (Lib.cut rest sep).2.1 (Lib.cut rest sep).2.2
    else none

theorem nums_stop (n : Nota) (sep : List UInt8) (k : Nat) (xs : List Int) (rest : List UInt8) : nums n sep k xs rest false = if k = 0 then some xs else none := by
  cases k <;> simp [nums]
theorem nums_full (n : Nota) (sep : List UInt8) (xs : List Int) (rest : List UInt8) : nums n sep 0 xs rest true = none := by simp [nums]
theorem nums_bad {n : Nota} {sep : List UInt8} {k : Nat} {xs : List Int} {rest : List UInt8} (h : partNum n (Lib.cut rest sep).1 = none) : nums n sep (k + 1) xs rest true = none := by simp [nums, h]
theorem nums_good {n : Nota} {sep : List UInt8} {k : Nat} {xs : List Int} {rest : List UInt8} {v : Int} (h : partNum n (Lib.cut rest sep).1 = some v) :
    nums n sep (k + 1) xs rest true = nums n sep k (xs ++ [v]) (Lib.cut rest sep).2.1 (Lib.cut rest sep).2.2 := by simp [nums, h]

theorem sumTo_nonneg {b : Int} (hb : 0 ≤ b) : ∀ (p : List UInt8) (S v : Int), 0 ≤ S → sumTo b p S = some v → 0 ≤ v
  | [], S, v, h0, h => by simp [sumTo] at h; omega
  | c :: r, S, v, h0, h => by
    rw [sumTo] at h
    split at h
    · cases h
    · refine sumTo_nonneg hb r _ v ?_ h
      have h1 := (dg_range (c := (c.toNat : Int))).1
      have h2 := Int.mul_nonneg h0 hb
      omega

theorem partNum_range {n : Nota} (hb : 0 ≤ n.base) {p : List UInt8} {v : Int} (h : partNum n p = some v) : 0 ≤ v ∧ v ≤ n.limit := by
  unfold partNum at h
  split at h
  · cases h
  · split at h
    · cases h
    · split at h
      · cases h
      · cases hs : sumTo n.base p 0 with
        | none => rw [hs] at h; cases h
        | some u =>
          rw [hs] at h
          have h0 := sumTo_nonneg hb p 0 u (Int.le_refl _) hs
          simp only at h
          split at h
          · cases h
          · cases h; omega

/-- What the loop finds: so many numbers, each within the limit. -/
theorem nums_ok {n : Nota} (hb : 0 ≤ n.base) (sep : List UInt8) : ∀ (k : Nat) (xs : List Int) (rest : List UInt8) (more : Bool) (ys : List Int), nums n sep k xs rest more = some ys → (∀ x ∈ xs, 0 ≤ x ∧ x ≤ n.limit) → ys.length = xs.length + k ∧ ∀ y ∈ ys, 0 ≤ y ∧ y ≤ n.limit
  | 0, xs, rest, more, ys, h, hx => by
    cases more <;> simp [nums] at h
    subst h; exact ⟨by simp, hx⟩
  | k + 1, xs, rest, more, ys, h, hx => by
    cases more with
    | false => simp [nums] at h
    | true =>
      cases hp : partNum n (Lib.cut rest sep).1 with
      | none => rw [nums_bad hp] at h; cases h
      | some v =>
        rw [nums_good hp] at h
        have := nums_ok hb sep k (xs ++ [v]) _ _ ys h (by
          intro x hx2
          rcases List.mem_append.1 hx2 with h1 | h1
          · exact hx x h1
          · simp at h1; subst h1; exact partNum_range hb hp)
        refine ⟨?_, this.2⟩
        rw [this.1]; simp; omega

end Go.Proofs.YtlmgbnpimmjijaaDoor
