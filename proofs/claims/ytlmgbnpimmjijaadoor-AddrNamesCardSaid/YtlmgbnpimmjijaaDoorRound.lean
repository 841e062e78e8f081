/- From texts to numbers and back. No program. -/
import Derived.Test.YtlmgbnpimmjijaaDoorLower
namespace Go.Proofs.YtlmgbnpimmjijaaDoor
open Go

theorem cut_nil (c : UInt8) : Lib.cut [] [c] = ([], [], false) := rfl
theorem cut_eq (c : UInt8) (r : List UInt8) : Lib.cut (c :: r) [c] = ([], r, true) := by
  have h : Lib.index (c :: r) [c] = 0 := by unfold Lib.index; simp [List.isPrefixOf]
  simp [Lib.cut, h]
theorem cut_ne (x c : UInt8) (r : List UInt8) (h : x ≠ c) : Lib.cut (x :: r) [c] = (x :: (Lib.cut r [c]).1, (Lib.cut r [c]).2.1, (Lib.cut r [c]).2.2) := by
  have hc : (c == x) = false := by simp [Ne.symm h]
  rcases Lib.index_spec r [c] with ⟨h1, _⟩ | ⟨i, h1, _, _, _⟩
  · have h2 : Lib.index (x :: r) [c] = -1 := by unfold Lib.index; simp [List.isPrefixOf, hc, h1]
    simp [Lib.cut, h1, h2]
  · have h2 : Lib.index (x :: r) [c] = ((i + 1 : Nat) : Int) := by
      unfold Lib.index
      have : ((i : Int) == -1) = false := by rw [beq_eq_false_iff_ne]; omega
      simp [List.isPrefixOf, hc, h1, this]
    unfold Lib.cut
    rw [h1, h2, if_pos (by omega), if_pos (by omega)]
    simp
theorem cut_app (c : UInt8) (r : List UInt8) : ∀ a : List UInt8, c ∉ a → Lib.cut (a ++ c :: r) [c] = (a, r, true)
  | [], _ => cut_eq c r
  | x :: a, h => by
    simp only [List.mem_cons, not_or] at h
    rw [List.cons_append, cut_ne x c _ (Ne.symm h.1), cut_app c r a h.2]
theorem cut_no (c : UInt8) : ∀ a : List UInt8, c ∉ a → Lib.cut a [c] = (a, [], false)
  | [], _ => cut_nil c
  | x :: a, h => by
    simp only [List.mem_cons, not_or] at h
    rw [cut_ne x c _ (Ne.symm h.1), cut_no c a h.2]
theorem cut_back (c : UInt8) : ∀ (l p r : List UInt8) (b : Bool), Lib.cut l [c] = (p, r, b) → (b = true ∧ l = p ++ c :: r) ∨ (b = false ∧ l = p ∧ r = [])
  | [], p, r, b, h => by
    rw [cut_nil] at h
    cases h
    exact .inr ⟨rfl, rfl, rfl⟩
  | x :: l, p, r, b, h => by
    by_cases e : x = c
    · subst e
      rw [cut_eq] at h
      cases h
      exact .inl ⟨rfl, rfl⟩
    · rw [cut_ne x c _ e] at h
      obtain ⟨p', r', b', hq⟩ : ∃ p' r' b', Lib.cut l [c] = (p', r', b') := ⟨_, _, _, rfl⟩
      have ih := cut_back c l p' r' b' hq
      rw [hq] at h
      simp only [Prod.mk.injEq] at h
      obtain ⟨rfl, rfl, rfl⟩ := h
      rcases ih with ⟨h1, h2⟩ | ⟨h1, h2, h3⟩
      · exact .inl ⟨h1, by rw [h2]; rfl⟩
      · exact .inr ⟨h1, by rw [h2], h3⟩

/-- Decimal numerals. -/
theorem itoa_one {v : Int} (h0 : 0 ≤ v) (h1 : v < 10) : Lib.itoa v = [UInt8.ofNat (48 + v.toNat)] := by
  unfold Lib.itoa
  rw [if_neg (by omega), Lib.decDigits_one (by omega)]
theorem itoa_two {v : Int} (h0 : 10 ≤ v) (h1 : v < 100) : Lib.itoa v = [UInt8.ofNat (48 + v.toNat / 10), UInt8.ofNat (48 + v.toNat % 10)] := by
  unfold Lib.itoa
  rw [if_neg (by omega), Lib.decDigits_two (by omega) (by omega)]
theorem itoa_three {v : Int} (h0 : 100 ≤ v) (h1 : v < 1000) : Lib.itoa v = [UInt8.ofNat (48 + v.toNat / 100), UInt8.ofNat (48 + v.toNat / 10 % 10), UInt8.ofNat (48 + v.toNat % 10)] := by
  unfold Lib.itoa
  rw [if_neg (by omega), Lib.decDigits, dif_neg (by omega), Lib.decDigits_two (by omega) (by omega), Nat.div_div_eq_div_mul]
  rfl

theorem dg_dec (k : Nat) (h : k < 10) : dg ((UInt8.ofNat (48 + k)).toNat : Int) = k := by
  have key : ∀ q : Fin 10, dg ((UInt8.ofNat (48 + q.val)).toNat : Int) = q.val := by decide +kernel
  exact key ⟨k, h⟩
theorem of_dec (a : UInt8) (h : dg (a.toNat : Int) < 10) : a = UInt8.ofNat (48 + (dg (a.toNat : Int)).toNat) := by
  have key : ∀ q : Fin 256, dg (q.val : Int) < 10 → UInt8.ofNat q.val = UInt8.ofNat (48 + (dg (q.val : Int)).toNat) := by decide +kernel
  have h2 := key ⟨a.toNat, a.toNat_lt⟩ h
  simpa using h2
theorem dg_hex (k : Nat) (h : k < 16) : dg ((hexd (k : Int)).toNat : Int) = k := by
  have key : ∀ q : Fin 16, dg ((hexd (q.val : Int)).toNat : Int) = q.val := by decide +kernel
  exact key ⟨k, h⟩
theorem of_hex (a : UInt8) (h : dg (a.toNat : Int) < 16) : hexd (dg (a.toNat : Int)) = lowB a := by
  have key : ∀ q : Fin 256, dg (q.val : Int) < 16 → hexd (dg (q.val : Int)) = lowB (UInt8.ofNat q.val) := by decide +kernel
  have h2 := key ⟨a.toNat, a.toNat_lt⟩ h
  simpa using h2

/-- A byte's hexadecimal part reads as the byte. -/
theorem part_hex (v : Int) (h0 : 0 ≤ v) (h1 : v ≤ 255) : partNum hexN [hexd (v / 16), hexd (v % 16)] = some v := by
  have key : ∀ q : Fin 256, partNum hexN [hexd ((q.val : Int) / 16), hexd ((q.val : Int) % 16)] = some (q.val : Int) := by decide +kernel
  obtain ⟨k, rfl⟩ := Int.eq_ofNat_of_zero_le h0
  exact key ⟨k, by omega⟩

/-- A decimal part that is read is the number's numeral. -/
theorem part_dec_back (n : Nota) (hb : n.base = 10) (hm : n.most ≤ 3) (hp : n.padded = false) (h1 : 1 ≤ n.least) (p : List UInt8) (v : Int) (h : partNum n p = some v) : Lib.itoa v = p := by
  unfold partNum at h
  rw [hb] at h
  by_cases c1 : (p.length : Int) < n.least
  · rw [if_pos c1] at h; cases h
  by_cases c2 : n.most < (p.length : Int)
  · rw [if_neg c1, if_pos c2] at h; cases h
  by_cases c3 : n.padded = false ∧ 1 < p.length ∧ p[0]?.getD 0 = 48
  · rw [if_neg c1, if_neg c2, if_pos c3] at h; cases h
  rw [if_neg c1, if_neg c2, if_neg c3] at h
  cases hs : sumTo 10 p 0 with
  | none => rw [hs] at h; cases h
  | some u =>
    rw [hs] at h
    simp only at h
    split at h
    · cases h
    cases h
    have hd := fun c : UInt8 => (dg_range (c := (c.toNat : Int))).1
    match p, c1, c2, c3, hs with
    | [], c1, _, _, _ => simp at c1; omega
    | [a], _, _, _, hs =>
      have da := hd a
      simp only [sumTo] at hs
      split at hs
      · cases hs
      cases hs
      rw [itoa_one (by omega) (by omega)]
      conv => rhs; rw [of_dec a (by omega)]
      congr 3
      omega
    | [a, b], _, _, c3, hs =>
      have da := hd a
      have db := hd b
      simp only [sumTo] at hs
      split at hs
      · cases hs
      split at hs
      · cases hs
      cases hs
      have ea := of_dec a (by omega)
      have eb := of_dec b (by omega)
      have hne : dg (a.toNat : Int) ≠ 0 := by
        intro e
        rw [e] at ea
        exact c3 ⟨hp, by simp, by rw [ea]; rfl⟩
      rw [itoa_two (by omega) (by omega)]
      conv => rhs; rw [ea, eb]
      congr 3
      · omega
      · congr 2; omega
    | [a, b, c], _, _, c3, hs =>
      have da := hd a
      have db := hd b
      have dc := hd c
      simp only [sumTo] at hs
      split at hs
      · cases hs
      split at hs
      · cases hs
      split at hs
      · cases hs
      cases hs
      have ea := of_dec a (by omega)
      have eb := of_dec b (by omega)
      have ec := of_dec c (by omega)
      have hne : dg (a.toNat : Int) ≠ 0 := by
        intro e
        rw [e] at ea
        exact c3 ⟨hp, by simp, by rw [ea]; rfl⟩
      rw [itoa_three (by omega) (by omega)]
      conv => rhs; rw [ea, eb, ec]
      congr 3
      · omega
      · congr 2; omega
      · congr 2; omega
    | a :: b :: c :: d :: r, _, c2, _, _ => simp at c2; omega

/-- A hexadecimal part that is read is the number's part, in lower case. -/
theorem part_hex_back (p : List UInt8) (v : Int) (h : partNum hexN p = some v) : [hexd (v / 16), hexd (v % 16)] = p.map lowB := by
  unfold partNum at h
  by_cases c1 : (p.length : Int) < hexN.least
  · rw [if_pos c1] at h; cases h
  by_cases c2 : hexN.most < (p.length : Int)
  · rw [if_neg c1, if_pos c2] at h; cases h
  rw [if_neg c1, if_neg c2, if_neg (by simp [hexN])] at h
  cases hs : sumTo hexN.base p 0 with
  | none => rw [hs] at h; cases h
  | some u =>
    rw [hs] at h
    simp only at h
    split at h
    · cases h
    cases h
    have hd := fun c : UInt8 => (dg_range (c := (c.toNat : Int))).1
    simp only [hexN] at c1 c2 hs
    match p, c1, c2, hs with
    | [], c1, _, _ => simp at c1
    | [a], c1, _, _ => simp at c1
    | [a, b], _, _, hs =>
      have da := hd a
      have db := hd b
      simp only [sumTo] at hs
      split at hs
      · cases hs
      split at hs
      · cases hs
      cases hs
      have ea := of_hex a (by omega)
      have eb := of_hex b (by omega)
      simp only [List.map_cons, List.map_nil, ← ea, ← eb]
      congr 2
      · omega
      · congr 2; omega
    | a :: b :: c :: r, _, c2, _ => simp at c2; omega

/-- A number's numeral reads as the number. -/
theorem part_dec (v : Int) (h0 : 0 ≤ v) (h1 : v ≤ 255) : partNum decN (Lib.itoa v) = some v := by
  rcases Int.lt_or_le v 10 with h | h
  · rw [itoa_one h0 h]
    have key : ∀ q : Fin 10, partNum decN [UInt8.ofNat (48 + q.val)] = some (q.val : Int) := by decide +kernel
    obtain ⟨k, rfl⟩ := Int.eq_ofNat_of_zero_le h0
    exact key ⟨k, by omega⟩
  rcases Int.lt_or_le v 100 with h2 | h2
  · rw [itoa_two h h2]
    have key : ∀ q : Fin 100, 10 ≤ q.val → partNum decN [UInt8.ofNat (48 + q.val / 10), UInt8.ofNat (48 + q.val % 10)] = some (q.val : Int) := by decide +kernel
    obtain ⟨k, rfl⟩ := Int.eq_ofNat_of_zero_le h0
    exact key ⟨k, by omega⟩ (by show 10 ≤ k; omega)
  · rw [itoa_three h2 (by omega)]
    have key : ∀ q : Fin 256, 100 ≤ q.val → partNum decN [UInt8.ofNat (48 + q.val / 100), UInt8.ofNat (48 + q.val / 10 % 10), UInt8.ofNat (48 + q.val % 10)] = some (q.val : Int) := by decide +kernel
    obtain ⟨k, rfl⟩ := Int.eq_ofNat_of_zero_le h0
    exact key ⟨k, by omega⟩ (by show 100 ≤ k; omega)
theorem part_len (v : Int) (h0 : 0 ≤ v) (h1 : v ≤ 32) : partNum lenN (Lib.itoa v) = some v := by
  rcases Int.lt_or_le v 10 with h | h
  · rw [itoa_one h0 h]
    have key : ∀ q : Fin 10, partNum lenN [UInt8.ofNat (48 + q.val)] = some (q.val : Int) := by decide +kernel
    obtain ⟨k, rfl⟩ := Int.eq_ofNat_of_zero_le h0
    exact key ⟨k, by omega⟩
  · rw [itoa_two h (by omega)]
    have key : ∀ q : Fin 33, 10 ≤ q.val → partNum lenN [UInt8.ofNat (48 + q.val / 10), UInt8.ofNat (48 + q.val % 10)] = some (q.val : Int) := by decide +kernel
    obtain ⟨k, rfl⟩ := Int.eq_ofNat_of_zero_le h0
    exact key ⟨k, by omega⟩ (by show 10 ≤ k; omega)

/-- No dot, slash or colon in a part that reads. -/
theorem no_sep (n : Nota) (hb : n.base ≤ 16) (c : UInt8) (hc : dg (c.toNat : Int) = 255) (p : List UInt8) (v : Int) (h : partNum n p = some v) : c ∉ p := by
  have key : ∀ (q : List UInt8) (s u : Int), sumTo n.base q s = some u → c ∉ q := by
    intro q
    induction q with
    | nil => intro _ _ _ hm; cases hm
    | cons x r ih =>
      intro s u hs hm
      rw [sumTo] at hs
      split at hs
      · cases hs
      rcases List.mem_cons.1 hm with rfl | hm
      · omega
      · exact ih _ _ hs hm
  unfold partNum at h
  split at h
  · cases h
  split at h
  · cases h
  split at h
  · cases h
  cases hs : sumTo n.base p 0 with
  | none => rw [hs] at h; cases h
  | some u => exact key p 0 u hs

end Go.Proofs.YtlmgbnpimmjijaaDoor
