/- The functions of the statements: remainders, copies, comparisons, numbers by the index of their size. -/
import Derived.Test.YtgdfpmnbofnjfaaLwA
namespace Go.Proofs.Ytgdfpmnbofnjfaa
open Go.RowKit Go.Maps
set_option maxRecDepth 100000
set_option linter.unusedVariables false

theorem pick_eq (i n : Int) (hn : 0 < n) : (if i.tmod n < 0 then i.tmod n + n else i.tmod n) = i % n := by
  have h1 := Int.emod_nonneg i (show n ≠ 0 by omega)
  have h2 := Int.emod_lt_of_pos i hn
  have h3 := Int.tmod_eq_emod (a := i) (b := n)
  rw [h3]
  have h4 : (n.natAbs : Int) = n := by omega
  by_cases hc : 0 ≤ i ∨ n ∣ i
  · rw [if_pos hc, if_neg (by omega)]
    omega
  · rw [if_neg hc, h4, if_pos (by omega)]
    omega

theorem tmod_bd (i n : Int) (hn : 0 < n) : -n < i.tmod n ∧ i.tmod n < n := by
  have h1 := Int.emod_nonneg i (show n ≠ 0 by omega)
  have h2 := Int.emod_lt_of_pos i hn
  rw [Int.tmod_eq_emod]
  have h4 : (n.natAbs : Int) = n := by omega
  by_cases hc : 0 ≤ i ∨ n ∣ i
  · rw [if_pos hc]; omega
  · rw [if_neg hc, h4]
    have h5 : i % n ≠ 0 := fun h => hc (.inr (Int.dvd_of_emod_eq_zero h))
    omega

theorem pick_any (i n : Int) (hn : 0 < n) (hn2 : n ≤ 1000000000) (w : World) :
    Calls Try.prog 22 #[.int .i64 i, .int .i64 n] w fun e w' => e = .returned (.int .i64 (i % n)) ∧ w = w' := by
  have hp := pick_eq i n hn
  have hb := tmod_bd i n hn
  obtain ⟨b0, b1⟩ := hb
  have hn0 : (n == 0) = false := by simp; omega
  by_cases hc : i.tmod n < 0
  · rw [if_pos hc] at hp
    have HP := Lib.hid hp
    clear hp
    go_enter Try.func22, Try.ntmps22
    go_wp2
    go_ret
    exact ⟨by rw [← HP.out]; rfl, rfl⟩
  · rw [if_neg hc] at hp
    have HP := Lib.hid hp
    have hc0 : 0 ≤ i.tmod n := by omega
    clear hp hc
    go_enter Try.func22, Try.ntmps22
    go_wp2
    go_ret
    exact ⟨by rw [← HP.out]; rfl, rfl⟩

/-- A slice that reads as these bytes. -/
def Arr (w : World) (v : Value) (xs : List Int) : Prop := (v = .slice none 0 0 ∧ xs = []) ∨ ∃ ad c, v = .slice (some ad) xs.length c ∧ Cel w ad xs

theorem Arr.below {w w' : World} {v : Value} {xs : List Int} (h : Arr w v xs) (hb : Below w.heap.size w w') : Arr w' v xs := by
  rcases h with h | ⟨ad, c, h1, h2⟩
  · exact .inl h
  · exact .inr ⟨ad, c, h1, h2.below hb⟩
theorem Got.arr {w : World} {base : Nat} {v : Value} {xs : List Int} (h : Got w base v xs) : Arr w v xs := by
  rcases h with h | ⟨h', c', h1, h2, h3⟩
  · exact .inl h
  · exact .inr ⟨_, c', h1, h2.all.at_⟩
theorem Copied.got {w : World} {base : Nat} {v : Value} {xs : List Int} (h : Copied w base v xs) : Got w base v xs := h
theorem Arr.form {w : World} {v : Value} {xs : List Int} (h : Arr w v xs) : ∃ A c, v = .slice A xs.length c := by
  rcases h with ⟨rfl, rfl⟩ | ⟨ad, c, h1, h2⟩
  · exact ⟨none, 0, rfl⟩
  · exact ⟨_, c, h1⟩

/-- Where there are bytes, the address is plain. -/
theorem Cel.plain {w : World} {ad : Addr} {xs : List Int} (h : Cel w ad xs) (hn : 0 < xs.length) : ∃ b o, ad = ⟨b, o, none⟩ ∧ Sl w b o xs := by
  obtain ⟨b, o, spot⟩ := ad
  have h0 := h 0 (.int .u8 xs[0]) (by simp [hn])
  have hspot : spot = none := by simpa [Addr.add] using World.cell?_spot h0
  subst hspot
  refine ⟨b, o, rfl, fun j hj => ?_⟩
  have h1 := h j (.int .u8 xs[j]) (by simp [hj])
  unfold Addr.add at h1
  by_cases hj0 : j = 0
  · subst hj0
    simpa using h1
  · rw [if_neg hj0] at h1
    exact h1

theorem rnewA (v : Value) (xs : List Int) (w : World) (h : Arr w v xs) (hm : xs.length ≤ 1000000) (hx : ∀ v ∈ xs, 0 ≤ v ∧ v ≤ 255) :
    Calls Try.prog 43 #[v] w fun e w' => ∃ g' h' c', e = .returned (.pointer (some ⟨g', 0, none⟩)) ∧ w.heap.size ≤ g' ∧ w.heap.size ≤ h' ∧ RdS w' g' h' c' ⟨xs, 0, 0, 0, 0⟩ ∧ Below w.heap.size w w' := by
  rcases h with ⟨rfl, rfl⟩ | ⟨ad, c, rfl, h2⟩
  · exact rnew_nil w
  · exact rnew ad _ c xs rfl hm w h2 hx

theorem own_any (v : Value) (xs : List Int) (w : World) (h : Arr w v xs) (hm : xs.length ≤ 1000000) :
    Calls Try.prog 13 #[v] w fun e w' => (∃ h' c', e = .returned (.slice (some ⟨h', 0, none⟩) xs.length c') ∧ Row w' h' c' xs ∧ w.heap.size ≤ h') ∧ Below w.heap.size w w' := by
  rcases h with ⟨rfl, rfl⟩ | ⟨ad, c, rfl, hc⟩
  · go_enter Try.func13, Try.ntmps13
    go_wp2
    go_ret
    exact ⟨⟨w.heap.size, 0, rfl, ⟨#[], Has.new w 5 #[], rfl, rfl, Nat.le_refl _, by simp⟩, Nat.le_refl _⟩, (Below.refl _ w).alloc (Nat.le_refl _) _⟩
  · obtain ⟨i0, hi, hz0, hz1, hz2⟩ := info_parts info_u8
    have hc1 := hc.below ((Below.refl _ w).alloc (Nat.le_refl _) (.cells #[] 5))
    have HL : Hid ((u8s xs).length = xs.length * 1) := Lib.hid (by simp)
    have HC := Lib.hid hc1
    clear hc hc1
    go_enter Try.func13, Try.ntmps13
    go_wp2_with (at_builtin; refine wpList_append_own _ rfl _ _ 40 rfl w.heap.size 5 i0 (.int .u8 0) 1 1 Try.underlying40 hi hz0 hz1 hz2 rfl (by decide) _ 0 [] rfl (own_new w) ad xs.length c (u8s xs) rfl HL.out HC.out (u8s_one xs) (by unfold maxLen; omega) (by omega) (by simp) ?_)
    intro v' w1 hown hgrow hnil
    have hbel : Below w.heap.size w w1 := below_only ((Below.refl _ w).alloc (Nat.le_refl _) (.cells #[] 5)) hgrow (Nat.le_refl _) (by simp)
    obtain ⟨g', c', rfl, hb, hr⟩ := own_row hown hnil (by simp)
    clear hown hgrow hnil
    go_wp2
    go_ret
    exact ⟨⟨g', c', by simp, hr, hb⟩, hbel⟩

/-- The sizes of numbers. -/
def sz (k : Nat) : Nat := [1, 2, 3, 4, 6, 8].getD k 8

end Go.Proofs.Ytgdfpmnbofnjfaa
