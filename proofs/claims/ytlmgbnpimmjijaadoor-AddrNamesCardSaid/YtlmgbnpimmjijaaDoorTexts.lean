/- The theorem of the stage, as plain lists and numbers. No program. -/
import Derived.Test.YtlmgbnpimmjijaaDoorTrip
import Derived.Test.YtlmgbnpimmjijaaDoorPfxText
namespace Go.Proofs.YtlmgbnpimmjijaaDoor
open Go

theorem dec_ok {v : Int} (h0 : 0 ≤ v) (h1 : v ≤ 255) : partNum decN (Lib.itoa v) = some v ∧ (46 : UInt8) ∉ Lib.itoa v :=
  ⟨part_dec v h0 h1, no_sep decN (by decide) 46 (by decide) _ v (part_dec v h0 h1)⟩
theorem hex_ok {v : Int} (h0 : 0 ≤ v) (h1 : v ≤ 255) : partNum hexN (hexT v) = some v ∧ (58 : UInt8) ∉ hexT v :=
  ⟨part_hex v h0 h1, no_sep hexN (by decide) 58 (by decide) _ v (part_hex v h0 h1)⟩

theorem ip_there (ip : Int) (h0 : 0 ≤ ip) (h1 : ip < 4294967296) :
    nums decN [46] 4 [] (ipT (ip / 16777216) (ip / 65536 % 256) (ip / 256 % 256) (ip % 256)) true = some [ip / 16777216, ip / 65536 % 256, ip / 256 % 256, ip % 256] ∧ joined [ip / 16777216, ip / 65536 % 256, ip / 256 % 256, ip % 256] = ip := by
  refine ⟨?_, by simp [joined]; omega⟩
  rw [ipT_sepd]
  refine nums_sepd decN 46 Lib.itoa [ip / 16777216, ip / 65536 % 256, ip / 256 % 256, ip % 256] [] (by simp) (fun v hv => ?_)
  simp only [List.mem_cons, List.not_mem_nil, or_false] at hv
  refine dec_ok ?_ ?_ <;> omega

theorem four_of {xs : List Int} (h : xs.length = 4) : ∃ a b c d, xs = [a, b, c, d] := by
  match xs, h with
  | [a, b, c, d], _ => exact ⟨a, b, c, d, rfl⟩
theorem six_of {xs : List Int} (h : xs.length = 6) : ∃ a b c d e f, xs = [a, b, c, d, e, f] := by
  match xs, h with
  | [a, b, c, d, e, f], _ => exact ⟨a, b, c, d, e, f, rfl⟩
theorem ten_of {xs : List Int} (h : xs.length = 10) : ∃ a b c d e f g h i j, xs = [a, b, c, d, e, f, g, h, i, j] := by
  match xs, h with
  | [a, b, c, d, e, f, g, h, i, j], _ => exact ⟨a, b, c, d, e, f, g, h, i, j, rfl⟩

theorem ip_back (l : List UInt8) (xs : List Int) (h : nums decN [46] 4 [] l true = some xs) :
    ipT (joined xs / 16777216) (joined xs / 65536 % 256) (joined xs / 256 % 256) (joined xs % 256) = l ∧ 0 ≤ joined xs ∧ joined xs < 4294967296 := by
  have hr := (nums_ok (n := decN) (by decide) _ _ _ _ _ _ h (fun x hx => by cases hx)).2
  obtain ⟨ys, h1, h2, h3⟩ := nums_back decN 46 Lib.itoa id rfl (fun p v hp => by rw [part_dec_back decN rfl (by decide) rfl (by decide) p v hp]; simp) 3 [] l xs h
  rw [List.nil_append] at h1
  subst h1
  obtain ⟨a, b, c, d, rfl⟩ := four_of h2
  have ha := hr a (by simp)
  have hb := hr b (by simp)
  have hc := hr c (by simp)
  have hd := hr d (by simp)
  simp only [decN] at ha hb hc hd
  have hj : joined [a, b, c, d] = ((a * 256 + b) * 256 + c) * 256 + d := by simp [joined]
  rw [hj]
  refine ⟨?_, by omega, by omega⟩
  rw [show (((a * 256 + b) * 256 + c) * 256 + d) / 16777216 = a by omega, show (((a * 256 + b) * 256 + c) * 256 + d) / 65536 % 256 = b by omega, show (((a * 256 + b) * 256 + c) * 256 + d) / 256 % 256 = c by omega, show (((a * 256 + b) * 256 + c) * 256 + d) % 256 = d by omega, ipT_sepd, h3]
  simp

theorem mac_there (m : Int) (h0 : 0 ≤ m) (h1 : m ≤ 281474976710655) :
    nums hexN [58] 6 [] (coP (macL m) (List.finRange 6)) true = some (macL m) ∧ joined (macL m) = m := by
  refine ⟨?_, by simp [joined, macL]; omega⟩
  unfold macL
  rw [coP_six]
  refine nums_sepd hexN 58 hexT [m / 1099511627776, m / 4294967296 % 256, m / 16777216 % 256, m / 65536 % 256, m / 256 % 256, m % 256] [] (by simp) (fun v hv => ?_)
  simp only [List.mem_cons, List.not_mem_nil, or_false] at hv
  refine hex_ok ?_ ?_ <;> omega

theorem mac_back (l : List UInt8) (xs : List Int) (h : nums hexN [58] 6 [] l true = some xs) :
    coP (macL (joined xs)) (List.finRange 6) = l.map lowB ∧ 0 ≤ joined xs ∧ joined xs ≤ 281474976710655 := by
  have hr := (nums_ok (n := hexN) (by decide) _ _ _ _ _ _ h (fun x hx => by cases hx)).2
  obtain ⟨ys, h1, h2, h3⟩ := nums_back hexN 58 hexT lowB (by decide) part_hex_back 5 [] l xs h
  rw [List.nil_append] at h1
  subst h1
  obtain ⟨a, b, c, d, e, f, rfl⟩ := six_of h2
  have ha := hr a (by simp)
  have hb := hr b (by simp)
  have hc := hr c (by simp)
  have hd := hr d (by simp)
  have he := hr e (by simp)
  have hf := hr f (by simp)
  simp only [hexN] at ha hb hc hd he hf
  have hj : joined [a, b, c, d, e, f] = ((((a * 256 + b) * 256 + c) * 256 + d) * 256 + e) * 256 + f := by simp [joined]
  rw [hj]
  refine ⟨?_, by omega, by omega⟩
  have hm : macL (((((a * 256 + b) * 256 + c) * 256 + d) * 256 + e) * 256 + f) = [a, b, c, d, e, f] := by
    unfold macL
    simp only [List.cons.injEq, and_true]
    refine ⟨?_, ?_, ?_, ?_, ?_, ?_⟩ <;> omega
  rw [hm, coP_six, h3]

theorem esi_there (a b c d e f g h i j : Int) (hr : ∀ v ∈ [a, b, c, d, e, f, g, h, i, j], 0 ≤ v ∧ v ≤ 255) :
    nums hexN [58] 10 [] (coP [a, b, c, d, e, f, g, h, i, j] (List.finRange 10)) true = some [a, b, c, d, e, f, g, h, i, j] := by
  rw [coP_ten]
  exact nums_sepd hexN 58 hexT [a, b, c, d, e, f, g, h, i, j] [] (by simp) (fun v hv => hex_ok (hr v hv).1 (hr v hv).2)

theorem esi_back (l : List UInt8) (xs : List Int) (hn : nums hexN [58] 10 [] l true = some xs) : ∃ a b c d e f g h i j, xs = [a, b, c, d, e, f, g, h, i, j] ∧ coP xs (List.finRange 10) = l.map lowB ∧ ∀ v ∈ xs, 0 ≤ v ∧ v ≤ 255 := by
  have hr := (nums_ok (n := hexN) (by decide) _ _ _ _ _ _ hn (fun x hx => by cases hx)).2
  obtain ⟨ys, h1, h2, h3⟩ := nums_back hexN 58 hexT lowB (by decide) part_hex_back 9 [] l xs hn
  rw [List.nil_append] at h1
  subst h1
  obtain ⟨a, b, c, d, e, f, g, h, i, j, rfl⟩ := ten_of h2
  exact ⟨a, b, c, d, e, f, g, h, i, j, rfl, by rw [coP_ten, h3], hr⟩

/-- A slash parts the text of a prefix. -/
theorem pfx_cut (ip l : Int) (h0 : 0 ≤ ip) (h1 : ip < 4294967296) : Lib.cut (pfxT ip l) [47] = (ipT (ip / 16777216) (ip / 65536 % 256) (ip / 256 % 256) (ip % 256), Lib.itoa l, true) := by
  have hn : ∀ v : Int, 0 ≤ v → v ≤ 255 → (47 : UInt8) ∉ Lib.itoa v := fun v h0 h1 => no_sep decN (by decide) 47 (by decide) _ v (part_dec v h0 h1)
  have ha := hn (ip / 16777216) (by omega) (by omega)
  have hb := hn (ip / 65536 % 256) (by omega) (by omega)
  have hc := hn (ip / 256 % 256) (by omega) (by omega)
  have hd := hn (ip % 256) (by omega) (by omega)
  unfold pfxT
  rw [List.append_assoc]
  refine cut_app 47 _ _ ?_
  simp [ipT, ha, hb, hc, hd]

theorem len_there (l : Int) (h0 : 0 ≤ l) (h1 : l ≤ 32) : nums lenN [47] 1 [] (Lib.itoa l) true = some [l] :=
  nums_sepd lenN 47 Lib.itoa [l] [] (by simp) (fun v hv => by
    simp only [List.mem_cons, List.not_mem_nil, or_false] at hv
    subst hv
    exact ⟨part_len v h0 h1, no_sep lenN (by decide) 47 (by decide) _ v (part_len v h0 h1)⟩)

theorem len_back (r : List UInt8) (y : Int) (h : nums lenN [47] 1 [] r true = some [y]) : Lib.itoa y = r ∧ 0 ≤ y ∧ y ≤ 32 := by
  have hr := (nums_ok (n := lenN) (by decide) _ _ _ _ _ _ h (fun x hx => by cases hx)).2 y (by simp)
  obtain ⟨ys, h1, h2, h3⟩ := nums_back lenN 47 Lib.itoa id rfl (fun p v hp => by rw [part_dec_back lenN rfl (by decide) rfl (by decide) p v hp]; simp) 0 [] r [y] h
  rw [List.nil_append] at h1
  subst h1
  exact ⟨by simpa [sepd] using h3, hr.1, hr.2⟩

/-- The text of a prefix that was parsed is the string. -/
theorem pfx_back (l p r : List UInt8) (mo : Bool) (xs : List Int) (y : Int) (hc : Lib.cut l [47] = (p, r, mo)) (hx : nums decN [46] 4 [] p true = some xs) (hy : nums lenN [47] 1 [] r true = some [y]) : pfxT (joined xs) y = l := by
  obtain ⟨h1, h2, h3⟩ := ip_back p xs hx
  obtain ⟨h4, h5, h6⟩ := len_back r y hy
  rcases cut_back 47 l p r mo hc with ⟨_, rfl⟩ | ⟨_, _, rfl⟩
  · unfold pfxT
    rw [h1, h4]
    simp
  · rw [nums_bad (by decide)] at hy
    cases hy

end Go.Proofs.YtlmgbnpimmjijaaDoor
