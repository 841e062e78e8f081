/- WireBack: what is written and what is read, as plain lists. -/
import Derived.Test.YtofbgpgngplgpaaBkA
namespace Go.Proofs.Ytofbgpgngplgpaa
set_option linter.unusedVariables false

/-- The bytes of numbers, each with the index of its size. -/
def flat (F : List (Nat × Int)) : List Int := F.flatMap fun p => be p.2 (sz p.1)

theorem sz_le (k : Nat) : sz k ≤ 8 := by
  unfold sz
  match k with
  | 0 => decide
  | 1 => decide
  | 2 => decide
  | 3 => decide
  | 4 => decide
  | 5 => decide
  | k + 6 => simp [List.getD]
theorem flat_snoc (F : List (Nat × Int)) (p : Nat × Int) : flat (F ++ [p]) = flat F ++ be p.2 (sz p.1) := by simp [flat]
theorem flat_le (F : List (Nat × Int)) : (flat F).length ≤ 8 * F.length := by
  induction F with
  | nil => simp [flat]
  | cons p F ih =>
    have h1 : (flat (p :: F)).length = sz p.1 + (flat F).length := by simp [flat, be_length]
    have h2 := sz_le p.1
    simp only [List.length_cons]
    omega
theorem flat_byte (F : List (Nat × Int)) : ∀ x ∈ flat F, 0 ≤ x ∧ x ≤ 255 := by
  intro x hx
  obtain ⟨p, _, hp⟩ := List.mem_flatMap.1 hx
  exact be_byte _ _ x hp

/-- The writer while numbers are written behind the mark. -/
def stw (F : List (Nat × Int)) : WS := ⟨65536, [0, 0] ++ flat F, [0]⟩

theorem stw_put (F : List (Nat × Int)) (k : Nat) (v : Int) (h : v < 256 ^ sz k) (hF : F.length ≤ 60) : (stw F).put v (sz k) = (0, stw (F ++ [(k, v)])) := by
  have h1 := flat_le F
  have h2 := sz_le k
  unfold WS.put
  rw [if_neg (by omega), if_neg (by simp [stw]; omega)]
  simp [stw, flat_snoc]
theorem stw_no (F : List (Nat × Int)) (k : Nat) (v : Int) (h : 256 ^ sz k ≤ v) : (stw F).put v (sz k) = (2, stw F) := by
  unfold WS.put
  rw [if_pos h]
theorem stw_mark : WS.mark ⟨65536, [], []⟩ = (0, 0, stw []) := by simp [WS.mark, stw, flat]
theorem stw_patch (F : List (Nat × Int)) : (stw F).patch 0 = (0, ⟨65536, be ((flat F).length : Int) 2 ++ flat F, []⟩) := by
  unfold WS.patch
  rw [if_pos (by simp [stw])]
  simp [stw]
  congr 2
  omega

/-- The reader when i of the numbers have been read. -/
def str (F : List (Nat × Int)) (i : Nat) : RS := ⟨be ((flat F).length : Int) 2 ++ flat F, 0, 2 + (flat (F.take i)).length, 0, 0⟩

theorem str_first (F : List (Nat × Int)) (hF : F.length ≤ 60) : (⟨be ((flat F).length : Int) 2 ++ flat F, 0, 0, 0, 0⟩ : RS).take 2 = (some (be ((flat F).length : Int) 2), str F 0) := by
  have h := take_c (s := ⟨be ((flat F).length : Int) 2 ++ flat F, 0, 0, 0, 0⟩) 2 rfl (by simp [be_length])
  rw [show ((2 : Nat) : Int) = 2 from rfl] at h
  rw [h]
  simp only [Nat.sub_self, List.drop_zero, str, List.take_zero]
  rw [List.take_left' (by simp [be_length])]
  simp [flat]
theorem str_got (F : List (Nat × Int)) (hF : F.length ≤ 60) : (⟨be ((flat F).length : Int) 2 ++ flat F, 0, 0, 0, 0⟩ : RS).got 2 = (flat F).length := by
  have h1 := flat_le F
  unfold RS.got
  rw [show ((2 : Nat) : Int) = 2 from rfl, str_first F hF]
  simp only [Option.map_some, Option.getD_some]
  exact num_be_fit _ 2 (by omega) (by omega)

theorem flat_split (F : List (Nat × Int)) (i : Nat) (hi : i < F.length) : flat F = flat (F.take i) ++ (be F[i].2 (sz F[i].1) ++ flat (F.drop (i + 1))) := by
  have e : F = F.take i ++ (F[i] :: F.drop (i + 1)) := by
    rw [List.getElem_cons_drop, List.take_append_drop]
  have e2 : ∀ G H : List (Nat × Int), flat (G ++ H) = flat G ++ flat H := fun G H => by simp [flat]
  have e3 : ∀ (p : Nat × Int) (G : List (Nat × Int)), flat (p :: G) = be p.2 (sz p.1) ++ flat G := fun p G => by simp [flat]
  conv => lhs; rw [e]
  rw [e2, e3]

theorem str_take (F : List (Nat × Int)) (i : Nat) (hi : i < F.length) : (str F i).take ((sz F[i].1 : Nat) : Int) = (some (be F[i].2 (sz F[i].1)), str F (i + 1)) := by
  have hs := flat_split F i hi
  have hd : ∀ a : List Int, (a ++ flat F).drop (a.length + (flat (F.take i)).length) = be F[i].2 (sz F[i].1) ++ flat (F.drop (i + 1)) := fun a => by
    rw [← List.drop_drop, List.drop_left]
    conv => lhs; rw [hs]
    rw [List.drop_left]
  have hl : (flat F).length = (flat (F.take i)).length + (sz F[i].1 + (flat (F.drop (i + 1))).length) := by
    conv => lhs; rw [hs]
    simp [be_length]
  have h := take_c (s := str F i) (sz F[i].1) rfl (by simp [str, be_length]; omega)
  rw [h]
  have h3 : (flat (F.take (i + 1))).length = (flat (F.take i)).length + sz F[i].1 := by
    rw [List.take_succ_eq_append_getElem hi, flat_snoc]
    simp [be_length]
  refine Prod.ext ?_ ?_
  · simp only [str, Nat.sub_zero]
    have h2 := hd (be ((flat F).length : Int) 2)
    rw [be_length] at h2
    rw [h2, List.take_left' (by simp [be_length])]
  · simp only [str, h3]
    congr 1
    omega

theorem str_num (F : List (Nat × Int)) (i : Nat) (hi : i < F.length) (h0 : 0 ≤ F[i].2) (h1 : F[i].2 < 256 ^ sz F[i].1) : (str F i).got (sz F[i].1) = F[i].2 := by
  unfold RS.got
  rw [str_take F i hi]
  simp only [Option.map_some, Option.getD_some]
  exact num_be_fit _ _ h0 h1

end Go.Proofs.Ytofbgpgngplgpaa
