/- NlriOnly: where bytes are cut; pure. -/
import Derived.Test.YthhajknmokomjaaZNrK
namespace Go.Proofs.Ythhajknmokomjaa
open Go.RowKit Go.Maps
set_option linter.unusedVariables false
set_option linter.unusedSimpArgs false
set_option maxRecDepth 100000

/-- The end of a law: true, and nothing old has turned. -/
def Fin4 (w : World) (e : Ending) (w' : World) : Prop := e = .returned (.bool true) ∧ Below w.heap.size w w'

theorem dec_ty {p : List Int} (hb : ∀ v ∈ p, 0 ≤ v ∧ v ≤ 255) (h : (dec p).2 = 0) : (dec p).1.ty := by
  have hfine : (ps0 p).fine := ⟨hb, Nat.le_refl _, by simp⟩
  unfold dec at h ⊢
  by_cases h1 : ((pr p).t (pn p)).ef ≠ 0
  · rw [if_pos h1] at h; exact absurd h h1
  · rw [if_neg h1] at h ⊢
    by_cases h2 : pk p < 1 ∨ 5 < pk p
    · rw [if_pos h2] at h; cases h
    · rw [if_neg h2] at h ⊢
      by_cases h3 : chk (gss (pk p).toNat ((pr p).sub (pn p))) ≠ 0 ∨ enc (gss (pk p).toNat ((pr p).sub (pn p))) ≠ p
      · rw [if_pos h3] at h; cases h
      · rw [if_neg h3]
        refine gss_ty ?_ _ (by omega) (by omega)
        have h3 := (hfine.t 1).t 1
        unfold RS.sub
        rcases three (pr p) (pn p) with h0 | ⟨h0, h1⟩ | ⟨h0, m, hm, h1⟩
        · rw [take_a _ h0]; exact ⟨by simp, Nat.le_refl _, by simp⟩
        · rw [take_b _ h0 h1]; exact ⟨by simp, Nat.le_refl _, by simp⟩
        · rw [hm, take_c m h0 h1]
          exact ⟨fun v hv => h3.byte v (List.mem_of_mem_drop (List.mem_of_mem_take hv)), Nat.le_refl _, by simp⟩
theorem runp_ty {bs : List Int} (hb : ∀ v ∈ bs, 0 ≤ v ∧ v ≤ 255) : ∀ (is : List Nat) (acc : List NL), (∀ x ∈ acc, x.ty) → ∀ x ∈ (runp bs acc is).1, x.ty
  | [], acc, h => h
  | i :: is, acc, h => by
    rw [runp]
    by_cases hz : (dec (piece bs i)).2 ≠ 0
    · rw [if_pos hz]; simp
    · rw [if_neg hz]
      refine runp_ty hb is _ (fun x hx => ?_)
      rcases List.mem_append.1 hx with hx | hx
      · exact h x hx
      · rw [List.mem_singleton.1 hx]
        exact dec_ty (fun v hv => hb v (List.mem_of_mem_drop (List.mem_of_mem_take hv))) (Classical.not_not.1 hz)
theorem readP_ty {bs : List Int} (hb : ∀ v ∈ bs, 0 ≤ v ∧ v ≤ 255) : ∀ x ∈ (readP bs).1, x.ty := runp_ty hb _ _ (by simp)

theorem encs_len_le (l : List NL) : l.length ≤ (encs l).length := by
  induction l with
  | nil => simp
  | cons x l ih =>
    have := enc_len x
    rw [encs_cons]
    simp
    omega
theorem encs_take (l : List NL) (k : Nat) (h : k < l.length) : encs (l.take (k + 1)) = encs (l.take k) ++ enc l[k] := by
  rw [List.take_succ_eq_append_getElem h, encs_snoc]
theorem encs_split (l : List NL) (k : Nat) : encs l = encs (l.take k) ++ encs (l.drop k) := by
  rw [← encs_append, List.take_append_drop]
/-- A place lies inside of a route, or between two. -/
theorem cut_where : ∀ (l : List NL) (c : Nat), c ≤ (encs l).length →
    (∃ j, ∃ h : j < l.length, (encs (l.take j)).length < c ∧ c < (encs (l.take j)).length + (enc l[j]).length) ∨ ∃ m, m ≤ l.length ∧ c = (encs (l.take m)).length
  | [], c, h => .inr ⟨0, Nat.zero_le _, by simpa [encs] using h⟩
  | x :: l, c, h => by
    rw [encs_cons, List.length_append] at h
    by_cases h0 : c = 0
    · exact .inr ⟨0, Nat.zero_le _, by simpa [encs] using h0⟩
    · by_cases h1 : c < (enc x).length
      · exact .inl ⟨0, by simp, by simp [encs]; omega, by simpa [encs] using h1⟩
      · rcases cut_where l (c - (enc x).length) (by omega) with ⟨j, hj, a, b⟩ | ⟨m, hm, e⟩
        · refine .inl ⟨j + 1, by simpa using hj, ?_, ?_⟩
          · rw [List.take_succ_cons, encs_cons, List.length_append]; omega
          · rw [List.take_succ_cons, encs_cons, List.length_append]
            simp only [List.getElem_cons_succ]
            omega
        · exact .inr ⟨m + 1, by simpa using hm, by rw [List.take_succ_cons, encs_cons, List.length_append]; omega⟩
/-- What the law keeps of the cut while it goes through the routes. -/
def CutAt (l : List NL) (c k s : Nat) (ins : Bool) : Prop :=
  (ins = true ∧ ∃ j, ∃ h : j < l.length, s = (encs (l.take j)).length ∧ s < c ∧ c < s + (enc l[j]).length) ∨
  (ins = false ∧ s = 0 ∧ ∀ j, ∀ h : j < l.length, j < k → ¬((encs (l.take j)).length < c ∧ c < (encs (l.take j)).length + (enc l[j]).length))
theorem CutAt.start (l : List NL) (c : Nat) : CutAt l c 0 0 false := .inr ⟨rfl, rfl, fun j _ h => by omega⟩
theorem CutAt.hit {l : List NL} {c k s : Nat} {ins : Bool} (h : CutAt l c k s ins) (hk : k < l.length) (h1 : (encs (l.take k)).length < c) (h2 : c < (encs (l.take k)).length + (enc l[k]).length) : CutAt l c (k + 1) (encs (l.take k)).length true :=
  .inl ⟨rfl, k, hk, rfl, h1, h2⟩
theorem CutAt.miss {l : List NL} {c k s : Nat} {ins : Bool} (h : CutAt l c k s ins) (hk : k < l.length) (h1 : ¬((encs (l.take k)).length < c ∧ c < (encs (l.take k)).length + (enc l[k]).length)) : CutAt l c (k + 1) s ins := by
  rcases h with h | ⟨h2, h3, h4⟩
  · exact .inl h
  · refine .inr ⟨h2, h3, fun j hj hjk => ?_⟩
    by_cases e : j = k
    · subst e; exact h1
    · exact h4 j hj (by omega)
/-- The cut bytes read. -/
theorem CutAt.done {l : List NL} {c s : Nat} {ins : Bool} (h : CutAt l c l.length s ins) (hl : ∀ x ∈ l, x.ty ∧ chk x = 0) (hc : c ≤ (encs l).length) :
    (ins = true ∧ readP ((encs l).take c) = ([], 4, (s : Int))) ∨ (ins = false ∧ ∃ m, m ≤ l.length ∧ readP ((encs l).take c) = (l.take m, 0, 0)) := by
  rcases h with ⟨h1, j, hj, rfl, h3, h4⟩ | ⟨h1, h2, h3⟩
  · refine .inl ⟨h1, ?_⟩
    have e : (encs l).take c = encs (l.take j) ++ (enc l[j]).take (c - (encs (l.take j)).length) := by
      conv => lhs; rw [encs_split l j]
      rw [List.take_append, List.take_of_length_le (by omega), List.drop_eq_getElem_cons hj, encs_cons, List.take_append_of_le_length (by omega)]
    rw [e]
    exact readP_inside (fun y hy => hl y (List.mem_of_mem_take hy)) (hl _ (List.getElem_mem _)).1 (hl _ (List.getElem_mem _)).2 (by omega) (by omega)
  · refine .inr ⟨h1, ?_⟩
    rcases cut_where l c hc with ⟨j, hj, a, b⟩ | ⟨m, hm, e⟩
    · exact absurd ⟨a, b⟩ (h3 j hj hj)
    · refine ⟨m, hm, ?_⟩
      have e2 : (encs l).take c = encs (l.take m) := by
        conv => lhs; rw [encs_split l m]
        rw [e]; simp
      rw [e2]
      exact readP_encs (fun x hx => hl x (List.mem_of_mem_take hx))

theorem Arr.take {w : World} {A : Option Addr} {n c : Nat} {bs : List Int} (h : Arr w (.slice A n c) bs) (m : Nat) (hm : m ≤ bs.length) : Arr w (.slice A m c) (bs.take m) := by
  rcases h with ⟨h1, rfl⟩ | ⟨ad, c', h1, h2⟩
  · injection h1 with e1 e2 e3
    subst e1 e2 e3
    obtain rfl : m = 0 := by simpa using hm
    exact .inl ⟨rfl, rfl⟩
  · injection h1 with e1 e2 e3
    subst e1 e2 e3
    refine .inr ⟨ad, c, by rw [List.length_take]; congr 1; omega, fun j u hu => h2 j u ?_⟩
    rw [u8s, List.map_take] at hu
    rw [List.getElem?_take] at hu
    split at hu
    · exact hu
    · cases hu
theorem Nls.take {w : World} {A : Option Addr} {n c : Nat} {L : List NL} (h : Nls w (.slice A n c) L) (m : Nat) (hm : m ≤ L.length) : Nls w (.slice A m c) (L.take m) := by
  rcases h with ⟨h1, rfl⟩ | ⟨b, o, c', h1, h2⟩
  · injection h1 with e1 e2 e3
    subst e1 e2 e3
    obtain rfl : m = 0 := by simpa using hm
    exact .inl ⟨rfl, rfl⟩
  · injection h1 with e1 e2 e3
    subst e1 e2 e3
    refine .inr ⟨b, o, c, by rw [List.length_take]; congr 1; omega, fun j u hu => h2 j u ?_⟩
    have e : flatN L = flatN (L.take m) ++ flatN (L.drop m) := by rw [← flatN_app, List.take_append_drop]
    rw [e, List.getElem?_append_left (List.getElem?_eq_some_iff.1 hu).1]
    exact hu

end Go.Proofs.Ythhajknmokomjaa
