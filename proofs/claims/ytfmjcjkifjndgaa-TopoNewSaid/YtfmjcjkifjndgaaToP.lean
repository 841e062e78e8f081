/- Graphs: components reckoned; the chapter's graph. No program. -/
import Derived.Test.YtfmjcjkifjndgaaToN
namespace Go.Proofs.Ytfmjcjkifjndgaa
open Go
set_option linter.unusedVariables false
set_option linter.unusedSimpArgs false

/-- What k steps reach. -/
def rset (s : GS) (n : Nat) : Nat → Nat → Bool
  | 0 => fun m => decide (m = n) && s.al n
  | k + 1 => fun m => rset s n k m || (List.range s.L.length).any (fun i => match s.L[i]? with
    | some x => s.up i && ((decide (x.a = (m : Int)) && rset s n k x.b.toNat) || (decide (x.b = (m : Int)) && rset s n k x.a.toNat))
    | none => false)
def closedB (s : GS) (S : Nat → Bool) : Bool := (List.range s.L.length).all (fun i => match s.L[i]? with
  | some x => !s.up i || (S x.a.toNat == S x.b.toNat)
  | none => true)
theorem rset_sound {s : GS} (ok : s.ok) {n : Nat} : ∀ (k m : Nat), rset s n k m = true → Rch s n m
  | 0, m, h => by
    simp [rset] at h
    obtain ⟨rfl, h⟩ := h
    exact .here h
  | k + 1, m, h => by
    rw [rset, Bool.or_eq_true, List.any_eq_true] at h
    rcases h with h | ⟨i, hi, h⟩
    · exact rset_sound ok k m h
    · split at h
      · rename_i x hx
        rw [Bool.and_eq_true] at h
        obtain ⟨hu, h⟩ := h
        obtain ⟨a0, _, b0, _⟩ := fine_at ok hx
        rw [Bool.or_eq_true, Bool.and_eq_true, Bool.and_eq_true, decide_eq_true_iff, decide_eq_true_iff] at h
        rcases h with ⟨e, h⟩ | ⟨e, h⟩
        · exact (rset_sound ok k _ h).step ⟨i, x, hx, hu, .inr ⟨by omega, e⟩⟩
        · exact (rset_sound ok k _ h).step ⟨i, x, hx, hu, .inl ⟨by omega, e⟩⟩
      · cases h
theorem rset_self {s : GS} {n : Nat} (h : s.al n = true) : ∀ k, rset s n k n = true
  | 0 => by simp [rset, h]
  | k + 1 => by
    have := rset_self h k
    show (rset s n k n || _) = true
    rw [this]; rfl
theorem rb_calc {s : GS} (ok : s.ok) {n k : Nat} (h : closedB s (rset s n k) = true) (m : Nat) : s.rb n m = rset s n k m := by
  rw [Bool.eq_iff_iff, rb_iff]
  refine ⟨fun hr => ?_, rset_sound ok k m⟩
  induction hr with
  | here h1 => exact rset_self h1 k
  | step _ a ih =>
    obtain ⟨i, x, hx, hu, hc⟩ := a
    unfold closedB at h
    rw [List.all_eq_true] at h
    have hi : i < s.L.length := (List.getElem?_eq_some_iff.1 hx).1
    have := h i (by simpa using hi)
    rw [hx] at this
    simp only [hu, Bool.not_true, Bool.false_or, beq_iff_eq] at this
    rcases hc with ⟨e1, e2⟩ | ⟨e1, e2⟩
    · rw [e1, e2] at this
      simp only [Int.toNat_natCast] at this
      rw [← this]; exact ih
    · rw [e1, e2] at this
      simp only [Int.toNat_natCast] at this
      rw [this]; exact ih
def compC (s : GS) (k n : Nat) : List Nat := (List.range s.N).filter (rset s n k)
theorem comp_calc {s : GS} (ok : s.ok) {n k : Nat} (h : closedB s (rset s n k) = true) : s.comp n = compC s k n := by
  unfold GS.comp compC
  exact List.filter_congr fun m _ => rb_calc ok h m
def compsC (s : GS) (k : Nat) : List (List Nat) := ((List.range s.N).filter (fun n => s.al n && (List.range n).all (fun m => !rset s n k m))).map (compC s k)
theorem comps_calc {s : GS} (ok : s.ok) {k : Nat} (h : (List.range s.N).all (fun n => closedB s (rset s n k)) = true) : s.comps = compsC s k := by
  rw [List.all_eq_true] at h
  unfold GS.comps cmpsTo compsC
  have e : (List.range s.N).filter s.isRep = (List.range s.N).filter (fun n => s.al n && (List.range n).all (fun m => !rset s n k m)) := by
    refine List.filter_congr fun n hn => ?_
    unfold GS.isRep
    congr 1
    rw [Bool.eq_iff_iff, List.all_eq_true, List.all_eq_true]
    refine forall_congr' fun m => forall_congr' fun hm => ?_
    rw [rb_calc ok (h n hn)]
  rw [e]
  refine List.map_congr_left fun n hn => ?_
  have hn' := (List.mem_filter.1 hn).1
  exact comp_calc ok (h n hn')
theorem compI_nat (s : GS) (n : Nat) : s.compI (n : Int) = s.comp n := by unfold GS.compI; simp

def L4 : List LK := [⟨0, 2, 1⟩, ⟨1, 2, 5⟩, ⟨0, 3, 1⟩, ⟨1, 2, 7⟩]
def G4 : GS := gs0 4 L4
theorem L4_ok : valE 4 L4 = 0 := by decide +kernel
theorem G4_ok : G4.ok := gs0_ok L4_ok
theorem G4_n2 : G4.neigh 2 = [⟨0, 0, 1⟩, ⟨1, 1, 5⟩, ⟨3, 1, 7⟩] := by decide +kernel
theorem G4_c0 : G4.comp 0 = [0, 1, 2, 3] := by rw [comp_calc G4_ok (k := 3) (by decide +kernel)]; decide +kernel
theorem G4_c3 : G4.comp 3 = [0, 1, 2, 3] := by rw [comp_calc G4_ok (k := 3) (by decide +kernel)]; decide +kernel
theorem G4_b21 : G4.btw 2 1 = [1, 3] := by decide +kernel
theorem G4_b22 : G4.btw 2 2 = [] := by decide +kernel
def G4a : GS := G4.setLi 0 false
theorem G4a_ok : G4a.ok := setLi_ok G4_ok (by decide) false
theorem G4a_set : setLink G4 0 false = (0, G4a) := rfl
theorem G4a_c0 : G4a.comp 0 = [0, 3] := by rw [comp_calc G4a_ok (k := 3) (by decide +kernel)]; decide +kernel
theorem G4a_all : G4a.comps = [[0, 3], [1, 2]] := by rw [comps_calc G4a_ok (k := 3) (by decide +kernel)]; decide +kernel
theorem G4a_flags : G4a.flags = [false, true, true, true] := by decide +kernel
def G4b : GS := G4a.setAl 2 false
theorem G4b_ok : G4b.ok := setAl_ok G4a_ok (by decide) false
theorem G4b_set : setNode G4a 2 false = (0, G4b) := rfl
theorem G4b_n1 : G4b.neigh 1 = [] := by decide +kernel
theorem G4b_all : G4b.comps = [[0, 3], [1]] := by rw [comps_calc G4b_ok (k := 3) (by decide +kernel)]; decide +kernel
theorem G4b_up1 : G4b.upI 1 = false := by decide +kernel
theorem G4b_al2 : G4b.alive 2 = false := by decide +kernel
theorem put_put (F : Nat → Bool) (k : Nat) (b c : Bool) : put (put F k b) k c = put F k c := by
  funext m; unfold put; split <;> rfl
theorem put_id {F : Nat → Bool} {k : Nat} {b : Bool} (h : F k = b) : put F k b = F := by
  funext m; unfold put; split
  · rename_i e; subst e; exact h.symm
  · rfl
theorem G4c_set : setNode G4b 2 true = (0, G4a) := by
  show ((0 : Int), (G4a.setAl 2 false).setAl 2 true) = _
  unfold GS.setAl
  simp only [put_put]
  rw [put_id (by decide +kernel)]
theorem G4d_set : setLink G4a 0 true = (0, G4) := by
  show ((0 : Int), (G4.setLi 0 false).setLi 0 true) = _
  unfold GS.setLi
  simp only [put_put]
  rw [put_id (by decide +kernel)]
theorem G4e_set : setLink G4 4 true = (2, G4) := rfl
end Go.Proofs.Ytfmjcjkifjndgaa
