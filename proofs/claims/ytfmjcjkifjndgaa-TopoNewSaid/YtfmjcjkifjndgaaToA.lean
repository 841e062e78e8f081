/- Graphs of nodes and links that can be up or down: plain facts. No program. -/
import Derived.WalkKit
namespace Go.Proofs.Ytfmjcjkifjndgaa
open Go
set_option linter.unusedVariables false
set_option linter.unusedSimpArgs false

/-- A link: its ends, its cost. -/
structure LK where
  a : Int
  b : Int
  c : Int
deriving DecidableEq
/-- A link at a node: its number, the other end, its cost. -/
structure ED where
  l : Int
  n : Int
  c : Int
deriving DecidableEq
/-- A graph's state. -/
structure GS where
  N : Nat
  L : List LK
  al : Nat → Bool
  li : Nat → Bool

def LK.fine (N : Nat) (x : LK) : Prop := 0 ≤ x.a ∧ x.a < N ∧ 0 ≤ x.b ∧ x.b < N ∧ 1 ≤ x.c ∧ x.c ≤ 1000 ∧ x.a ≠ x.b
structure GS.ok (g : GS) : Prop where
  n1 : 1 ≤ g.N
  n32 : g.N ≤ 32
  m128 : g.L.length ≤ 128
  fine : ∀ x ∈ g.L, x.fine g.N
  alN : ∀ n, g.al n = true → n < g.N
  liM : ∀ i, g.li i = true → i < g.L.length

/-- The i-th link can be used. -/
def GS.up (g : GS) (i : Nat) : Bool := match g.L[i]? with
  | some x => g.li i && g.al x.a.toNat && g.al x.b.toNat
  | none => false
def GS.alive (g : GS) (n : Int) : Bool := decide (0 ≤ n) && g.al n.toNat
def GS.upI (g : GS) (i : Int) : Bool := decide (0 ≤ i) && g.up i.toNat
def GS.flags (g : GS) : List Bool := (List.range g.L.length).map g.up

/-- What link i adds to the neighbors of n. -/
def nstep (g : GS) (n : Int) (i : Nat) : List ED := match g.L[i]? with
  | some x => if g.up i then (if x.a = n then [⟨i, x.b, x.c⟩] else if x.b = n then [⟨i, x.a, x.c⟩] else []) else []
  | none => []
def nbr (g : GS) (n : Int) (k : Nat) : List ED := (List.range k).flatMap (nstep g n)
def GS.neigh (g : GS) (n : Int) : List ED := nbr g n g.L.length
theorem nbr_succ (g : GS) (n : Int) (k : Nat) : nbr g n (k + 1) = nbr g n k ++ nstep g n k := by simp [nbr, List.range_succ]
theorem nstep_len (g : GS) (n : Int) (i : Nat) : (nstep g n i).length ≤ 1 := by
  unfold nstep
  split
  · split
    · split
      · simp
      · split <;> simp
    · simp
  · simp
theorem nbr_len (g : GS) (n : Int) (k : Nat) : (nbr g n k).length ≤ k := by
  induction k with
  | zero => simp [nbr]
  | succ k ih => rw [nbr_succ, List.length_append]; have := nstep_len g n k; omega

theorem up_some {g : GS} {i : Nat} (h : g.up i = true) : ∃ x, g.L[i]? = some x ∧ g.li i = true ∧ g.al x.a.toNat = true ∧ g.al x.b.toNat = true := by
  unfold GS.up at h
  split at h
  · rename_i x hx
    simp only [Bool.and_eq_true] at h
    exact ⟨x, hx, h.1.1, h.1.2, h.2⟩
  · cases h
theorem fine_at {g : GS} (ok : g.ok) {i : Nat} {x : LK} (h : g.L[i]? = some x) : x.fine g.N := ok.fine x (List.mem_of_getElem? h)

theorem mem_nbr {g : GS} {n : Int} {k : Nat} {e : ED} : e ∈ nbr g n k ↔ ∃ i x, i < k ∧ g.L[i]? = some x ∧ g.up i = true ∧ ((x.a = n ∧ e = ⟨i, x.b, x.c⟩) ∨ (x.a ≠ n ∧ x.b = n ∧ e = ⟨i, x.a, x.c⟩)) := by
  unfold nbr
  rw [List.mem_flatMap]
  constructor
  · rintro ⟨i, hi, he⟩
    unfold nstep at he
    split at he
    · rename_i x hx
      split at he
      · rename_i hu
        split at he
        · rename_i ha
          exact ⟨i, x, by simpa using hi, hx, hu, .inl ⟨ha, by simpa using he⟩⟩
        · rename_i ha
          split at he
          · rename_i hb
            exact ⟨i, x, by simpa using hi, hx, hu, .inr ⟨ha, hb, by simpa using he⟩⟩
          · cases he
      · cases he
    · cases he
  · rintro ⟨i, x, hi, hx, hu, h⟩
    refine ⟨i, by simpa using hi, ?_⟩
    unfold nstep
    rw [hx]
    simp only [hu, if_true]
    rcases h with ⟨ha, rfl⟩ | ⟨ha, hb, rfl⟩
    · simp [ha]
    · simp [ha, hb]

/-- A node that is down, or none, has no neighbors. -/
theorem neigh_dead {g : GS} (ok : g.ok) {n : Int} (h : g.alive n = false) (k : Nat) : nbr g n k = [] := by
  rw [List.eq_nil_iff_forall_not_mem]
  intro e he
  obtain ⟨i, x, hi, hx, hu, hc⟩ := mem_nbr.1 he
  obtain ⟨y, hy, _, h1, h2⟩ := up_some hu
  rw [hx] at hy
  cases hy
  obtain ⟨a0, _, b0, _⟩ := fine_at ok hx
  have : g.alive n = true := by
    unfold GS.alive
    rcases hc with ⟨ha, _⟩ | ⟨_, hb, _⟩
    · rw [← ha]; simp [a0, h1]
    · rw [← hb]; simp [b0, h2]
  rw [h] at this
  cases this

/-- The links between two nodes. -/
def btwOf (E : List ED) (b : Int) : List Int := (E.filter (fun e => decide (e.n = b))).map (·.l)
theorem btwOf_snoc (E : List ED) (e : ED) (b : Int) : btwOf (E ++ [e]) b = btwOf E b ++ (if e.n = b then [e.l] else []) := by
  unfold btwOf
  rw [List.filter_append, List.map_append]
  by_cases h : e.n = b <;> simp [h]
theorem btwOf_len (E : List ED) (b : Int) : (btwOf E b).length ≤ E.length := by
  unfold btwOf; rw [List.length_map]; exact List.length_filter_le _ _
def GS.btw (g : GS) (a b : Int) : List Int := btwOf (g.neigh a) b
/-- The document's way to them. -/
def bst (g : GS) (a b : Int) (i : Nat) : List Int := match g.L[i]? with
  | some x => if g.up i && (decide (x.a = a) && decide (x.b = b) || decide (x.a = b) && decide (x.b = a)) then [(i : Int)] else []
  | none => []
theorem btw_bst {g : GS} (ok : g.ok) (a b : Int) (k : Nat) : btwOf (nbr g a k) b = (List.range k).flatMap (bst g a b) := by
  induction k with
  | zero => simp [nbr, btwOf]
  | succ k ih =>
    rw [nbr_succ, List.range_succ, List.flatMap_append, ← ih]
    have : btwOf (nbr g a k ++ nstep g a k) b = btwOf (nbr g a k) b ++ btwOf (nstep g a k) b := by simp [btwOf]
    rw [this]
    congr 1
    simp only [List.flatMap_cons, List.flatMap_nil, List.append_nil]
    unfold nstep bst
    split
    · rename_i x hx
      have hf := (fine_at ok hx).2.2.2.2.2.2
      by_cases hu : g.up k = true
      · simp only [hu, if_true, Bool.true_and]
        by_cases h1 : x.a = a
        · have h4 : x.b ≠ a := by omega
          by_cases h2 : x.b = b <;> simp [btwOf, h1, h2, h4]
        · by_cases h2 : x.b = a
          · have h4 : ¬ x.a = a := h1
            by_cases h3 : x.a = b
            · have h5 : b ≠ a := by omega
              simp [btwOf, h2, h3, h5]
            · simp [btwOf, h1, h2, h3]
          · simp [btwOf, h1, h2]
      · simp [hu, btwOf]
    · simp [btwOf]

/-- Two nodes are joined by a link that can be used. -/
def adj (g : GS) (m k : Nat) : Prop := ∃ i x, g.L[i]? = some x ∧ g.up i = true ∧ ((x.a = (m : Int) ∧ x.b = (k : Int)) ∨ (x.b = (m : Int) ∧ x.a = (k : Int)))
theorem adj_symm {g : GS} {m k : Nat} (h : adj g m k) : adj g k m := by
  obtain ⟨i, x, hx, hu, h | h⟩ := h
  · exact ⟨i, x, hx, hu, .inr ⟨h.2, h.1⟩⟩
  · exact ⟨i, x, hx, hu, .inl ⟨h.2, h.1⟩⟩
/-- m can be reached from n. -/
inductive Rch (g : GS) (n : Nat) : Nat → Prop
  | here (h : g.al n = true) : Rch g n n
  | step {m k : Nat} (h : Rch g n m) (a : adj g m k) : Rch g n k
theorem adj_al {g : GS} {m k : Nat} (h : adj g m k) : g.al m = true ∧ g.al k = true := by
  obtain ⟨i, x, hx, hu, h⟩ := h
  obtain ⟨y, hy, _, h1, h2⟩ := up_some hu
  rw [hx] at hy
  cases hy
  rcases h with ⟨ha, hb⟩ | ⟨hb, ha⟩
  · rw [ha] at h1; rw [hb] at h2; exact ⟨by simpa using h1, by simpa using h2⟩
  · rw [ha] at h1; rw [hb] at h2; exact ⟨by simpa using h2, by simpa using h1⟩
theorem Rch.al {g : GS} {n m : Nat} (h : Rch g n m) : g.al n = true ∧ g.al m = true := by
  induction h with
  | here h => exact ⟨h, h⟩
  | step h a ih => exact ⟨ih.1, (adj_al a).2⟩
theorem Rch.trans {g : GS} {n m k : Nat} (h : Rch g n m) (h2 : Rch g m k) : Rch g n k := by
  induction h2 with
  | here _ => exact h
  | step _ a ih => exact ih.step a
theorem Rch.symm {g : GS} {n m : Nat} (h : Rch g n m) : Rch g m n := by
  induction h with
  | here h => exact .here h
  | step h a ih => exact (Rch.step (.here (adj_al a).2) (adj_symm a)).trans ih

open Classical in
noncomputable def GS.rb (g : GS) (n m : Nat) : Bool := decide (Rch g n m)
theorem rb_iff {g : GS} {n m : Nat} : g.rb n m = true ↔ Rch g n m := by simp [GS.rb]
/-- The component of n. -/
noncomputable def GS.comp (g : GS) (n : Nat) : List Nat := (List.range g.N).filter (g.rb n)
theorem mem_comp {g : GS} (ok : g.ok) {n m : Nat} : m ∈ g.comp n ↔ Rch g n m := by
  unfold GS.comp
  rw [List.mem_filter, List.mem_range, rb_iff]
  exact ⟨fun h => h.2, fun h => ⟨ok.alN m h.al.2, h⟩⟩
theorem comp_dead {g : GS} (ok : g.ok) {n : Nat} (h : g.al n = false) : g.comp n = [] := by
  rw [List.eq_nil_iff_forall_not_mem]
  intro m hm
  have := ((mem_comp ok).1 hm).al.1
  rw [h] at this
  cases this
/-- What holds n, is closed under links, and holds nothing that is not reached, is the component. -/
theorem comp_of {g : GS} {n : Nat} (S : Nat → Bool) (hal : g.al n = true) (h0 : S n = true) (hc : ∀ m k, adj g m k → S m = true → S k = true) (hr : ∀ m, m < g.N → S m = true → Rch g n m) : g.comp n = (List.range g.N).filter S := by
  unfold GS.comp
  refine List.filter_congr fun m hm => ?_
  rw [Bool.eq_iff_iff, rb_iff]
  refine ⟨fun h => ?_, hr m (by simpa using hm)⟩
  clear hm
  induction h with
  | here _ => exact h0
  | step _ a ih => exact hc _ _ a ih
theorem comp_len (g : GS) (n : Nat) : (g.comp n).length ≤ g.N := by
  unfold GS.comp
  refine Nat.le_trans (List.length_filter_le _ _) (by simp)

noncomputable def GS.isRep (g : GS) (n : Nat) : Bool := g.al n && (List.range n).all (fun m => !g.rb n m)
theorem rep_iff {g : GS} {n : Nat} : g.isRep n = true ↔ g.al n = true ∧ ∀ m, m < n → ¬ Rch g n m := by
  unfold GS.isRep
  rw [Bool.and_eq_true, List.all_eq_true]
  refine and_congr_right fun _ => ⟨fun h m hm => ?_, fun h m hm => ?_⟩
  · have := h m (by simpa using hm)
    rw [Bool.not_eq_true', ← Bool.not_eq_true, rb_iff] at this
    exact this
  · rw [Bool.not_eq_true', ← Bool.not_eq_true, rb_iff]
    exact h m (by simpa using hm)
/-- All components up to node k, by their smallest nodes. -/
noncomputable def cmpsTo (g : GS) (k : Nat) : List (List Nat) := ((List.range k).filter g.isRep).map g.comp
noncomputable def GS.comps (g : GS) : List (List Nat) := cmpsTo g g.N
theorem cmps_succ (g : GS) (k : Nat) : cmpsTo g (k + 1) = cmpsTo g k ++ (if g.isRep k = true then [g.comp k] else []) := by
  unfold cmpsTo
  rw [List.range_succ, List.filter_append, List.map_append]
  by_cases h : g.isRep k = true <;> simp [h]

/-- How many of the first n are not in a set. -/
def cnt (F : Nat → Bool) (n : Nat) : Nat := ((List.range n).filter (fun m => !F m)).length
theorem cnt_le (F : Nat → Bool) (n : Nat) : cnt F n ≤ n := by
  unfold cnt; exact Nat.le_trans (List.length_filter_le _ _) (by simp)
def put (F : Nat → Bool) (k : Nat) (b : Bool) : Nat → Bool := fun m => if m = k then b else F m
theorem put_same (F : Nat → Bool) (k : Nat) (b : Bool) : put F k b k = b := by simp [put]
theorem put_other {F : Nat → Bool} {k m : Nat} (h : m ≠ k) (b : Bool) : put F k b m = F m := by simp [put, h]
theorem cnt_succ (F : Nat → Bool) (n : Nat) : cnt F (n + 1) = cnt F n + (if F n then 0 else 1) := by
  unfold cnt
  rw [List.range_succ, List.filter_append, List.length_append]
  cases h : F n <;> simp [h]
theorem cnt_put {F : Nat → Bool} {n k : Nat} (hk : k < n) (hF : F k = false) : cnt (put F k true) n + 1 = cnt F n := by
  induction n with
  | zero => omega
  | succ n ih =>
    rw [cnt_succ, cnt_succ]
    by_cases h : k = n
    · subst h
      rw [put_same, hF]
      have : cnt (put F k true) k = cnt F k := by
        unfold cnt
        congr 1
        refine List.filter_congr fun m hm => ?_
        rw [put_other (by have := List.mem_range.1 hm; omega)]
      rw [this]; simp
    · rw [put_other (Ne.symm h)]
      have := ih (by omega)
      omega
theorem cnt_put_le (F : Nat → Bool) (n k : Nat) : cnt (put F k true) n ≤ cnt F n := by
  induction n with
  | zero => simp [cnt]
  | succ n ih =>
    rw [cnt_succ, cnt_succ]
    by_cases h : n = k
    · subst h; rw [put_same]; simp; omega
    · rw [put_other h]; omega

end Go.Proofs.Ytfmjcjkifjndgaa
