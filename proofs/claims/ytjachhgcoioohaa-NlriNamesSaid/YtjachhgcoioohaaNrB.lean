/- Routes read: pieces, and all of some bytes; pure. -/
import Derived.Test.YtjachhgcoioohaaNrA
namespace Go.Proofs.Ytjachhgcoioohaa
open Go.RowKit Go.Maps
set_option linter.unusedVariables false
set_option linter.unusedSimpArgs false
set_option maxRecDepth 100000

/-- The size of the first piece of some bytes. -/
def cut (b : List Int) : Nat := if b.length < 2 then b.length else min b.length (2 + (b.getD 1 0).toNat)
theorem cut_le (b : List Int) : cut b ≤ b.length := by unfold cut; split <;> omega
theorem cut_pos {b : List Int} (h : 0 < b.length) : 0 < cut b := by unfold cut; split <;> omega

/-- Where the pieces begin, from a position on. -/
def pos (bs : List Int) : Nat → Nat → List Nat
  | 0, _ => []
  | n + 1, i => if bs.length ≤ i then [] else i :: pos bs n (i + cut (bs.drop i))
def piece (bs : List Int) (i : Nat) : List Int := (bs.drop i).take (cut (bs.drop i))
/-- The routes of pieces, behind some. -/
def runp (bs : List Int) : List NL → List Nat → List NL × Int × Int
  | acc, [] => (acc, 0, 0)
  | acc, i :: r => if (dec (piece bs i)).2 ≠ 0 then ([], (dec (piece bs i)).2, i) else runp bs (acc ++ [(dec (piece bs i)).1]) r
/-- What Read answers. -/
def readP (bs : List Int) : List NL × Int × Int := runp bs [] (pos bs bs.length 0)

theorem pos_done {bs : List Int} {n i : Nat} (h : bs.length ≤ i) : pos bs n i = [] := by
  cases n with
  | zero => rfl
  | succ n => rw [pos, if_pos h]
/-- More fuel than bytes changes nothing. -/
theorem pos_fuel {bs : List Int} : ∀ (n m i : Nat), bs.length - i ≤ n → bs.length - i ≤ m → pos bs n i = pos bs m i
  | 0, m, i, h, _ => by rw [pos_done (by omega), pos_done (by omega)]
  | n + 1, 0, i, _, h => by rw [pos_done (by omega), pos_done (by omega)]
  | n + 1, m + 1, i, h1, h2 => by
    rw [pos, pos]
    by_cases h : bs.length ≤ i
    · rw [if_pos h, if_pos h]
    · rw [if_neg h, if_neg h]
      have := cut_pos (b := bs.drop i) (by simp; omega)
      rw [pos_fuel n m _ (by omega) (by omega)]
theorem pos_step {bs : List Int} {n i : Nat} (h : i < bs.length) (hn : bs.length - i ≤ n) : pos bs n i = i :: pos bs n (i + cut (bs.drop i)) := by
  have hc := cut_pos (b := bs.drop i) (by simp; omega)
  obtain ⟨m, rfl⟩ : ∃ m, n = m + 1 := ⟨n - 1, by omega⟩
  rw [pos, if_neg (by omega), pos_fuel (m + 1) m _ (by omega) (by omega)]

theorem pos_lt {bs : List Int} : ∀ (n i : Nat), ∀ j ∈ pos bs n i, i ≤ j ∧ j < bs.length
  | 0, i, j, h => by cases h
  | n + 1, i, j, h => by
    rw [pos] at h
    by_cases h0 : bs.length ≤ i
    · rw [if_pos h0] at h; cases h
    · rw [if_neg h0] at h
      rcases List.mem_cons.1 h with rfl | h
      · omega
      · have := pos_lt n _ j h
        omega

theorem runp_snoc {bs : List Int} : ∀ (is : List Nat) (acc : List NL) (r : List Nat), (∀ i ∈ is, (dec (piece bs i)).2 = 0) → runp bs acc (is ++ r) = runp bs (acc ++ is.map fun i => (dec (piece bs i)).1) r
  | [], acc, r, _ => by simp
  | i :: is, acc, r, h => by
    rw [List.cons_append, runp, if_neg (by rw [h i (by simp)]; simp), runp_snoc is _ r (fun j hj => h j (by simp [hj]))]
    simp
/-- All pieces are right. -/
theorem readP_all {bs : List Int} {is : List Nat} (he : pos bs bs.length 0 = is) (h : ∀ i ∈ is, (dec (piece bs i)).2 = 0) : readP bs = (is.map fun i => (dec (piece bs i)).1, 0, 0) := by
  have := runp_snoc is [] [] h
  rw [List.append_nil] at this
  rw [readP, he, this]
  simp [runp]
/-- A piece is wrong. -/
theorem readP_bad {bs : List Int} {is r : List Nat} {i : Nat} (he : pos bs bs.length 0 = is ++ i :: r) (h : ∀ j ∈ is, (dec (piece bs j)).2 = 0) (hi : (dec (piece bs i)).2 ≠ 0) : readP bs = ([], (dec (piece bs i)).2, (i : Int)) := by
  rw [readP, he, runp_snoc is [] (i :: r) h, runp, if_pos hi]

/-- The bytes of routes. -/
def encs (l : List NL) : List Int := (l.map enc).flatten
theorem encs_cons (x : NL) (l : List NL) : encs (x :: l) = enc x ++ encs l := by simp [encs]
theorem encs_snoc (l : List NL) (x : NL) : encs (l ++ [x]) = encs l ++ enc x := by simp [encs]
theorem encs_append (l m : List NL) : encs (l ++ m) = encs l ++ encs m := by simp [encs]

theorem cut_enc (x : NL) (R : List Int) : cut (enc x ++ R) = (enc x).length := by
  have h := enc_len x
  unfold cut
  rw [if_neg (by simp; omega)]
  have e : (enc x ++ R).getD 1 0 = ((x.val x.k.toNat).length : Int) := by simp [enc]
  rw [e]
  simp
  omega

theorem pos_encs {bs : List Int} : ∀ (l : List NL) (done : List Int), bs = done ++ encs l →
    ∃ is, pos bs bs.length done.length = is ∧ is.map (piece bs) = l.map enc
  | [], done, h => ⟨[], pos_done (by rw [h]; simp [encs]), rfl⟩
  | x :: l, done, h => by
    have hl := enc_len x
    rw [encs_cons] at h
    have hd : bs.drop done.length = enc x ++ encs l := by rw [h]; simp
    have hc : cut (bs.drop done.length) = (enc x).length := by rw [hd, cut_enc]
    obtain ⟨is, h1, h2⟩ := pos_encs (bs := bs) l (done ++ enc x) (by rw [h]; simp)
    refine ⟨done.length :: is, ?_, ?_⟩
    · rw [pos_step (by rw [h]; simp; omega) (by omega), hc]
      rw [List.length_append] at h1
      rw [h1]
    · rw [List.map_cons, List.map_cons, h2]
      congr 1
      rw [piece, hc, hd]
      simp

/-- **What was written is read.** -/
theorem readP_encs {l : List NL} (hl : ∀ x ∈ l, x.ty ∧ chk x = 0) : readP (encs l) = (l, 0, 0) := by
  obtain ⟨is, h1, h2⟩ := pos_encs (bs := encs l) l [] (by simp)
  have hdec : ∀ p ∈ l.map enc, (dec p).2 = 0 := by
    intro p hp
    obtain ⟨x, hx, rfl⟩ := List.mem_map.1 hp
    rw [dec_enc (hl x hx).1 (hl x hx).2]
  rw [readP_all h1 (fun i hi => hdec _ (by rw [← h2]; exact List.mem_map.2 ⟨i, hi, rfl⟩))]
  have e : (is.map fun i => (dec (piece (encs l) i)).1) = (is.map (piece (encs l))).map fun p => (dec p).1 := by simp
  rw [e, h2, List.map_map]
  have : l.map ((fun p => (dec p).1) ∘ enc) = l := by
    rw [List.map_congr_left (g := id)]
    · simp
    · intro x hx
      simp [dec_enc (hl x hx).1 (hl x hx).2]
  rw [this]

/-- What was read was written. -/
theorem runp_back {bs : List Int} : ∀ (n i : Nat) (acc : List NL), bs.length - i ≤ n → i ≤ bs.length → encs acc = bs.take i → (runp bs acc (pos bs n i)).2.1 = 0 →
    encs (runp bs acc (pos bs n i)).1 = bs ∧ (runp bs acc (pos bs n i)).2.2 = 0
  | 0, i, acc, h, hi, he, _ => by
    show encs acc = bs ∧ (0 : Int) = 0
    exact ⟨by rw [he, List.take_of_length_le (by omega)], rfl⟩
  | n + 1, i, acc, h, hi, he, h0 => by
    by_cases hd : bs.length ≤ i
    · rw [pos_done hd] at h0 ⊢
      exact ⟨by rw [runp, he, List.take_of_length_le hd], rfl⟩
    · have hc := cut_pos (b := bs.drop i) (by simp; omega)
      have hcl := cut_le (bs.drop i)
      simp only [List.length_drop] at hcl
      rw [pos, if_neg hd] at h0 ⊢
      rw [runp] at h0 ⊢
      by_cases hz : (dec (piece bs i)).2 ≠ 0
      · rw [if_pos hz] at h0; exact absurd h0 hz
      · rw [if_neg hz] at h0 ⊢
        have hk := dec_ok (Classical.not_not.1 hz)
        refine runp_back n _ _ (by omega) (by omega) ?_ h0
        rw [encs_snoc, he, hk.2.1, piece, List.take_add]
theorem readP_back {bs : List Int} (h : (readP bs).2.1 = 0) : encs (readP bs).1 = bs ∧ (readP bs).2.2 = 0 := runp_back bs.length 0 [] (by omega) (Nat.zero_le _) (by simp [encs]) h

theorem runp_mem {bs : List Int} : ∀ (is : List Nat) (acc : List NL), (∀ x ∈ acc, chk x = 0) → ∀ x ∈ (runp bs acc is).1, chk x = 0
  | [], acc, h => h
  | i :: is, acc, h => by
    rw [runp]
    by_cases hz : (dec (piece bs i)).2 ≠ 0
    · rw [if_pos hz]; simp
    · rw [if_neg hz]
      refine runp_mem is _ (fun x hx => ?_)
      rcases List.mem_append.1 hx with hx | hx
      · exact h x hx
      · rw [List.mem_singleton.1 hx]
        exact (dec_ok (Classical.not_not.1 hz)).1
theorem readP_chk (bs : List Int) : ∀ x ∈ (readP bs).1, chk x = 0 := runp_mem _ _ (by simp)

/-- A fault lies within the bytes, and there are no routes beside it. -/
theorem runp_fault {bs : List Int} : ∀ (is : List Nat) (acc : List NL), (∀ i ∈ is, i < bs.length) → (runp bs acc is).2.1 ≠ 0 → (runp bs acc is).1 = [] ∧ 0 ≤ (runp bs acc is).2.2 ∧ (runp bs acc is).2.2 < bs.length
  | [], acc, _, h => absurd rfl h
  | i :: is, acc, hi, h => by
    rw [runp] at h ⊢
    by_cases hz : (dec (piece bs i)).2 ≠ 0
    · rw [if_pos hz]
      have := hi i (by simp)
      exact ⟨rfl, by simp, by simpa using this⟩
    · rw [if_neg hz] at h ⊢
      exact runp_fault is _ (fun j hj => hi j (by simp [hj])) h
theorem readP_fault {bs : List Int} (h : (readP bs).2.1 ≠ 0) : (readP bs).1 = [] ∧ 0 ≤ (readP bs).2.2 ∧ (readP bs).2.2 < bs.length :=
  runp_fault _ _ (fun i hi => (pos_lt _ _ i hi).2) h

/-- A part of an encoded route is too short. -/
theorem dec_short {x : NL} {d : Nat} (hx : x.ty) (hc : chk x = 0) (h1 : 0 < d) (h2 : d < (enc x).length) : (dec ((enc x).take d)).2 = 4 := by
  have hok := hx.ok hc
  obtain ⟨hk, _⟩ := chk_zero hc
  have hvl := NL.val_len x x.k.toNat
  have hel := enc_len x
  have e : enc x = x.k :: ((x.val x.k.toNat).length : Int) :: x.val x.k.toNat := by simp [enc]
  obtain ⟨d, rfl⟩ : ∃ d', d = d' + 1 := ⟨d - 1, by omega⟩
  rw [e, List.take_succ_cons]
  cases d with
  | zero =>
    rw [List.take_zero]
    have e1 : (ps0 [x.k]).t 1 = ⟨[x.k], 0, 1, 0, 0⟩ := by
      show (RS.take _ ((1 : Nat) : Int)).2 = _
      rw [take_c 1 rfl (by simp)]
    have e2 : pr [x.k] = ⟨[x.k], 0, 1, 4, 1⟩ := by
      show ((ps0 _).t 1).t 1 = _
      rw [e1]
      show (RS.take _ ((1 : Nat) : Int)).2 = _
      rw [take_b _ rfl (.inr (by simp))]
      rfl
    have e4 : ((pr [x.k]).t (pn [x.k])).ef = 4 := by
      rw [e2]
      show (RS.take _ _).2.ef = 4
      rw [take_a _ (show (4 : Int) ≠ 0 by decide)]
    unfold dec
    rw [if_pos (by rw [e4]; decide), e4]
  | succ d =>
    rw [List.take_succ_cons]
    have hlt : ((x.val x.k.toNat).take d).length < (x.val x.k.toNat).length := by simp; omega
    generalize (x.val x.k.toNat).take d = V at hlt
    generalize (x.val x.k.toNat).length = m at hlt
    have e1 : (ps0 (x.k :: (m : Int) :: V)).t 1 = ⟨x.k :: (m : Int) :: V, 0, 1, 0, 0⟩ := by
      show (RS.take _ ((1 : Nat) : Int)).2 = _
      rw [take_c 1 rfl (by simp)]
    have e2 : pr (x.k :: (m : Int) :: V) = ⟨x.k :: (m : Int) :: V, 0, 2, 0, 0⟩ := by
      show ((ps0 _).t 1).t 1 = _
      rw [e1]
      show (RS.take _ ((1 : Nat) : Int)).2 = _
      rw [take_c 1 rfl (by simp)]
    have e3 : pn (x.k :: (m : Int) :: V) = m := by
      show ((ps0 _).t 1).got 1 = _
      rw [e1]
      show ((RS.take _ ((1 : Nat) : Int)).1.map num).getD 0 = _
      rw [take_c 1 rfl (by simp)]
      simp [num]
    have e4 : ((pr (x.k :: (m : Int) :: V)).t (pn (x.k :: (m : Int) :: V))).ef = 4 := by
      rw [e2, e3]
      show (RS.take _ _).2.ef = 4
      rw [take_b _ rfl (.inr (by simp; omega))]
    unfold dec
    rw [if_pos (by rw [e4]; decide), e4]

/-- Bytes that were written, cut inside of a route. -/
theorem readP_inside {l : List NL} {x : NL} {d : Nat} (hl : ∀ y ∈ l, y.ty ∧ chk y = 0) (hx : x.ty) (hc : chk x = 0) (h1 : 0 < d) (h2 : d < (enc x).length) : readP (encs l ++ (enc x).take d) = ([], 4, ((encs l).length : Int)) := by
  have hel := enc_len x
  obtain ⟨bs, hbs⟩ : ∃ bs, encs l ++ (enc x).take d = bs := ⟨_, rfl⟩
  have hcutl : cut ((enc x).take d) = d := by
    unfold cut
    have hlen : ((enc x).take d).length = d := by simp; omega
    by_cases h : d < 2
    · rw [if_pos (by omega), hlen]
    · rw [if_neg (by omega), hlen]
      have e : ((enc x).take d).getD 1 0 = ((x.val x.k.toNat).length : Int) := by
        obtain ⟨d, rfl⟩ : ∃ d', d = d' + 2 := ⟨d - 2, by omega⟩
        simp [enc]
      rw [e]
      simp
      omega
  have key : ∀ (l : List NL) (done : List Int), (∀ y ∈ l, y.ty ∧ chk y = 0) → bs = done ++ (encs l ++ (enc x).take d) →
      ∃ is r, pos bs bs.length done.length = is ++ (done ++ encs l).length :: r ∧ is.map (piece bs) = l.map enc := by
    intro l
    induction l with
    | nil =>
      intro done _ h
      have hlen : bs.length = done.length + d := by rw [h]; simp [encs]; omega
      refine ⟨[], pos bs bs.length (done.length + cut (bs.drop done.length)), ?_, rfl⟩
      rw [pos_step (by omega) (by omega)]
      simp [encs]
    | cons y l ih =>
      intro done hy h
      rw [encs_cons, List.append_assoc] at h
      have hd : bs.drop done.length = enc y ++ (encs l ++ (enc x).take d) := by rw [h]; simp
      have hcy : cut (bs.drop done.length) = (enc y).length := by rw [hd, cut_enc]
      have hyl := enc_len y
      obtain ⟨is, r, h1, h2⟩ := ih (done ++ enc y) (fun z hz => hy z (by simp [hz])) (by rw [h]; simp)
      refine ⟨done.length :: is, r, ?_, ?_⟩
      · rw [pos_step (by rw [h]; simp; omega) (by omega), hcy]
        rw [List.length_append] at h1
        rw [h1, encs_cons]
        simp [Nat.add_assoc]
      · rw [List.map_cons, List.map_cons, h2]
        congr 1
        rw [piece, hcy, hd]
        simp
  obtain ⟨is, r, h3, h4⟩ := key l [] hl (by rw [← hbs]; simp)
  simp only [List.nil_append, List.length_nil] at h3
  have hp : piece bs (encs l).length = (enc x).take d := by
    rw [piece, ← hbs]
    simp only [List.drop_left]
    rw [hcutl, List.take_take, Nat.min_self]
  have hdec : ∀ p ∈ l.map enc, (dec p).2 = 0 := by
    intro p hp
    obtain ⟨y, hy, rfl⟩ := List.mem_map.1 hp
    rw [dec_enc (hl y hy).1 (hl y hy).2]
  have hds := dec_short hx hc h1 h2
  rw [hbs, readP_bad h3 (fun i hi => hdec _ (by rw [← h4]; exact List.mem_map.2 ⟨i, hi, rfl⟩)) (by rw [hp, hds]; decide), hp, hds]

end Go.Proofs.Ytjachhgcoioohaa
