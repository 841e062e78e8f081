/- Graphs: arguments opened: lists of links, of numbers, of calls; a state. -/
import Derived.Test.YtfmjcjkifjndgaaToX
import Derived.Test.YtfmjcjkifjndgaaToO
import Derived.Deep.Slices
import Derived.Deep.Fields
namespace Go.Proofs.Ytfmjcjkifjndgaa
open Go.RowKit Go.WideShapes Go.ChangeShapes
set_option linter.unusedVariables false
set_option linter.unusedSimpArgs false
set_option maxRecDepth 100000

section
variable {W : World} {base : Nat}
theorem cell_has {t : TypeId} {k : IntKind} {v : Value} (ht : Try.prog.underlying t = some (.int k)) (h : Cell.okWide Try.prog W .any base t v) : ∃ n, v = .int k n ∧ k.has n := by
  simp only [Cell.okWide, ht] at h
  cases v <;> simp_all [Cell.ok]
end

theorem cellsTo : Try.prog.cellsOf 3 = 1 ∧ Try.prog.cellsOf 4 = 1 ∧ Try.prog.cellsOf 26 = 3 ∧ Try.prog.cellsOf 40 = 3 ∧ Try.prog.cellsOf 58 = 1 ∧ Try.prog.cellsOf 22 = 1 ∧ Try.prog.cellsOf 69 = 4 := by refine ⟨?_, ?_, ?_, ?_, ?_, ?_, ?_⟩ <;> kernel_rfl
theorem list3 {α : Type} (l : List α) (h : l.length = 3) : ∃ a b c, l = [a, b, c] := by
  match l, h with
  | [a, b, c], _ => exact ⟨a, b, c, rfl⟩
theorem list4 {α : Type} (l : List α) (h : l.length = 4) : ∃ a b c d, l = [a, b, c, d] := by
  match l, h with
  | [a, b, c, d], _ => exact ⟨a, b, c, d, rfl⟩

/-- A call of a script. -/
structure AC where
  k : Int
  n : Int
  u : Bool
def AC.l (x : AC) : List Value := [.int .i64 x.k, .int .i64 x.n, .bool x.u]

section
variable {H : Type} {enc : TypeId × Value → H} {W : World} {base : Nat} {sp : Nat → Bool} {held : Bool} {fuel : Nat}
theorem trod_link {cs : List Value} {x : DataW H × List MemPlace} (h : DataW.trod enc Try.prog W base sp held fuel 26 cs = some x) : ∃ y : LK, cs = y.l := by
  obtain ⟨xs, k, hk, hx, hl, hxl, hfs⟩ := DataW.trod_struct Try.underlying26 h
  rw [cellsTo.2.2.1] at hl
  obtain ⟨c0, c1, c2, rfl⟩ := list3 cs hl
  obtain ⟨y0, y1, y2, rfl⟩ := list3 xs hxl
  have t0 := hfs 0 _ rfl
  have t1 := hfs 1 _ rfl
  have t2 := hfs 2 _ rfl
  clear hfs
  simp [cellsTo] at t0 t1 t2
  obtain ⟨a0, x0, _, w0⟩ := DataW.trod_int Try.underlying3 t0
  obtain ⟨a1, x1, _, w1⟩ := DataW.trod_int Try.underlying3 t1
  obtain ⟨a2, x2, _, w2⟩ := DataW.trod_int Try.underlying3 t2
  simp at x0 x1 x2
  subst x0 x1 x2
  exact ⟨⟨a0, a1, a2⟩, rfl⟩
theorem trod_act {cs : List Value} {x : DataW H × List MemPlace} (h : DataW.trod enc Try.prog W base sp held fuel 40 cs = some x) : ∃ y : AC, cs = y.l ∧ (Lit.int .i64 y.k).wf = true := by
  obtain ⟨xs, k, hk, hx, hl, hxl, hfs⟩ := DataW.trod_struct Try.underlying40 h
  rw [cellsTo.2.2.2.1] at hl
  obtain ⟨c0, c1, c2, rfl⟩ := list3 cs hl
  obtain ⟨y0, y1, y2, rfl⟩ := list3 xs hxl
  have t0 := hfs 0 _ rfl
  have t1 := hfs 1 _ rfl
  have t2 := hfs 2 _ rfl
  clear hfs
  simp [cellsTo] at t0 t1 t2
  obtain ⟨a0, x0, _, w0⟩ := DataW.trod_int Try.underlying3 t0
  obtain ⟨a1, x1, _, w1⟩ := DataW.trod_int Try.underlying3 t1
  obtain ⟨a2, x2, _⟩ := DataW.trod_bool Try.underlying4 t2
  simp at x0 x1 x2
  subst x0 x1 x2
  exact ⟨⟨a0, a1, a2⟩, rfl, w0⟩

theorem flat3_at {α : Type} (f : α → List Value) (h3 : ∀ x, (f x).length = 3) (L : List α) (i j : Nat) (x : α) (hx : L[i]? = some x) (hj : j < 3) : (L.flatMap f)[i * 3 + j]? = (f x)[j]? := by
  induction L generalizing i with
  | nil => simp at hx
  | cons y L ih =>
    rw [List.flatMap_cons]
    cases i with
    | zero =>
      simp at hx
      subst hx
      rw [List.getElem?_append_left (by rw [h3]; omega)]
      simp
    | succ i =>
      rw [List.getElem?_append_right (by rw [h3]; omega), h3]
      have := ih i (by simpa using hx)
      rw [← this]
      congr 1
      omega
theorem flat3_len {α : Type} (f : α → List Value) (h3 : ∀ x, (f x).length = 3) (L : List α) : (L.flatMap f).length = L.length * 3 := by
  induction L with
  | nil => rfl
  | cons y L ih => rw [List.flatMap_cons, List.length_append, h3, ih, List.length_cons]; omega

/-- Elements of three cells each, opened. -/
theorem open_three {α : Type} (f : α → List Value) (h3 : ∀ x, (f x).length = 3) (d : α) (Pr : α → Prop) {a : Addr} {m : Nat} (hall : ∀ i, i < m → ∃ cs', W.cells? 0 (a.add (i * 3)) 3 = some cs' ∧ ∃ y : α, cs' = f y ∧ Pr y) (n : Nat) (hn : n ≤ m) :
    ∃ L : List α, L.length = n ∧ (∀ x ∈ L, Pr x) ∧ ∀ (j : Nat) (u : Value), (L.flatMap f)[j]? = some u → W.cell? (a.add j) = some u := by
  have key : ∀ i, ∃ x : α, i < m → ((∀ j, j < 3 → W.cell? (a.add (i * 3 + j)) = (f x)[j]?) ∧ Pr x) := by
    intro i
    by_cases hi : i < m
    · obtain ⟨cs', h1, y, rfl, hp⟩ := hall i hi
      obtain ⟨_, hlen, hcell⟩ := World.cells?_some h1
      refine ⟨y, fun _ => ⟨fun j hj => ?_, hp⟩⟩
      have := hcell j hj
      rwa [Go.Deep.add_add] at this
    · exact ⟨d, fun h => absurd h hi⟩
  refine ⟨(List.range n).map (fun i => Classical.choose (key i)), by simp, fun x hx => ?_, fun j u hu => ?_⟩
  · simp only [List.mem_map, List.mem_range] at hx
    obtain ⟨i, hi, rfl⟩ := hx
    exact (Classical.choose_spec (key i) (by omega)).2
  · have hj : j < n * 3 := by
      have := (List.getElem?_eq_some_iff.1 hu).1
      rw [flat3_len f h3] at this
      simpa using this
    have hq : j / 3 < n := by omega
    have h1 := (Classical.choose_spec (key (j / 3)) (by omega)).1 (j % 3) (Nat.mod_lt _ (by omega))
    have h2 := flat3_at f h3 ((List.range n).map (fun i => Classical.choose (key i))) (j / 3) (j % 3) (Classical.choose (key (j / 3))) (by simp [hq]) (Nat.mod_lt _ (by omega))
    have e : j / 3 * 3 + j % 3 = j := by omega
    rw [e] at h1 h2
    rw [h1, ← h2]; exact hu

theorem trod_links {v : Value} {x : DataW H × List MemPlace} (hf : DataW.trod enc Try.prog W 0 (fun _ => true) true fuel 22 [v] = some x) : ∃ A n c L, v = .slice A n c ∧ Lks W A n c L := by
  rcases Go.Deep.open_slice Try.underlying22 hf with ⟨hcs, _⟩ | ⟨a, len, cap, m, q, D, Pl, hcs, _, hl, hm, hmm, _, hall⟩
  · injection hcs with hcs
    subst hcs
    exact ⟨none, 0, 0, [], rfl, rfl, Nat.le_refl _, by simp, (fun _ => rfl), (fun ad e => by cases e)⟩
  · injection hcs with hcs
    subst hcs
    simp only [if_true] at hmm
    subst hmm
    rw [cellsTo.2.2.1] at hall
    obtain ⟨L, h1, _, h2⟩ := open_three LK.l (fun _ => rfl) ⟨0, 0, 0⟩ (fun _ => True) (fun i hi => by
      obtain ⟨cs', e1, e2⟩ := hall i hi
      obtain ⟨y, hy⟩ := trod_link e2
      exact ⟨cs', e1, y, hy, trivial⟩) len hl
    refine ⟨some a, len, m, L, rfl, h1.symm, hl, hm, (fun e => by cases e), fun ad e j u hu => ?_⟩
    injection e with e
    subst e
    exact h2 j u hu

theorem plain_of {a : Addr} {u : Value} (h : W.cell? (a.add 0) = some u) : ∃ b o, a = ⟨b, o, none⟩ ∧ b < W.heap.size := by
  obtain ⟨b, o, spot⟩ := a
  have hspot : spot = none := by simpa [Addr.add] using World.cell?_spot h
  subst hspot
  exact ⟨b, o, rfl, by simpa [Addr.add] using World.block_lt_of_cell? W _ h⟩

theorem trod_acts {v : Value} {x : DataW H × List MemPlace} (hf : DataW.trod enc Try.prog W 0 (fun _ => true) true fuel 37 [v] = some x) : ∃ A n c ks, v = .slice A n c ∧ n = List.length ks ∧ n ≤ 9223372036854775807 ∧ (∀ y ∈ ks, (Lit.int .i64 y.k).wf = true) ∧ Sq W A n c 3 (ks.flatMap AC.l) := by
  rcases Go.Deep.open_slice Try.underlying37 hf with ⟨hcs, _⟩ | ⟨a, len, cap, m, q, D, Pl, hcs, _, hl, hm, hmm, _, hall⟩
  · injection hcs with hcs
    subst hcs
    exact ⟨none, 0, 0, [], rfl, rfl, by omega, by simp, ⟨rfl, Nat.le_refl _, fun h => absurd h (by omega)⟩⟩
  · injection hcs with hcs
    subst hcs
    simp only [if_true] at hmm
    subst hmm
    rw [cellsTo.2.2.2.1] at hall
    obtain ⟨L, h1, hp, h2⟩ := open_three AC.l (fun _ => rfl) ⟨0, 0, false⟩ (fun y => (Lit.int .i64 y.k).wf = true) (fun i hi => by
      obtain ⟨cs', e1, e2⟩ := hall i hi
      obtain ⟨y, hy, hw⟩ := trod_act e2
      exact ⟨cs', e1, y, hy, hw⟩) len hl
    refine ⟨some a, len, m, L, rfl, h1.symm, by unfold maxLen at hm; omega, hp, ⟨by rw [flat3_len _ (fun _ => rfl), h1], hl, fun h0 => ?_⟩⟩
    have hL : 0 < L.length := by omega
    have hz : (L.flatMap AC.l)[0]? = some (.int .i64 L[0].k) := by
      have := flat3_at AC.l (fun _ => rfl) L 0 0 L[0] (by simp) (by omega)
      exact this
    obtain ⟨b, o, rfl, hb⟩ := plain_of (h2 0 _ hz)
    exact ⟨b, o, rfl, hb, fun j u hu => by have := h2 j u hu; rwa [add_plain] at this⟩

theorem trod_nums {v : Value} {x : DataW H × List MemPlace} (hf : DataW.trod enc Try.prog W 0 (fun _ => true) true fuel 58 [v] = some x) : ∃ A n c xs, v = .slice A n c ∧ n = List.length xs ∧ n ≤ 9223372036854775807 ∧ Sq W A n c 1 (ints xs) := by
  rcases open_ints Try.underlying58 Try.underlying3 cellsTo.1 hf with ⟨hcs, _⟩ | ⟨a, len, cap, zs, hcs, _, hl, hm, hz, _, hcell, hwf⟩
  · injection hcs with hcs
    subst hcs
    exact ⟨none, 0, 0, [], rfl, rfl, by omega, ⟨rfl, Nat.le_refl _, fun h => absurd h (by omega)⟩⟩
  · injection hcs with hcs
    subst hcs
    simp only [if_true] at hz
    have hlen : (zs.take len).length = len := by simp; omega
    have hc : ∀ (j : Nat) (u : Value), (ints (zs.take len))[j]? = some u → W.cell? (a.add j) = some u := fun j u hu => by
      simp only [ints, List.getElem?_map] at hu
      obtain ⟨y, hy, rfl⟩ := Option.map_eq_some_iff.1 hu
      obtain ⟨hj, rfl⟩ := List.getElem?_eq_some_iff.1 hy
      have hj2 : j < len := by rw [hlen] at hj; exact hj
      rw [hcell j (by omega), List.getElem_take]
      simp [List.getD, show j < zs.length by omega]
    refine ⟨some a, len, cap, zs.take len, rfl, hlen.symm, by unfold maxLen at hm; omega, ⟨by simp only [ints, List.length_map]; omega, hl, fun h0 => ?_⟩⟩
    obtain ⟨b, o, rfl, hb⟩ := plain_of (hc 0 (.int .i64 ((zs.take len)[0]'(by omega))) (by simp [ints, hlen, h0]))
    exact ⟨b, o, rfl, hb, fun j u hu => by have := hc j u hu; rwa [add_plain] at this⟩
end

/-- A state that came in: its nodes, its links, which nodes and links are down. -/
structure SA where
  N : Int
  A1 : Option Addr
  n1 : Nat
  c1 : Nat
  A2 : Option Addr
  n2 : Nat
  c2 : Nat
  A3 : Option Addr
  n3 : Nat
  c3 : Nat
  L : List LK
  dn : List Int
  dl : List Int
abbrev SA.v (x : SA) : Value := .agg #[.int .i64 x.N, .slice x.A1 x.n1 x.c1, .slice x.A2 x.n2 x.c2, .slice x.A3 x.n3 x.c3]
structure SA.at_ (x : SA) (W : World) : Prop where
  l : Lks W x.A1 x.n1 x.c1 x.L
  e2 : x.n2 = x.dn.length
  m2 : x.n2 ≤ 9223372036854775807
  s2 : Sq W x.A2 x.n2 x.c2 1 (ints x.dn)
  e3 : x.n3 = x.dl.length
  m3 : x.n3 ≤ 9223372036854775807
  s3 : Sq W x.A3 x.n3 x.c3 1 (ints x.dl)
theorem SA.below {x : SA} {W W' : World} (h : x.at_ W) (hb : Below W.heap.size W W') : x.at_ W' := ⟨h.l.below hb, h.e2, h.m2, h.s2.below hb, h.e3, h.m3, h.s3.below hb⟩

section
variable {H : Type} {enc : TypeId × Value → H} {W : World} {base : Nat}
theorem open_state {v : Value} {d : DataW H} {p : List MemPlace} (hv : Value.okWide Try.prog W .any base 69 v) (h : DataW.Trod enc Try.prog W 0 (fun _ => true) true 69 v d p) : ∃ x : SA, v = x.v ∧ x.at_ W := by
  obtain ⟨cs, rfl, hsz, _⟩ : ∃ cs, v = .agg cs ∧ cs.size = Try.prog.cellsOf 69 ∧ Row.okWide Try.prog W .any base 69 cs := by
    simpa [Value.okWide, Try.underlying69] using hv
  rw [cellsTo.2.2.2.2.2.2] at hsz
  obtain ⟨l⟩ := cs
  obtain ⟨v0, v1, v2, v3, rfl⟩ := list4 l (by simpa using hsz)
  obtain ⟨fuel, hf⟩ := h
  obtain ⟨xs, k, hk, hx, hl, hxl, hfs⟩ := DataW.trod_struct Try.underlying69 hf
  obtain ⟨y0, y1, y2, y3, rfl⟩ := list4 xs hxl
  have t0 := hfs 0 _ rfl
  have t1 := hfs 1 _ rfl
  have t2 := hfs 2 _ rfl
  have t3 := hfs 3 _ rfl
  clear hfs
  simp [cellsTo, Value.cells] at t0 t1 t2 t3
  obtain ⟨a0, x0, _, w0⟩ := DataW.trod_int Try.underlying3 t0
  obtain ⟨A1, n1, c1, L, rfl, hL⟩ := trod_links t1
  obtain ⟨A2, n2, c2, dn, rfl, e2, m2, s2⟩ := trod_nums t2
  obtain ⟨A3, n3, c3, dl, rfl, e3, m3, s3⟩ := trod_nums t3
  simp at x0
  subst x0
  exact ⟨⟨a0, A1, n1, c1, A2, n2, c2, A3, n3, c3, L, dn, dl⟩, rfl, ⟨hL, e2, m2, s2, e3, m3, s3⟩⟩
theorem open_links {v : Value} {d : DataW H} {p : List MemPlace} (hv : Value.okWide Try.prog W .any base 22 v) (h : DataW.Trod enc Try.prog W 0 (fun _ => true) true 22 v d p) : ∃ A n c L, v = .slice A n c ∧ Lks W A n c L := by
  obtain ⟨A, n, c, rfl⟩ := okWide_slice Try.underlying22 hv
  obtain ⟨fuel, hf⟩ := h
  exact trod_links (v := .slice A n c) (by simpa [Value.cells] using hf)
theorem open_acts {v : Value} {d : DataW H} {p : List MemPlace} (hv : Value.okWide Try.prog W .any base 37 v) (h : DataW.Trod enc Try.prog W 0 (fun _ => true) true 37 v d p) : ∃ A n c ks, v = .slice A n c ∧ n = List.length ks ∧ n ≤ 9223372036854775807 ∧ (∀ y ∈ ks, (Lit.int .i64 y.k).wf = true) ∧ Sq W A n c 3 (ks.flatMap AC.l) := by
  obtain ⟨A, n, c, rfl⟩ := okWide_slice Try.underlying37 hv
  obtain ⟨fuel, hf⟩ := h
  exact trod_acts (v := .slice A n c) (by simpa [Value.cells] using hf)
end

end Go.Proofs.Ytfmjcjkifjndgaa
