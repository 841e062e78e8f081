/- Graphs: a set as a list, a full set; the queue of a walk; what holds while a walk goes on. -/
import Derived.Test.YtfmjcjkifjndgaaToE
import Derived.ArgAppend
import Derived.OwnWalkIn
namespace Go.Proofs.Ytfmjcjkifjndgaa
open Go.RowKit
set_option linter.unusedVariables false
set_option linter.unusedSimpArgs false
set_option maxRecDepth 100000

def natv (xs : List Nat) : List Value := xs.map (fun (x : Nat) => Value.int .i64 (x : Int))
/-- The first k numbers of a set. -/
def elems (F : Nat → Bool) (k : Nat) : List Nat := (List.range k).filter F
theorem elems_succ (F : Nat → Bool) (k : Nat) : elems F (k + 1) = elems F k ++ (if F k = true then [k] else []) := by
  unfold elems
  rw [List.range_succ, List.filter_append]
  by_cases h : F k = true <;> simp [h]
theorem elems_len (F : Nat → Bool) (k : Nat) : (elems F k).length ≤ k := by
  unfold elems; exact Nat.le_trans (List.length_filter_le _ _) (by simp)
theorem elems_less {F : Nat → Bool} {n k : Nat} (h : ∀ m, F m = true → m < n) (hk : n ≤ k) : elems F k = elems F n := by
  obtain ⟨d, rfl⟩ := Nat.exists_eq_add_of_le hk
  clear hk
  induction d with
  | zero => rfl
  | succ d ih =>
    rw [← Nat.add_assoc, elems_succ, ih]
    have : F (n + d) = false := by
      rw [← Bool.not_eq_true]
      intro h9
      have := h _ h9
      omega
    simp [this]
theorem natv_app (a b : List Nat) : natv (a ++ b) = natv a ++ natv b := by simp [natv]

theorem list_any (b o : Nat) (F : Nat → Bool) (w : World) (H : BsAt w b o F) :
    Calls Try.prog 59 #[.pointer (some ⟨b, o, none⟩)] w (Gives w 3 1 (elems F 128).length (natv (elems F 128))) := by
  have HH := Lib.hid H
  have hbl : b < w.heap.size := by
    obtain ⟨a0, a1, c0, _⟩ := H
    exact World.block_lt_of_cell? w _ c0
  have HK : Hid (∀ w', Below w.heap.size w w' → BsAt w' b o F) := Lib.hid (fun w' hb => by
    obtain ⟨a0, a1, c0, c1, h⟩ := H
    exact ⟨a0, a1, (hb.cell (p := ⟨b, o, none⟩) hbl).trans c0, (hb.cell (p := ⟨b, o + 1, none⟩) hbl).trans c1, h⟩)
  obtain ⟨j0, hj0, hz0, hz1, hz2⟩ := info_parts info_int
  clear H
  go_enter Try.func59, Try.ntmps59
  go_wp2_with fail
  go_loopw [3, 5] (fun v i wr => ∃ (k p : Nat) (A7 : Option Addr) (c7 : Nat), k ≤ 128 ∧ i = .int .i64 k ∧ Hid (p = (elems F k).length) ∧ p ≤ k ∧ v = .slice A7 p c7 ∧ wr.ownsRow w.heap.size 3 1 (.slice A7 p c7) p (natv (elems F k)) ∧ Below w.heap.size w wr) (fun _ i _ => 128 - (intOf i).toNat)
  case atStart => exact ⟨0, 0, none, 0, Nat.zero_le _, rfl, Lib.hid rfl, Nat.le_refl _, rfl, World.ownsRow_nil _ _ _ _, Below.refl _ _⟩
  case round =>
    obtain ⟨k, p, A7, c7, hk, rfl, HP, hpk, rfl, hown, hb⟩ := hrel
    have HO1 := Lib.hid hown
    have HB1 := Lib.hid hb
    have HG := Lib.hid (HK.out wr hb)
    clear hown hb
    by_cases hlt : k < 128
    · have HT := Lib.hid (elems_succ F k)
      cases hF : F k
      · have HS : Hid (elems F (k + 1) = elems F k) := Lib.hid (by rw [HT.out, hF]; simp)
        have H1 := Lib.hid hF
        clear hF HT
        go_wp2_with (go_at_call 57; refine (has_any _ _ _ k hlt _ HG.out).mono ?_; rintro e w' ⟨rfl, rfl⟩; rw [H1.out])
        go_roundw
        case rel => exact ⟨k + 1, p, A7, c7, by omega, by go_num, Lib.hid (by rw [HS.out]; exact HP.out), by omega, rfl, by rw [HS.out]; exact HO1.out, HB1.out⟩
        case measure => simp [intOf]; omega
      · have HS : Hid (elems F (k + 1) = elems F k ++ [k]) := Lib.hid (by rw [HT.out, hF]; simp)
        have H1 := Lib.hid hF
        clear hF HT
        go_wp2_with (first
          | (go_at_call 57; refine (has_any _ _ _ k hlt _ HG.out).mono ?_; rintro e w' ⟨rfl, rfl⟩; rw [H1.out])
          | (at_builtin; refine wpList_append_own _ rfl _ _ 58 rfl w.heap.size 3 j0 (.int .i64 0) 1 8 Try.underlying58 hj0 hz0 hz1 hz2 rfl (by decide) _ _ _ rfl (HO1.out.alloc _) ⟨wr.heap.size, 0, none⟩ 1 1 [.int .i64 (k : Int)] rfl rfl (laid_block wr _ _) (by simp [Value.oneCell']) (by unfold maxLen; omega) (by omega) (by have := HB1.out.size; simp; omega) ?_))
        intro v' w2 hown hgrow hnil
        obtain ⟨A', c', rfl, _⟩ := own_form hown
        have HO2 := Lib.hid hown
        have HB2 : Hid (Below w.heap.size w w2) := Lib.hid (grown_below (HB1.out.alloc HB1.out.size _) hgrow (fun r hr => (HO1.out.lt r hr).1) (by have := HB1.out.size; simp; omega))
        clear hown hgrow hnil
        go_wp2_with fail
        go_roundw
        case rel => exact ⟨k + 1, p + 1, A', c', by omega, by go_num, Lib.hid (by rw [HS.out, List.length_append, ← HP.out]; rfl), by omega, rfl, by rw [HS.out, natv_app]; exact HO2.out, HB2.out⟩
        case measure => simp [intOf]; omega
    · obtain rfl : k = 128 := by omega
      go_wp2_with fail
      go_ret
      refine ⟨A7, c7, ?_, ?_, HB1.out⟩
      · rw [← HP.out]; rfl
      · rw [← HP.out]; exact HO1.out

/-- The queue of a walk: a slice of numbers that the call owns, somewhere in a block. -/
structure Que (w : World) (B g o c : Nat) (q : List Nat) : Prop where
  blk : ∃ cur : Array Value, Has w g 3 cur ∧ o + c ≤ cur.size ∧ ∀ (j : Nat) (x : Nat), q[j]? = some x → cur[o + j]? = some (.int .i64 (x : Int))
  lo : B ≤ g
  cap : q.length ≤ c
  capm : c ≤ maxLen
theorem Que.lt {w : World} {B g o c : Nat} {q : List Nat} (h : Que w B g o c q) : g < w.heap.size := by
  obtain ⟨cur, hh, _⟩ := h.blk
  exact hh.lt
theorem Que.at_ {w : World} {B g o c : Nat} {q : List Nat} (h : Que w B g o c q) {j x : Nat} (hx : q[j]? = some x) : w.cell? ⟨g, o + j, none⟩ = some (.int .i64 (x : Int)) := by
  obtain ⟨cur, hh, _, hc⟩ := h.blk
  rw [hh.cell]; exact hc j x hx
theorem Que.keep {w w' : World} {B g o c : Nat} {q : List Nat} (h : Que w B g o c q) (hk : ∀ cur, Has w g 3 cur → Has w' g 3 cur) : Que w' B g o c q := by
  obtain ⟨cur, hh, r⟩ := h.blk
  exact ⟨⟨cur, hk cur hh, r⟩, h.lo, h.cap, h.capm⟩
theorem Que.cut1 {w : World} {B g o c x : Nat} {r : List Nat} (h : Que w B g o c (x :: r)) (hc : 1 < c) : Que w B g (o + 1) (c - 1) r := by
  obtain ⟨cur, hh, h1, h2⟩ := h.blk
  have := h.cap
  simp at this
  refine ⟨⟨cur, hh, by omega, fun j y hy => ?_⟩, h.lo, by omega, by have := h.capm; omega⟩
  rw [show o + 1 + j = o + (j + 1) by omega]
  exact h2 (j + 1) y (by simpa using hy)
theorem Que.cut0 {w : World} {B g o x : Nat} {r : List Nat} (h : Que w B g o 1 (x :: r)) : r = [] ∧ Que w B g o 0 [] := by
  obtain ⟨cur, hh, h1, h2⟩ := h.blk
  have := h.cap
  simp at this
  refine ⟨this, ⟨cur, hh, by omega, fun j y hy => by simp at hy⟩, h.lo, by simp, by simp⟩
theorem Que.start (w : World) (B x : Nat) (hB : B ≤ w.heap.size) : Que (w.alloc (.cells #[.int .i64 (x : Int)] 3)) B w.heap.size 0 1 [x] := by
  refine ⟨⟨_, Has.new _ _ _, by simp, fun j y hy => ?_⟩, hB, by simp, by simp [maxLen]⟩
  obtain ⟨hj, rfl⟩ := List.getElem?_eq_some_iff.1 hy
  simp at hj
  subst hj
  rfl

/-- One more in the queue. -/
theorem run_push {w : World} {B g o c : Nat} {q : List Nat} (h : Que w B g o c q) (hB : B ≤ w.heap.size) (ty : TypeId) (ad : Addr) (x : Nat) (hx : ∀ j u, [Value.int .i64 (x : Int)][j]? = some u → w.cell? (ad.add j) = some u) (hq : q.length ≤ 100000) :
    ∃ g' o' c' w', (Builtin.append_ #[58, 58] ty #[.slice (some ⟨g, o, none⟩) q.length c, .slice (some ad) 1 1]).run Try.prog w = .ok (.slice (some ⟨g', o', none⟩) (q.length + 1) c') w' ∧ Que w' B g' o' c' (q ++ [x]) ∧ w.grownBy w' (some g) := by
  obtain ⟨j0, hj0, hz0, hz1, hz2⟩ := info_parts info_int
  obtain ⟨cur, hh, h1, h2⟩ := h.blk
  by_cases hr : q.length + 1 ≤ c
  · have hfr : ∀ k, w.frozen? ⟨g, k, none⟩ = false := hh.free
    have hrun := run_append_room_cells (P := Try.prog) w 58 ty 3 j0 Try.underlying58 hj0 g o q.length c ad 1 1 [.int .i64 (x : Int)] (by rw [hz1]; rfl) hx (by simp [Value.oneCell']) hr
      (fun j hj => by
        simp at hj
        subst hj
        rw [hz1, hh.cell]
        simp
        omega) (fun j hj => hfr _)
    rw [hz1] at hrun
    simp only [Nat.mul_one] at hrun
    refine ⟨g, o, c, _, hrun, ⟨⟨_, hh.set_ (o + q.length) (.int .i64 (x : Int)), by simp; exact h1, fun j y hy => ?_⟩, h.lo, by simp; omega, h.capm⟩, ?_⟩
    · by_cases hj : j = q.length
      · subst hj
        simp at hy
        subst hy
        rw [Array.getElem?_setIfInBounds_self_of_lt (by omega)]
      · have hjl : j < q.length := by
          have := (List.getElem?_eq_some_iff.1 hy).1
          simp at this
          omega
        rw [Array.getElem?_setIfInBounds_ne (by omega)]
        rw [List.getElem?_append_left hjl] at hy
        exact h2 j y hy
    · exact only_set (only_refl _ _) (p := ⟨g, o + q.length, none⟩) (.inl rfl) _
  · have hlo : (natv q).length = q.length * 1 := by simp [natv]
    obtain ⟨v', w', hrun, hown, hg⟩ := run_append_arg_grows (P := Try.prog) w 58 ty 3 j0 (.int .i64 0) 1 8 Try.underlying58 hj0 hz0 hz1 hz2 rfl (by decide) ⟨g, o, none⟩ q.length c (natv q) hlo
      (fun j u hu => by
        rw [add_plain]
        simp only [natv, List.getElem?_map] at hu
        obtain ⟨y, hy, rfl⟩ := Option.map_eq_some_iff.1 hu
        exact h.at_ hy) ad 1 1 [.int .i64 (x : Int)] rfl hx (by have := h.cap; omega) (by unfold maxLen; omega) (by omega)
    rcases hown.2 with ⟨_, h0⟩ | ⟨g', cap', cur', rfl, hb', hh', hn', hm', hs', ht'⟩
    · omega
    · refine ⟨g', 0, cap', w', hrun, ⟨⟨cur', hh', by omega, fun j y hy => ?_⟩, by omega, by simp; omega, hm'⟩, ⟨hg.os, hg.tape, hg.output, hg.size, fun i hi _ => hg.block i hi (by simp)⟩⟩
      have hjl : j < q.length + 1 := by
        have := (List.getElem?_eq_some_iff.1 hy).1
        simpa using this
      rw [Nat.zero_add, ← Array.getElem?_toList]
      have : (natv q ++ [Value.int .i64 (x : Int)])[j]? = some (.int .i64 (y : Int)) := by
        have e : natv q ++ [Value.int .i64 (x : Int)] = natv (q ++ [x]) := by simp [natv]
        rw [e, natv, List.getElem?_map, hy]; rfl
      rw [← ht', List.getElem?_take_of_lt (by omega)] at this
      exact this

theorem wpListIn_push {F : Fence} {n : Nat} {w : World} {ops : Array Oper} {rest : List Oper} {o : Oper} {a : Act} {Q : Exit → Act → World → Prop}
    (hg : o.guard = none) (s x : Operand) (hop : o.op = Op.call { callee := Callee.builtin Builtin.append, args := #[s, x], argTypes := #[58, 58] })
    {B gq oq cq : Nat} {q : List Nat} (h : Que w B gq oq cq q) (m : Nat) (hm : q.length = m) (hB : B ≤ w.heap.size) (hs : a.eval s = .slice (some ⟨gq, oq, none⟩) m cq) (ad : Addr) (y : Nat) (hx : a.eval x = .slice (some ad) 1 1) (hy : ∀ j u, [Value.int .i64 (y : Int)][j]? = some u → w.cell? (ad.add j) = some u) (hq : q.length ≤ 100000)
    (hK : ∀ g' o' c' w', Que w' B g' o' c' (q ++ [y]) → w.grownBy w' (some gq) → wpListIn F n Try.prog ops Q rest (a.put o.dst (.slice (some ⟨g', o', none⟩) (m + 1) c')) w') :
    wpListIn F n Try.prog ops Q (o :: rest) a w := by
  subst hm
  refine wpListIn_plain hg fun K hK' => ?_
  obtain ⟨g', o', c', w', hrun, r1, r2⟩ := run_push h hB o.type ad y hy hq
  unfold Oper.wpIn
  refine ⟨?_, ?_⟩
  · simp [Oper.about, hop, resolve, Target.leads, Sem.run_pure]
  · rw [Oper.semAt_plain F _ _ (by rw [hop]; intro c hc'; cases hc')]
    simp [execOp, hop, resolve, invoke, builtin, hs, hx, hrun, Result.andThen]
    exact hK' _ _ (hK g' o' c' w' r1 r2)

/-- Between two rounds of a walk from n: these have been visited, these wait, these have been found. -/
structure BI (s : GS) (n : Nat) (ys q : List Nat) (F : Nat → Bool) : Prop where
  rch : ∀ m, F m = true → Rch s n m
  src : F n = true
  mem : ∀ m, F m = true ↔ m ∈ ys ∨ m ∈ q
  cls : ∀ m ∈ ys, ∀ k, adj s m k → F k = true
  size : ys.length + q.length + cnt F s.N ≤ s.N
/-- Within a round: the neighbors of c, up to the k-th. -/
structure BJ (s : GS) (n : Nat) (ys : List Nat) (c : Nat) (r : List Nat) (F : Nat → Bool) (k : Nat) : Prop where
  rch : ∀ m, F m = true → Rch s n m
  src : F n = true
  mem : ∀ m, F m = true ↔ m ∈ ys ∨ m = c ∨ m ∈ r
  cls : ∀ m ∈ ys, ∀ k, adj s m k → F k = true
  done : ∀ j e, j < k → (s.neigh c)[j]? = some e → F e.n.toNat = true
  size : ys.length + 1 + r.length + cnt F s.N ≤ s.N
theorem BI.start {s : GS} {n : Nat} (h : s.al n = true) (hn : n < s.N) : BI s n [] [n] (put (fun _ => false) n true) := by
  have key : ∀ m, put (fun _ => false) n true m = true ↔ m = n := fun m => by
    unfold put
    by_cases e : m = n <;> simp [e]
  refine ⟨fun m hm => ?_, by rw [put_same], fun m => by rw [key]; simp, fun m hm => by simp at hm, ?_⟩
  · rw [key] at hm; subst hm; exact .here h
  · have := cnt_put (F := fun _ => false) hn rfl
    have h2 := cnt_le (fun _ => false) s.N
    simp only [List.length_nil, List.length_singleton]
    omega
theorem BI.begin {s : GS} {n : Nat} {ys : List Nat} {c : Nat} {r : List Nat} {F : Nat → Bool} (h : BI s n ys (c :: r) F) : BJ s n ys c r F 0 :=
  ⟨h.rch, h.src, fun m => by rw [h.mem]; simp, h.cls, fun j e hj => by omega, by have := h.size; simp at this; omega⟩
theorem edge_adj {s : GS} (ok : s.ok) {c : Nat} {e : ED} (h : e ∈ s.neigh c) : adj s c e.n.toNat ∧ 0 ≤ e.n ∧ e.n.toNat < s.N := by
  obtain ⟨i, x, hi, hx, hu, h⟩ := mem_nbr.1 h
  obtain ⟨a0, a1, b0, b1, _⟩ := fine_at ok hx
  rcases h with ⟨ha, rfl⟩ | ⟨_, hb, rfl⟩
  · exact ⟨⟨i, x, hx, hu, .inl ⟨ha, by simp; omega⟩⟩, b0, by simp; omega⟩
  · exact ⟨⟨i, x, hx, hu, .inr ⟨hb, by simp; omega⟩⟩, a0, by simp; omega⟩
theorem adj_edge {s : GS} (ok : s.ok) {c k : Nat} (h : adj s c k) : ∃ e ∈ s.neigh c, e.n = (k : Int) := by
  obtain ⟨i, x, hx, hu, h⟩ := h
  have hi : i < s.L.length := (List.getElem?_eq_some_iff.1 hx).1
  have hne := (fine_at ok hx).2.2.2.2.2.2
  rcases h with ⟨ha, hb⟩ | ⟨hb, ha⟩
  · exact ⟨⟨i, x.b, x.c⟩, mem_nbr.2 ⟨i, x, hi, hx, hu, .inl ⟨ha, rfl⟩⟩, hb⟩
  · exact ⟨⟨i, x.a, x.c⟩, mem_nbr.2 ⟨i, x, hi, hx, hu, .inr ⟨by omega, hb, rfl⟩⟩, ha⟩
theorem BJ.skip {s : GS} {n : Nat} {ys : List Nat} {c : Nat} {r : List Nat} {F : Nat → Bool} {k : Nat} (h : BJ s n ys c r F k) {e : ED} (he : (s.neigh c)[k]? = some e) (hF : F e.n.toNat = true) : BJ s n ys c r F (k + 1) :=
  ⟨h.rch, h.src, h.mem, h.cls, fun j e' hj he' => by
    by_cases hjk : j = k
    · subst hjk
      rw [he] at he'
      cases he'
      exact hF
    · exact h.done j e' (by omega) he', h.size⟩
theorem BJ.add {s : GS} (ok : s.ok) {n : Nat} {ys : List Nat} {c : Nat} {r : List Nat} {F : Nat → Bool} {k : Nat} (h : BJ s n ys c r F k) {e : ED} (he : (s.neigh c)[k]? = some e) (hF : F e.n.toNat = false) : BJ s n ys c (r ++ [e.n.toNat]) (put F e.n.toNat true) (k + 1) := by
  obtain ⟨ha, h0, hN⟩ := edge_adj ok (List.mem_of_getElem? he)
  have up : ∀ m, F m = true → put F e.n.toNat true m = true := fun m hm => by
    unfold put; split <;> simp [hm]
  have key : ∀ m, put F e.n.toNat true m = true ↔ F m = true ∨ m = e.n.toNat := fun m => by
    unfold put
    by_cases e9 : m = e.n.toNat <;> simp [e9]
  refine ⟨fun m hm => ?_, up _ h.src, fun m => ?_, fun m hm k' hk' => up _ (h.cls m hm k' hk'), fun j e' hj he' => ?_, ?_⟩
  · rcases (key m).1 hm with hm | rfl
    · exact h.rch m hm
    · exact (h.rch c ((h.mem c).2 (.inr (.inl rfl)))).step ha
  · rw [key, h.mem]
    simp only [List.mem_append, List.mem_singleton]
    constructor
    · rintro ((h1 | h1 | h1) | h1)
      · exact .inl h1
      · exact .inr (.inl h1)
      · exact .inr (.inr (.inl h1))
      · exact .inr (.inr (.inr h1))
    · rintro (h1 | h1 | h1 | h1)
      · exact .inl (.inl h1)
      · exact .inl (.inr (.inl h1))
      · exact .inl (.inr (.inr h1))
      · exact .inr h1
  · by_cases hjk : j = k
    · subst hjk
      rw [he] at he'
      cases he'
      rw [put_same]
    · exact up _ (h.done j e' (by omega) he')
  · have := cnt_put hN hF
    have := h.size
    simp only [List.length_append, List.length_singleton]
    omega
theorem BJ.finish {s : GS} (ok : s.ok) {n : Nat} {ys : List Nat} {c : Nat} {r : List Nat} {F : Nat → Bool} {k : Nat} (h : BJ s n ys c r F k) (hk : (s.neigh c).length ≤ k) : BI s n (ys ++ [c]) r F := by
  refine ⟨h.rch, h.src, fun m => ?_, fun m hm k' hk' => ?_, by have := h.size; simp; omega⟩
  · rw [h.mem]; simp [or_assoc]
  · simp at hm
    rcases hm with hm | rfl
    · exact h.cls m hm k' hk'
    · obtain ⟨e, he, hn⟩ := adj_edge ok hk'
      obtain ⟨j, hj, hje⟩ := List.getElem_of_mem he
      have := h.done j e (by omega) (by rw [List.getElem?_eq_getElem hj, hje])
      rw [hn] at this
      simpa using this
theorem BI.all {s : GS} {n : Nat} {ys : List Nat} {F : Nat → Bool} (h : BI s n ys [] F) (m : Nat) : m ∈ ys ↔ Rch s n m := by
  have hm : ∀ m, F m = true ↔ m ∈ ys := fun m => by rw [h.mem]; simp
  rw [← hm]
  refine ⟨h.rch m, fun hr => ?_⟩
  induction hr with
  | here _ => exact h.src
  | step h1 a ih => exact h.cls _ ((hm _).1 ih) _ a

end Go.Proofs.Ytfmjcjkifjndgaa
