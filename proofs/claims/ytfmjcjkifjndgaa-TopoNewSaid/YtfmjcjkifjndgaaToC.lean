/- Graphs: the word for a graph; its small functions. -/
import Derived.Test.YtfmjcjkifjndgaaToB
import Derived.Laws.OwnMore
import Derived.Laws.AppendOwn
import Derived.Laws.AppendOwnNone
import Derived.Deep.Onto
namespace Go.Proofs.Ytfmjcjkifjndgaa
open Go.RowKit
set_option linter.unusedVariables false
set_option linter.unusedSimpArgs false
set_option maxRecDepth 100000

def LK.l (x : LK) : List Value := [.int .i64 x.a, .int .i64 x.b, .int .i64 x.c]
def flatL (L : List LK) : List Value := L.flatMap LK.l
theorem flatL_cons (x : LK) (L : List LK) : flatL (x :: L) = x.l ++ flatL L := by simp [flatL]
theorem flatL_len (L : List LK) : (flatL L).length = L.length * 3 := by
  induction L with
  | nil => rfl
  | cons x L ih => rw [flatL_cons, List.length_append, ih]; simp [LK.l]; omega
theorem flatL_one (L : List LK) : ∀ u ∈ flatL L, u.oneCell' = true := by
  intro u hu
  obtain ⟨x, _, hx⟩ := List.mem_flatMap.1 hu
  simp [LK.l] at hx
  rcases hx with rfl | rfl | rfl <;> rfl
theorem flatL_at (L : List LK) (i : Nat) (x : LK) (hx : L[i]? = some x) : (flatL L)[i * 3]? = some (.int .i64 x.a) ∧ (flatL L)[i * 3 + 1]? = some (.int .i64 x.b) ∧ (flatL L)[i * 3 + 2]? = some (.int .i64 x.c) := by
  induction L generalizing i with
  | nil => simp at hx
  | cons y L ih =>
    rw [flatL_cons]
    cases i with
    | zero => simp at hx; subst hx; exact ⟨rfl, rfl, rfl⟩
    | succ i =>
      have := ih i (by simpa using hx)
      have hl : y.l.length = 3 := rfl
      rw [show (i + 1) * 3 = 3 + i * 3 by omega, List.getElem?_append_right (by omega), List.getElem?_append_right (by omega), List.getElem?_append_right (by omega)]
      rw [show 3 + i * 3 - y.l.length = i * 3 by omega, show 3 + i * 3 + 1 - y.l.length = i * 3 + 1 by omega, show 3 + i * 3 + 2 - y.l.length = i * 3 + 2 by omega]
      exact this

/-- A slice of links. -/
structure Lks (w : World) (A : Option Addr) (n c : Nat) (L : List LK) : Prop where
  len : n = L.length
  cap : n ≤ c
  capm : c ≤ maxLen
  nil : A = none → n = 0
  cel : ∀ ad, A = some ad → ∀ j u, (flatL L)[j]? = some u → w.cell? (ad.add j) = some u

theorem add_plain (b o j : Nat) : (⟨b, o, none⟩ : Addr).add j = ⟨b, o + j, none⟩ := by
  unfold Addr.add
  split
  · rename_i h; simp_all
  · rfl
theorem Lks.plain {w : World} {A : Option Addr} {n c : Nat} {L : List LK} (h : Lks w A n c L) (h0 : 0 < n) : ∃ b o, A = some ⟨b, o, none⟩ ∧ b < w.heap.size := by
  cases A with
  | none => have := h.nil rfl; omega
  | some ad =>
    obtain ⟨b, o, spot⟩ := ad
    have hl : 0 < L.length := by rw [← h.len]; exact h0
    have h1 := h.cel _ rfl 0 (.int .i64 (L[0]).a) (flatL_at L 0 L[0] (by simp)).1
    have hspot : spot = none := by simpa [Addr.add] using World.cell?_spot h1
    subst hspot
    exact ⟨b, o, rfl, by simpa [Addr.add] using World.block_lt_of_cell? w _ h1⟩
theorem Lks.at_ {w : World} {b o n c : Nat} {L : List LK} (h : Lks w (some ⟨b, o, none⟩) n c L) {i : Nat} {x : LK} (hx : L[i]? = some x) :
    w.cell? ⟨b, o + i * 3, none⟩ = some (.int .i64 x.a) ∧ w.cell? ⟨b, o + i * 3 + 1, none⟩ = some (.int .i64 x.b) ∧ w.cell? ⟨b, o + i * 3 + 2, none⟩ = some (.int .i64 x.c) := by
  obtain ⟨h0, h1, h2⟩ := flatL_at L i x hx
  have e0 := h.cel _ rfl _ _ h0
  have e1 := h.cel _ rfl _ _ h1
  have e2 := h.cel _ rfl _ _ h2
  rw [add_plain] at e0 e1 e2
  exact ⟨e0, by rw [Nat.add_assoc]; exact e1, by rw [Nat.add_assoc]; exact e2⟩
theorem Lks.below {w w' : World} {A : Option Addr} {n c : Nat} {L : List LK} (h : Lks w A n c L) (hb : Below w.heap.size w w') : Lks w' A n c L :=
  ⟨h.len, h.cap, h.capm, h.nil, fun ad e j u hu => (hb.cell (World.block_lt_of_cell? w _ (h.cel ad e j u hu))).trans (h.cel ad e j u hu)⟩
theorem Lks.own {w : World} {B : Nat} {A : Option Addr} {n c : Nat} {L : List LK} (hn : n = L.length) (h : w.ownsRow B 26 3 (.slice A n c) n (flatL L)) : Lks w A n c L := by
  rcases h.2 with ⟨h1, h2⟩ | ⟨g, cap, cur, h1, h2, h3, h4, h5, h6, h7⟩
  · cases h1
    exact ⟨hn, by omega, by simp, (fun _ => by omega), (fun ad e => by cases e)⟩
  · cases h1
    refine ⟨hn, h4, h5, (fun e => by cases e), fun ad e j u hu => ?_⟩
    exact h.cells (g := g) (by injection e with e; subst e; rfl) j u hu |> fun q => by injection e with e; subst e; exact q

/-- The cells of a graph. -/
abbrev gcs (N : Int) (A : Option Addr) (m c : Nat) (a0 a1 i0 i1 : Int) : Array Value := #[.int .i64 N, .slice A m c, .int .u64 a0, .int .u64 a1, .int .u64 i0, .int .u64 i1]

structure GrX (w : World) (g b : Nat) (s : GS) (A : Option Addr) (c : Nat) (a0 a1 i0 i1 : Int) : Prop where
  blk : Has w g 50 (gcs s.N A s.L.length c a0 a1 i0 i1)
  row : w.ownsRow 0 26 3 (.slice A s.L.length c) s.L.length (flatL s.L)
  ad : A = none ∨ A = some ⟨b, 0, none⟩
  al : Bs a0 a1 s.al
  li : Bs i0 i1 s.li
  ok : s.ok
  bl : b < w.heap.size
/-- Block g is a graph; its links lie in block b. -/
def Gr (w : World) (g b : Nat) (s : GS) : Prop := ∃ A c a0 a1 i0 i1, GrX w g b s A c a0 a1 i0 i1

theorem GrX.lks {w : World} {g b : Nat} {s : GS} {A : Option Addr} {c : Nat} {a0 a1 i0 i1 : Int} (h : GrX w g b s A c a0 a1 i0 i1) : Lks w A s.L.length c s.L := .own rfl h.row
theorem own_not {W : World} {B base size k : Nat} {t e : TypeId} {cs : Array Value} {v : Value} {xs : List Value} (h : Has W B t cs) (hte : t ≠ e) (hr : W.ownsRow base e size v k xs) : v.ownBlock ≠ some B := by
  rcases hr.2 with ⟨rfl, _⟩ | ⟨g, cap, cur, rfl, _, hh, _⟩
  · simp [Value.ownBlock]
  · intro e9
    have : g = B := by simpa [Value.ownBlock] using e9
    subst this
    exact h.unlike (show Has W g e cur from hh) hte rfl
theorem Gr.grown {w w' : World} {g b : Nat} {s : GS} {row : Option Nat} (h : Gr w g b s) (hg : w.grownBy w' row) (h1 : some g ≠ row) (h2 : some b ≠ row) : Gr w' g b s := by
  obtain ⟨A, c, a0, a1, i0, i1, h⟩ := h
  refine ⟨A, c, a0, a1, i0, i1, h.blk.grown hg h1, h.row.kept hg ?_, h.ad, h.al, h.li, h.ok, Nat.lt_of_lt_of_le h.bl hg.size⟩
  rcases h.ad with rfl | rfl
  · exact .inl rfl
  · exact .inr h2
theorem Gr.below {w w' : World} {g b : Nat} {s : GS} (h : Gr w g b s) (hb : Below w.heap.size w w') : Gr w' g b s := by
  obtain ⟨A, c, a0, a1, i0, i1, h⟩ := h
  have hg : w.grownBy w' none := ⟨hb.os, hb.tape, hb.output, hb.size, fun i hi _ => hb.block i hi⟩
  exact Gr.grown ⟨A, c, a0, a1, i0, i1, h⟩ hg (by simp) (by simp)
theorem Gr.lt {w : World} {g b : Nat} {s : GS} (h : Gr w g b s) : g < w.heap.size := by
  obtain ⟨A, c, a0, a1, i0, i1, h⟩ := h
  exact h.blk.lt
theorem Gr.belowN {A B : World} {g b n : Nat} {s : GS} (h : Gr A g b s) (hb : Below n A B) (hg : g < n) (hn : b < n) : Gr B g b s := by
  obtain ⟨A', c, a0, a1, i0, i1, h⟩ := h
  have hbl : b < B.heap.size := Nat.lt_of_lt_of_le h.bl hb.size
  refine ⟨A', c, a0, a1, i0, i1, (hb.block _ hg).trans h.blk, ?_, h.ad, h.al, h.li, h.ok, hbl⟩
  refine ⟨h.row.1, ?_⟩
  rcases h.row.2 with h1 | ⟨k, cap, cur, h1, h2, h3, h4⟩
  · exact .inl h1
  · refine .inr ⟨k, cap, cur, h1, h2, ?_, h4⟩
    rcases h.ad with e | e
    · rw [e] at h1; cases h1
    · rw [e] at h1
      cases h1
      exact (hb.block _ hn).trans h3
theorem Gr.lb {w : World} {g b : Nat} {s : GS} (h : Gr w g b s) : b < w.heap.size := by
  obtain ⟨A, c, a0, a1, i0, i1, h⟩ := h
  exact h.bl
theorem Gr.ok {w : World} {g b : Nat} {s : GS} (h : Gr w g b s) : s.ok := by
  obtain ⟨A, c, a0, a1, i0, i1, h⟩ := h
  exact h.ok
theorem Gr.drewN {w : World} {g b : Nat} {s : GS} (h : Gr w g b s) (n : Nat) : Gr (w.drewN n) g b s := by
  obtain ⟨A, c, a0, a1, i0, i1, h⟩ := h
  exact ⟨A, c, a0, a1, i0, i1, h.blk, h.row, h.ad, h.al, h.li, h.ok, h.bl⟩

theorem valid_yes (g b : Nat) (s : GS) (w : World) (H : Gr w g b s) :
    Calls Try.prog 53 #[.pointer (some ⟨g, 0, none⟩)] w fun e w' => e = .returned (.bool true) ∧ w = w' := by
  obtain ⟨A, c, a0, a1, i0, i1, h⟩ := H
  have c0 : w.cell? ⟨g, 0, none⟩ = some (.int .i64 (s.N : Int)) := h.blk.cell 0
  have hn : (0 : Int) < (s.N : Int) := by have := h.ok.n1; omega
  clear h
  go_enter Try.func53, Try.ntmps53
  go_wp2
  go_ret
  exact ⟨by simp; omega, rfl⟩
theorem valid_nil (w : World) :
    Calls Try.prog 53 #[.pointer none] w fun e w' => e = .returned (.bool false) ∧ w = w' := by
  go_enter Try.func53, Try.ntmps53
  go_wp2
  go_ret
  exact ⟨rfl, rfl⟩
theorem valid_zero (g : Nat) (w : World) (c0 : w.cell? ⟨g, 0, none⟩ = some (.int .i64 0)) :
    Calls Try.prog 53 #[.pointer (some ⟨g, 0, none⟩)] w fun e w' => e = .returned (.bool false) ∧ w = w' := by
  go_enter Try.func53, Try.ntmps53
  go_wp2
  go_ret
  exact ⟨rfl, rfl⟩

theorem hasLink_yes (g b : Nat) (s : GS) (w : World) (H : Gr w g b s) (i : Nat) (hi : i < s.L.length) :
    Calls Try.prog 54 #[.pointer (some ⟨g, 0, none⟩), .int .i64 (i : Int)] w fun e w' => e = .returned (.bool true) ∧ w = w' := by
  have HH := Lib.hid H
  obtain ⟨A, c, a0, a1, i0, i1, h⟩ := H
  have c1 : w.cell? ⟨g, 1, none⟩ = some (.slice A s.L.length c) := h.blk.cell 1
  have hm := h.ok.m128
  clear h
  go_enter Try.func54, Try.ntmps54
  go_wp2_with (go_at_call 53; refine (valid_yes _ _ _ _ HH.out).mono ?_; rintro e w' ⟨rfl, rfl⟩)
  go_ret
  exact ⟨by simp; try omega, rfl⟩
theorem hasLink_no (g b : Nat) (s : GS) (w : World) (H : Gr w g b s) (i : Int) (hi : i < 0 ∨ (s.L.length : Int) ≤ i) :
    Calls Try.prog 54 #[.pointer (some ⟨g, 0, none⟩), .int .i64 i] w fun e w' => e = .returned (.bool false) ∧ w = w' := by
  have HH := Lib.hid H
  obtain ⟨A, c, a0, a1, i0, i1, h⟩ := H
  have c1 : w.cell? ⟨g, 1, none⟩ = some (.slice A s.L.length c) := h.blk.cell 1
  have hm := h.ok.m128
  clear h
  rcases hi with hi | hi
  · have hd : decide (0 ≤ i) = false := by simp; omega
    go_enter Try.func54, Try.ntmps54
    go_wp2_with (go_at_call 53; refine (valid_yes _ _ _ _ HH.out).mono ?_; rintro e w' ⟨rfl, rfl⟩)
    go_ret
    exact ⟨by simp; try omega, rfl⟩
  · have hd : decide (0 ≤ i) = true := by simp; omega
    have hd2 : decide (i < (s.L.length : Int)) = false := by simp; omega
    go_enter Try.func54, Try.ntmps54
    go_wp2_with (go_at_call 53; refine (valid_yes _ _ _ _ HH.out).mono ?_; rintro e w' ⟨rfl, rfl⟩)
    go_ret
    exact ⟨by simp; try omega, rfl⟩
theorem hasNode_yes (g b : Nat) (s : GS) (w : World) (H : Gr w g b s) (i : Nat) (hi : i < s.N) :
    Calls Try.prog 56 #[.pointer (some ⟨g, 0, none⟩), .int .i64 (i : Int)] w fun e w' => e = .returned (.bool true) ∧ w = w' := by
  have HH := Lib.hid H
  obtain ⟨A, c, a0, a1, i0, i1, h⟩ := H
  have c0 : w.cell? ⟨g, 0, none⟩ = some (.int .i64 (s.N : Int)) := h.blk.cell 0
  have hm := h.ok.n32
  clear h
  go_enter Try.func56, Try.ntmps56
  go_wp2_with (go_at_call 53; refine (valid_yes _ _ _ _ HH.out).mono ?_; rintro e w' ⟨rfl, rfl⟩)
  go_ret
  exact ⟨by simp; try omega, rfl⟩
theorem hasNode_no (g b : Nat) (s : GS) (w : World) (H : Gr w g b s) (i : Int) (hi : i < 0 ∨ (s.N : Int) ≤ i) :
    Calls Try.prog 56 #[.pointer (some ⟨g, 0, none⟩), .int .i64 i] w fun e w' => e = .returned (.bool false) ∧ w = w' := by
  have HH := Lib.hid H
  obtain ⟨A, c, a0, a1, i0, i1, h⟩ := H
  have c0 : w.cell? ⟨g, 0, none⟩ = some (.int .i64 (s.N : Int)) := h.blk.cell 0
  have hm := h.ok.n32
  clear h
  rcases hi with hi | hi
  · have hd : decide (0 ≤ i) = false := by simp; omega
    go_enter Try.func56, Try.ntmps56
    go_wp2_with (go_at_call 53; refine (valid_yes _ _ _ _ HH.out).mono ?_; rintro e w' ⟨rfl, rfl⟩)
    go_ret
    exact ⟨by simp; try omega, rfl⟩
  · have hd : decide (0 ≤ i) = true := by simp; omega
    have hd2 : decide (i < (s.N : Int)) = false := by simp; omega
    go_enter Try.func56, Try.ntmps56
    go_wp2_with (go_at_call 53; refine (valid_yes _ _ _ _ HH.out).mono ?_; rintro e w' ⟨rfl, rfl⟩)
    go_ret
    exact ⟨by simp; try omega, rfl⟩

theorem GrX.alAt {w : World} {g b : Nat} {s : GS} {A : Option Addr} {c : Nat} {a0 a1 i0 i1 : Int} (h : GrX w g b s A c a0 a1 i0 i1) : BsAt w g 2 s.al := ⟨a0, a1, h.blk.cell 2, h.blk.cell 3, h.al⟩
theorem GrX.liAt {w : World} {g b : Nat} {s : GS} {A : Option Addr} {c : Nat} {a0 a1 i0 i1 : Int} (h : GrX w g b s A c a0 a1 i0 i1) : BsAt w g 4 s.li := ⟨i0, i1, h.blk.cell 4, h.blk.cell 5, h.li⟩

theorem alive_any (g b : Nat) (s : GS) (w : World) (H : Gr w g b s) (n : Int) :
    Calls Try.prog 23 #[.pointer (some ⟨g, 0, none⟩), .int .i64 n] w fun e w' => e = .returned (.bool (s.alive n)) ∧ w = w' := by
  have HH := Lib.hid H
  obtain ⟨A, c, a0, a1, i0, i1, h⟩ := H
  have hA := Lib.hid h.alAt
  have hm := h.ok.n32
  by_cases hn : n < 0 ∨ (s.N : Int) ≤ n
  · have hr : s.alive n = false := by
      unfold GS.alive
      rcases hn with hn | hn
      · simp; intro h9; omega
      · have := h.ok.alN n.toNat
        simp
        intro h9
        rw [← Bool.not_eq_true]
        intro h8
        have := this h8
        omega
    have HR := Lib.hid hr
    clear h hr
    go_enter Try.func23, Try.ntmps23
    go_wp2_with (go_at_call 56; refine (hasNode_no _ _ _ _ HH.out _ hn).mono ?_; rintro e w' ⟨rfl, rfl⟩)
    go_ret
    exact ⟨by rw [HR.out]; rfl, rfl⟩
  · obtain ⟨k, rfl⟩ : ∃ k : Nat, n = k := ⟨n.toNat, by omega⟩
    have hk : k < s.N := by omega
    have hr : s.alive (k : Int) = s.al k := by unfold GS.alive; simp
    have HR := Lib.hid hr
    clear h hr hn
    go_enter Try.func23, Try.ntmps23
    go_wp2_with (first
      | (go_at_call 56; refine (hasNode_yes _ _ _ _ HH.out k hk).mono ?_; rintro e w' ⟨rfl, rfl⟩)
      | (go_at_call 57; refine (has_any _ _ _ k (by omega) _ hA.out).mono ?_; rintro e w' ⟨rfl, rfl⟩))
    go_ret
    exact ⟨by rw [HR.out]; simp, rfl⟩

end Go.Proofs.Ytfmjcjkifjndgaa
