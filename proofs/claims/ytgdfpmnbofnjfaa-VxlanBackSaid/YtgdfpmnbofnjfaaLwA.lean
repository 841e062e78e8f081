/- Writers by the list of their blocks; the examples of the chapter. -/
import Derived.Test.YtgdfpmnbofnjfaaWrG
import Derived.Test.YtgdfpmnbofnjfaaRdF
import Derived.Laws.BytesArg
namespace Go.Proofs.Ytgdfpmnbofnjfaa
open Go.RowKit Go.Maps
set_option maxRecDepth 100000
set_option linter.unusedVariables false

/-- A writer at block g whose blocks are these. -/
def WrL (w : World) (l : List Nat) (g : Nat) (s : WS) : Prop := ∃ A c b n, l = g :: b :: blkOf A ∧ Wr w g A c b n s

/-- Nothing but what is listed has turned; what is listed now was listed, or is new. -/
def Next (w : World) (l : List Nat) (w' : World) (l' : List Nat) : Prop := Turn l w w' ∧ ∀ k ∈ l', k ∈ l ∨ w.heap.size ≤ k

theorem WrL.turn {w w' : World} {l l2 : List Nat} {g : Nat} {s : WS} (h : WrL w l g s) (ht : Turn l2 w w') (hn : ∀ k ∈ l, k ∉ l2) : WrL w' l g s := by
  obtain ⟨A, c, b, n, rfl, hw⟩ := h
  exact ⟨A, c, b, n, rfl, hw.turn ht hn⟩
theorem WrL.below {w w' : World} {l : List Nat} {g : Nat} {s : WS} (h : WrL w l g s) (hb : Below w.heap.size w w') : WrL w' l g s := h.turn (turn_below hb []) (by simp)
theorem WrL.lt {w : World} {l : List Nat} {g : Nat} {s : WS} (h : WrL w l g s) : ∀ k ∈ l, k < w.heap.size := by
  obtain ⟨A, c, b, n, rfl, hw⟩ := h
  exact hw.lt
theorem Wrote.next {w : World} {g : Nat} {A : Option Addr} {b n : Nat} {s2 : WS} {r : Int} {e : Ending} {w' : World} (h : Wrote w g A b n s2 r e w') : e = .returned (.int .i64 r) ∧ ∃ l', WrL w' l' g s2 ∧ Next w (g :: b :: blkOf A) w' l' := by
  obtain ⟨A2, c2, he, hw, ht, hn⟩ := h
  refine ⟨he, _, ⟨A2, c2, b, n, rfl, hw⟩, ht, fun k hk => ?_⟩
  simp only [List.mem_cons] at hk ⊢
  rcases hk with hk | hk | hk
  · exact .inl (.inl hk)
  · exact .inl (.inr (.inl hk))
  · rcases hn k hk with h1 | h1
    · exact .inl (.inr (.inr h1))
    · exact .inr h1
theorem Wrote2.next {w : World} {g : Nat} {A : Option Addr} {b : Nat} {s2 : WS} {x r : Int} {e : Ending} {w' : World} (h : Wrote2 w g A b s2 x r e w') : e = .returned (.tuple #[.int .i64 x, .int .i64 r]) ∧ ∃ l', WrL w' l' g s2 ∧ Next w (g :: b :: blkOf A) w' l' := by
  obtain ⟨A2, c2, n2, he, hw, ht, hn⟩ := h
  refine ⟨he, _, ⟨A2, c2, b, n2, rfl, hw⟩, ht, fun k hk => ?_⟩
  simp only [List.mem_cons] at hk ⊢
  rcases hk with hk | hk | hk
  · exact .inl (.inl hk)
  · exact .inl (.inr (.inl hk))
  · rcases hn k hk with h1 | h1
    · exact .inl (.inr (.inr h1))
    · exact .inr h1

theorem Next.refl (w : World) (l : List Nat) : Next w l w l := ⟨Turn.refl _ _, fun _ h => .inl h⟩
theorem Next.trans {a b c : World} {l m n : List Nat} (h : Next a l b m) (k : Next b m c n) : Next a l c n :=
  ⟨h.1.then_ k.1 h.2, fun x hx => by
    rcases k.2 x hx with h1 | h1
    · exact h.2 x h1
    · exact .inr (Nat.le_trans h.1.size h1)⟩
theorem Next.below {a b : World} {l m : List Nat} {B : Nat} (h : Next a l b m) (hl : ∀ k ∈ l, B ≤ k) (hB : B ≤ a.heap.size) : Below B a b ∧ (∀ k ∈ m, B ≤ k) :=
  ⟨h.1.below hl hB, fun k hk => by
    rcases h.2 k hk with h1 | h1
    · exact hl k h1
    · omega⟩

theorem wnewL (lim : Nat) (h : lim ≤ 65536) (w : World) :
    Calls Try.prog 51 #[.int .i64 lim] w fun e w' => ∃ g l, e = .returned (.tuple #[.pointer (some ⟨g, 0, none⟩), .int .i64 0]) ∧ WrL w' l g ⟨lim, [], []⟩ ∧ (∀ k ∈ l, w.heap.size ≤ k) ∧ Below w.heap.size w w' := by
  refine (wnew lim h w).mono ?_
  rintro e w' ⟨g, b, rfl, hg, hb, hw, hB⟩
  exact ⟨g, _, rfl, ⟨none, 0, b, 0, rfl, hw⟩, by simp [blkOf]; omega, hB⟩

theorem wU1L (g : Nat) (l : List Nat) (s : WS) (w : World) (H : WrL w l g s) (v : Int) (h0 : 0 ≤ v) (h1 : v < 18446744073709551616) :
    Calls Try.prog 65 #[.pointer (some ⟨g, 0, none⟩), .int .u64 v] w fun e w' => e = .returned (.int .i64 (s.put v 1).1) ∧ ∃ l', WrL w' l' g (s.put v 1).2 ∧ Next w l w' l' := by
  obtain ⟨A, c, b, n, rfl, hw⟩ := H
  exact (wU1 _ _ _ _ _ _ _ hw v h0 h1).mono fun _ _ h => h.next

theorem wU2L (g : Nat) (l : List Nat) (s : WS) (w : World) (H : WrL w l g s) (v : Int) (h0 : 0 ≤ v) (h1 : v < 18446744073709551616) :
    Calls Try.prog 53 #[.pointer (some ⟨g, 0, none⟩), .int .u64 v] w fun e w' => e = .returned (.int .i64 (s.put v 2).1) ∧ ∃ l', WrL w' l' g (s.put v 2).2 ∧ Next w l w' l' := by
  obtain ⟨A, c, b, n, rfl, hw⟩ := H
  exact (wU2 _ _ _ _ _ _ _ hw v h0 h1).mono fun _ _ h => h.next

theorem wU3L (g : Nat) (l : List Nat) (s : WS) (w : World) (H : WrL w l g s) (v : Int) (h0 : 0 ≤ v) (h1 : v < 18446744073709551616) :
    Calls Try.prog 77 #[.pointer (some ⟨g, 0, none⟩), .int .u64 v] w fun e w' => e = .returned (.int .i64 (s.put v 3).1) ∧ ∃ l', WrL w' l' g (s.put v 3).2 ∧ Next w l w' l' := by
  obtain ⟨A, c, b, n, rfl, hw⟩ := H
  exact (wU3 _ _ _ _ _ _ _ hw v h0 h1).mono fun _ _ h => h.next

theorem wU4L (g : Nat) (l : List Nat) (s : WS) (w : World) (H : WrL w l g s) (v : Int) (h0 : 0 ≤ v) (h1 : v < 18446744073709551616) :
    Calls Try.prog 64 #[.pointer (some ⟨g, 0, none⟩), .int .u64 v] w fun e w' => e = .returned (.int .i64 (s.put v 4).1) ∧ ∃ l', WrL w' l' g (s.put v 4).2 ∧ Next w l w' l' := by
  obtain ⟨A, c, b, n, rfl, hw⟩ := H
  exact (wU4 _ _ _ _ _ _ _ hw v h0 h1).mono fun _ _ h => h.next

theorem wU6L (g : Nat) (l : List Nat) (s : WS) (w : World) (H : WrL w l g s) (v : Int) (h0 : 0 ≤ v) (h1 : v < 18446744073709551616) :
    Calls Try.prog 52 #[.pointer (some ⟨g, 0, none⟩), .int .u64 v] w fun e w' => e = .returned (.int .i64 (s.put v 6).1) ∧ ∃ l', WrL w' l' g (s.put v 6).2 ∧ Next w l w' l' := by
  obtain ⟨A, c, b, n, rfl, hw⟩ := H
  exact (wU6 _ _ _ _ _ _ _ hw v h0 h1).mono fun _ _ h => h.next

theorem wU8L (g : Nat) (l : List Nat) (s : WS) (w : World) (H : WrL w l g s) (v : Int) (h0 : 0 ≤ v) (h1 : v < 18446744073709551616) :
    Calls Try.prog 54 #[.pointer (some ⟨g, 0, none⟩), .int .u64 v] w fun e w' => e = .returned (.int .i64 (s.put v 8).1) ∧ ∃ l', WrL w' l' g (s.put v 8).2 ∧ Next w l w' l' := by
  obtain ⟨A, c, b, n, rfl, hw⟩ := H
  exact (wU8 _ _ _ _ _ _ _ hw v h0 h1).mono fun _ _ h => h.next

theorem woutL (g : Nat) (l : List Nat) (s : WS) (w : World) (H : WrL w l g s) :
    Calls Try.prog 55 #[.pointer (some ⟨g, 0, none⟩)] w fun e w' => (∃ v, e = .returned v ∧ Copied w' w.heap.size v s.out) ∧ Below w.heap.size w w' := by
  obtain ⟨A, c, b, n, rfl, hw⟩ := H
  exact wout _ _ _ _ _ _ _ hw

/-- A copy as a string. -/
theorem copied_string {w : World} {base : Nat} {v : Value} {xs : List Int} (h : Copied w base v xs) : (convert 40 9 v).run Try.prog w = .ok (.string (strOfNums xs)) w := by
  rcases h with ⟨rfl, rfl⟩ | ⟨h, c, rfl, hr, _⟩
  · exact run_convert_bytes_nil w 40 5 Try.underlying40 Try.underlying5 0 0 9 Try.underlying9
  · exact run_convert_bytes_arg w 40 5 Try.underlying40 Try.underlying5 h 0 xs.length c xs rfl (fun i hi => by
      rw [Nat.zero_add, hr.cell i hi]
      simp [List.getD, hi]) 9 Try.underlying9

theorem p16 : (WS.put ⟨100, [], []⟩ 258 2) = (0, ⟨100, [1, 2], []⟩) := by simp [WS.put, be]
theorem p24 : (WS.put ⟨100, [1, 2], []⟩ 1 3) = (0, ⟨100, [1, 2, 0, 0, 1], []⟩) := by simp [WS.put, be]
theorem p8 : (WS.put ⟨100, [1, 2, 0, 0, 1], []⟩ 256 1) = (2, ⟨100, [1, 2, 0, 0, 1], []⟩) := by simp [WS.put]

theorem t16 : (RS.take ⟨[1, 2, 3], 0, 0, 0, 0⟩ 2) = (some [1, 2], ⟨[1, 2, 3], 0, 2, 0, 0⟩) := by simp [RS.take]
theorem t16' : (RS.take ⟨[1, 2, 3], 0, 2, 0, 0⟩ 2) = (none, ⟨[1, 2, 3], 0, 2, 4, 2⟩) := by simp [RS.take]
theorem t8' : (RS.take ⟨[1, 2, 3], 0, 2, 4, 2⟩ 1) = (none, ⟨[1, 2, 3], 0, 2, 4, 2⟩) := by simp [RS.take]

end Go.Proofs.Ytgdfpmnbofnjfaa
