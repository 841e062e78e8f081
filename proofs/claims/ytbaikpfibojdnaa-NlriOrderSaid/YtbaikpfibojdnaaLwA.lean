/- Writers by the list of their blocks; the examples of the chapter. -/
import Derived.Test.YtbaikpfibojdnaaWrG
import Derived.Test.YtbaikpfibojdnaaRdF
import Derived.Laws.BytesArg
namespace Go.Proofs.Ytbaikpfibojdnaa
open Go.RowKit Go.Maps
set_option maxRecDepth 100000
set_option linter.unusedVariables false

/-- A writer at block g whose blocks are these. -/
def WrL (w : World) (l : List Nat) (g : Nat) (s : WS) : Prop := ∃ A c b n, l = g :: b :: blkOf A ∧ Wr w g A c b n s

/-- Nothing but what is listed has turned; what is listed now was listed, or is new. -/
def Next (w : World) (l : List Nat) (w' : World) (l' : List Nat) : Prop := Turn l w w' ∧ ∀ k ∈ l', k ∈ l ∨ w.heap.size ≤ k

theorem WrL.turn {w w' : World} {l l2 : List Nat} {g : Nat} {s : WS} (h : WrL w l g s) (ht : Turn l2 w w') (hn : ∀ k ∈ l, k ∉ l2) : WrL w' l g s := by
  obtain ⟨A, c, b, n, rfl, hw⟩ := h
  exact ⟨A, c, b, n, rfl, hw.turn ht hn⟩
theorem WrL.below {w w' : World} {l : List Nat} {g : Nat} {s : WS} (h : WrL w l g s) (hb : Below w.heap.size w w') : WrL w' l g s := h.turn (turn_below hb []) (by simp)
theorem WrL.lt {w : World} {l : List Nat} {g : Nat} {s : WS} (h : WrL w l g s) : ∀ k ∈ l, k < w.heap.size := by
  obtain ⟨A, c, b, n, rfl, hw⟩ := h
  exact hw.lt
theorem Wrote.next {w : World} {g : Nat} {A : Option Addr} {b n : Nat} {s2 : WS} {r : Int} {e : Ending} {w' : World} (h : Wrote w g A b n s2 r e w') : e = .returned (.int .i64 r) ∧ ∃ l', WrL w' l' g s2 ∧ Next w (g :: b :: blkOf A) w' l' := by
  obtain ⟨A2, c2, he, hw, ht, hn⟩ := h
  refine ⟨he, _, ⟨A2, c2, b, n, rfl, hw⟩, ht, fun k hk => ?_⟩
  simp only [List.mem_cons] at hk ⊢
  rcases hk with hk | hk | hk
  · exact .inl (.inl hk)
  · exact .inl (.inr (.inl hk))
  · rcases hn k hk with h1 | h1
    · exact .inl (.inr (.inr h1))
    · exact .inr h1
theorem Wrote2.next {w : World} {g : Nat} {A : Option Addr} {b : Nat} {s2 : WS} {x r : Int} {e : Ending} {w' : World} (h : Wrote2 w g A b s2 x r e w') : e = .returned (.tuple #[.int .i64 x, .int .i64 r]) ∧ ∃ l', WrL w' l' g s2 ∧ Next w (g :: b :: blkOf A) w' l' := by
  obtain ⟨A2, c2, n2, he, hw, ht, hn⟩ := h
  refine ⟨he, _, ⟨A2, c2, b, n2, rfl, hw⟩, ht, fun k hk => ?_⟩
  simp only [List.mem_cons] at hk ⊢
  rcases hk with hk | hk | hk
  · exact .inl (.inl hk)
  · exact .inl (.inr (.inl hk))
  · rcases hn k hk with h1 | h1
    · exact .inl (.inr (.inr h1))
    · exact .inr h1

theorem Next.refl (w : World) (l : List Nat) : Next w l w l := ⟨Turn.refl _ _, fun _ h => .inl h⟩
theorem Next.trans {a b c : World} {l m n : List Nat} (h : Next a l b m) (k : Next b m c n) : Next a l c n :=
  ⟨h.1.then_ k.1 h.2, fun x hx => by
    rcases k.2 x hx with h1 | h1
    · exact h.2 x h1
    · exact .inr (Nat.le_trans h.1.size h1)⟩
theorem Next.below {a b : World} {l m : List Nat} {B : Nat} (h : Next a l b m) (hl : ∀ k ∈ l, B ≤ k) (hB : B ≤ a.heap.size) : Below B a b ∧ (∀ k ∈ m, B ≤ k) :=
  ⟨h.1.below hl hB, fun k hk => by
    rcases h.2 k hk with h1 | h1
    · exact hl k h1
    · omega⟩

theorem wnewL (lim : Nat) (h : lim ≤ 65536) (w : World) :
    Calls Try.prog 12 #[.int .i64 lim] w fun e w' => ∃ g l, e = .returned (.tuple #[.pointer (some ⟨g, 0, none⟩), .int .i64 0]) ∧ WrL w' l g ⟨lim, [], []⟩ ∧ (∀ k ∈ l, w.heap.size ≤ k) ∧ Below w.heap.size w w' := by
  refine (wnew lim h w).mono ?_
  rintro e w' ⟨g, b, rfl, hg, hb, hw, hB⟩
  exact ⟨g, _, rfl, ⟨none, 0, b, 0, rfl, hw⟩, by simp [blkOf]; omega, hB⟩

theorem wU1L (g : Nat) (l : List Nat) (s : WS) (w : World) (H : WrL w l g s) (v : Int) (h0 : 0 ≤ v) (h1 : v < 18446744073709551616) :
    Calls Try.prog 47 #[.pointer (some ⟨g, 0, none⟩), .int .u64 v] w fun e w' => e = .returned (.int .i64 (s.put v 1).1) ∧ ∃ l', WrL w' l' g (s.put v 1).2 ∧ Next w l w' l' := by
  obtain ⟨A, c, b, n, rfl, hw⟩ := H
  exact (wU1 _ _ _ _ _ _ _ hw v h0 h1).mono fun _ _ h => h.next

theorem wU2L (g : Nat) (l : List Nat) (s : WS) (w : World) (H : WrL w l g s) (v : Int) (h0 : 0 ≤ v) (h1 : v < 18446744073709551616) :
    Calls Try.prog 45 #[.pointer (some ⟨g, 0, none⟩), .int .u64 v] w fun e w' => e = .returned (.int .i64 (s.put v 2).1) ∧ ∃ l', WrL w' l' g (s.put v 2).2 ∧ Next w l w' l' := by
  obtain ⟨A, c, b, n, rfl, hw⟩ := H
  exact (wU2 _ _ _ _ _ _ _ hw v h0 h1).mono fun _ _ h => h.next

theorem wU3L (g : Nat) (l : List Nat) (s : WS) (w : World) (H : WrL w l g s) (v : Int) (h0 : 0 ≤ v) (h1 : v < 18446744073709551616) :
    Calls Try.prog 46 #[.pointer (some ⟨g, 0, none⟩), .int .u64 v] w fun e w' => e = .returned (.int .i64 (s.put v 3).1) ∧ ∃ l', WrL w' l' g (s.put v 3).2 ∧ Next w l w' l' := by
  obtain ⟨A, c, b, n, rfl, hw⟩ := H
  exact (wU3 _ _ _ _ _ _ _ hw v h0 h1).mono fun _ _ h => h.next

theorem wU4L (g : Nat) (l : List Nat) (s : WS) (w : World) (H : WrL w l g s) (v : Int) (h0 : 0 ≤ v) (h1 : v < 18446744073709551616) :
    Calls Try.prog 53 #[.pointer (some ⟨g, 0, none⟩), .int .u64 v] w fun e w' => e = .returned (.int .i64 (s.put v 4).1) ∧ ∃ l', WrL w' l' g (s.put v 4).2 ∧ Next w l w' l' := by
  obtain ⟨A, c, b, n, rfl, hw⟩ := H
  exact (wU4 _ _ _ _ _ _ _ hw v h0 h1).mono fun _ _ h => h.next

theorem wU6L (g : Nat) (l : List Nat) (s : WS) (w : World) (H : WrL w l g s) (v : Int) (h0 : 0 ≤ v) (h1 : v < 18446744073709551616) :
    Calls Try.prog 54 #[.pointer (some ⟨g, 0, none⟩), .int .u64 v] w fun e w' => e = .returned (.int .i64 (s.put v 6).1) ∧ ∃ l', WrL w' l' g (s.put v 6).2 ∧ Next w l w' l' := by
  obtain ⟨A, c, b, n, rfl, hw⟩ := H
  exact (wU6 _ _ _ _ _ _ _ hw v h0 h1).mono fun _ _ h => h.next

theorem wU8L (g : Nat) (l : List Nat) (s : WS) (w : World) (H : WrL w l g s) (v : Int) (h0 : 0 ≤ v) (h1 : v < 18446744073709551616) :
    Calls Try.prog 55 #[.pointer (some ⟨g, 0, none⟩), .int .u64 v] w fun e w' => e = .returned (.int .i64 (s.put v 8).1) ∧ ∃ l', WrL w' l' g (s.put v 8).2 ∧ Next w l w' l' := by
  obtain ⟨A, c, b, n, rfl, hw⟩ := H
  exact (wU8 _ _ _ _ _ _ _ hw v h0 h1).mono fun _ _ h => h.next

theorem wmarkL (g : Nat) (l : List Nat) (s : WS) (w : World) (H : WrL w l g s) :
    Calls Try.prog 21 #[.pointer (some ⟨g, 0, none⟩)] w fun e w' => e = .returned (.tuple #[.int .i64 s.mark.1, .int .i64 s.mark.2.1]) ∧ ∃ l', WrL w' l' g s.mark.2.2 ∧ Next w l w' l' := by
  obtain ⟨A, c, b, n, rfl, hw⟩ := H
  exact (wmark _ _ _ _ _ _ _ hw).mono fun _ _ h => h.next

theorem wpatchL (g : Nat) (l : List Nat) (s : WS) (w : World) (H : WrL w l g s) (m : Int) (hwf : (Lit.int .i64 m).wf = true) :
    Calls Try.prog 23 #[.pointer (some ⟨g, 0, none⟩), .int .i64 m] w fun e w' => e = .returned (.int .i64 (s.patch m).1) ∧ ∃ l', WrL w' l' g (s.patch m).2 ∧ Next w l w' l' := by
  obtain ⟨A, c, b, n, rfl, hw⟩ := H
  exact (wpatch _ _ _ _ _ _ _ hw m hwf).mono fun _ _ h => h.next

theorem woutL (g : Nat) (l : List Nat) (s : WS) (w : World) (H : WrL w l g s) :
    Calls Try.prog 25 #[.pointer (some ⟨g, 0, none⟩)] w fun e w' => (∃ v, e = .returned v ∧ Copied w' w.heap.size v s.out) ∧ Below w.heap.size w w' := by
  obtain ⟨A, c, b, n, rfl, hw⟩ := H
  exact wout _ _ _ _ _ _ _ hw

theorem wlenL (g : Nat) (l : List Nat) (s : WS) (w : World) (H : WrL w l g s) :
    Calls Try.prog 26 #[.pointer (some ⟨g, 0, none⟩)] w fun e w' => e = .returned (.int .i64 (s.out.length : Int)) ∧ w = w' := by
  obtain ⟨A, c, b, n, rfl, hw⟩ := H
  exact wlen _ _ _ _ _ _ _ hw

/-- A copy as a string. -/
theorem copied_string {w : World} {base : Nat} {v : Value} {xs : List Int} (h : Copied w base v xs) : (convert 33 9 v).run Try.prog w = .ok (.string (strOfNums xs)) w := by
  rcases h with ⟨rfl, rfl⟩ | ⟨h, c, rfl, hr, _⟩
  · exact run_convert_bytes_nil w 33 5 Try.underlying33 Try.underlying5 0 0 9 Try.underlying9
  · exact run_convert_bytes_arg w 33 5 Try.underlying33 Try.underlying5 h 0 xs.length c xs rfl (fun i hi => by
      rw [Nat.zero_add, hr.cell i hi]
      simp [List.getD, hi]) 9 Try.underlying9

theorem p16 : (WS.put ⟨100, [], []⟩ 258 2) = (0, ⟨100, [1, 2], []⟩) := by simp [WS.put, be]
theorem p24 : (WS.put ⟨100, [1, 2], []⟩ 1 3) = (0, ⟨100, [1, 2, 0, 0, 1], []⟩) := by simp [WS.put, be]
theorem p8 : (WS.put ⟨100, [1, 2, 0, 0, 1], []⟩ 256 1) = (2, ⟨100, [1, 2, 0, 0, 1], []⟩) := by simp [WS.put]

theorem t16 : (RS.take ⟨[1, 2, 3], 0, 0, 0, 0⟩ 2) = (some [1, 2], ⟨[1, 2, 3], 0, 2, 0, 0⟩) := by simp [RS.take]
theorem t16' : (RS.take ⟨[1, 2, 3], 0, 2, 0, 0⟩ 2) = (none, ⟨[1, 2, 3], 0, 2, 4, 2⟩) := by simp [RS.take]
theorem t8' : (RS.take ⟨[1, 2, 3], 0, 2, 4, 2⟩ 1) = (none, ⟨[1, 2, 3], 0, 2, 4, 2⟩) := by simp [RS.take]

set_option maxHeartbeats 2000000 in
theorem lives_any (w : World) :
    Calls Try.prog 10 #[] w fun e w' => e = .returned (.bool true) ∧ Below w.heap.size w w' := by
  go_enter Try.func10, Try.ntmps10
  go_wp2_with fail
  refine (wnewL 100 (by omega) _).mono ?_
  rintro e w1 ⟨g, l, rfl, hw, hl, hb⟩
  have HW1 := Lib.hid hw
  have HN : Hid ((∀ k ∈ l, w.heap.size ≤ k) ∧ Below w.heap.size w w1) := Lib.hid ⟨hl, hb⟩
  clear hw hl hb
  go_wp2_with fail
  refine (wU2L g l _ _ HW1.out 258 (by omega) (by omega)).mono ?_
  rw [p16]
  rintro e w2 ⟨rfl, l2, hw, hn⟩
  have HW2 := Lib.hid hw
  have HN2 : Hid ((∀ k ∈ l2, w.heap.size ≤ k) ∧ Below w.heap.size w w2) := Lib.hid ⟨(hn.below HN.out.1 HN.out.2.size).2, HN.out.2.trans (hn.below HN.out.1 HN.out.2.size).1⟩
  clear hw hn HW1 HN
  go_wp2_with fail
  refine (wU3L g l2 _ _ HW2.out 1 (by omega) (by omega)).mono ?_
  rw [p24]
  rintro e w3 ⟨rfl, l3, hw, hn⟩
  have HW3 := Lib.hid hw
  have HN3 : Hid ((∀ k ∈ l3, w.heap.size ≤ k) ∧ Below w.heap.size w w3) := Lib.hid ⟨(hn.below HN2.out.1 HN2.out.2.size).2, HN2.out.2.trans (hn.below HN2.out.1 HN2.out.2.size).1⟩
  clear hw hn HW2 HN2
  go_wp2_with fail
  refine (wU1L g l3 _ _ HW3.out 256 (by omega) (by omega)).mono ?_
  rw [p8]
  rintro e w4 ⟨rfl, l4, hw, hn⟩
  have HW4 := Lib.hid hw
  have HN4 : Hid ((∀ k ∈ l4, w.heap.size ≤ k) ∧ Below w.heap.size w w4) := Lib.hid ⟨(hn.below HN3.out.1 HN3.out.2.size).2, HN3.out.2.trans (hn.below HN3.out.1 HN3.out.2.size).1⟩
  clear hw hn HW3 HN3
  go_wp2_with fail
  have hall : Below w4.heap.size w4 (w4.alloc (.cells #[.int .u8 1, .int .u8 2, .int .u8 3] 5)) := (Below.refl _ w4).alloc (Nat.le_refl _) _
  have hsl : Sl (w4.alloc (.cells #[.int .u8 1, .int .u8 2, .int .u8 3] 5)) w4.heap.size 0 [1, 2, 3] := by
    have hnew := Has.new w4 5 #[.int .u8 1, .int .u8 2, .int .u8 3]
    intro j hj
    rw [Nat.zero_add, hnew.cell j]
    simp at hj
    have : j = 0 ∨ j = 1 ∨ j = 2 := by omega
    rcases this with rfl | rfl | rfl <;> rfl
  have HB5 : Hid (Below w.heap.size w (w4.alloc (.cells #[.int .u8 1, .int .u8 2, .int .u8 3] 5))) := Lib.hid (HN4.out.2.trans (hall.mono HN4.out.2.size))
  have HW5 := Lib.hid (HW4.out.below hall)
  refine (rnew ⟨w4.heap.size, 0, none⟩ 3 3 [1, 2, 3] rfl (by omega) _ hsl.at_ (by simp)).mono ?_
  rintro e w6 ⟨gr, hr, cr, rfl, hgr, hhr, hrd, hb6⟩
  have hs5 := HB5.out.size
  have HB6 : Hid (Below w.heap.size w w6) := Lib.hid (HB5.out.trans (hb6.mono HB5.out.size))
  have HW6 := Lib.hid (HW5.out.below hb6)
  have HR6 := Lib.hid hrd
  have HG : Hid (w.heap.size ≤ gr) := Lib.hid (Nat.le_trans HB5.out.size hgr)
  clear hsl hall hgr hhr hrd hb6 hs5 HW4 HN4 HB5 HW5
  go_wp2_with fail
  refine (woutL g l4 _ _ HW6.out).mono ?_
  rintro e w7 ⟨⟨v, rfl, hcp⟩, hb7⟩
  have HR7 := Lib.hid (HR6.out.below hb7)
  have HB7 : Hid (Below w.heap.size w w7) := Lib.hid (HB6.out.trans (hb7.mono HB6.out.size))
  have hconv := copied_string hcp
  have hstr : (.ok (.string (strOfNums [1, 2, 0, 0, 1])) w7 : Result Value) = .ok (.string ⟨#[1, 2, 0, 0, 1]⟩) w7 := rfl
  rw [hstr] at hconv
  clear hcp hb7 hstr HR6 HB6 HW6
  go_wp2_with fail
  refine (rU2 _ _ _ ⟨[1, 2, 3], 0, 0, 0, 0⟩ _ HR7.out).mono ?_
  unfold RS.got
  rw [show ((2 : Nat) : Int) = 2 from rfl, t16]
  rintro e w8 ⟨rfl, hrd, ho⟩
  have HR8 := Lib.hid hrd
  have HB8 : Hid (Below w.heap.size w w8) := Lib.hid (below_only HB7.out ho HG.out HB7.out.size)
  clear hrd ho HR7 HB7 hconv
  go_wp2_with fail
  refine (rU2 _ _ _ ⟨[1, 2, 3], 0, 2, 0, 0⟩ _ HR8.out).mono ?_
  unfold RS.got
  rw [show ((2 : Nat) : Int) = 2 from rfl, t16']
  rintro e w9 ⟨rfl, hrd, ho⟩
  have HR9 := Lib.hid hrd
  have HB9 : Hid (Below w.heap.size w w9) := Lib.hid (below_only HB8.out ho HG.out HB8.out.size)
  clear hrd ho HR8 HB8
  go_wp2_with fail
  refine (rU1 _ _ _ ⟨[1, 2, 3], 0, 2, 4, 2⟩ _ HR9.out).mono ?_
  unfold RS.got
  rw [show ((1 : Nat) : Int) = 1 from rfl, t8']
  rintro e w10 ⟨rfl, hrd, ho⟩
  have HR10 := Lib.hid hrd
  have HB10 : Hid (Below w.heap.size w w10) := Lib.hid (below_only HB9.out ho HG.out HB9.out.size)
  clear hrd ho HR9 HB9
  go_wp2_with fail
  refine (rfault _ _ _ _ _ _ _ _ _ HR10.out).mono ?_
  rintro e w11 ⟨rfl, rfl⟩
  have HR11 := Lib.hid (HR10.out.below ((Below.refl _ w10).alloc (Nat.le_refl _) (.cells #[.int .i64 4, .int .i64 2] 66)))
  have HB11 : Hid (Below w.heap.size w (w10.alloc (.cells #[.int .i64 4, .int .i64 2] 66))) := Lib.hid (HB10.out.alloc HB10.out.size _)
  clear HR10 HB10
  go_wp2_with fail
  refine (rleftOf _ _ _ _ _ _ _ _ _ HR11.out).mono ?_
  rintro e w12 ⟨rfl, nq, rfl⟩
  have HB12 : Hid (Below w.heap.size w ((w10.alloc (.cells #[.int .i64 4, .int .i64 2] 66)).drewN nq)) := Lib.hid ⟨HB11.out.os, HB11.out.tape, HB11.out.output, HB11.out.size, HB11.out.block⟩
  clear HR11 HB11
  go_wp2_with fail
  go_ret
  exact ⟨rfl, HB12.out⟩

end Go.Proofs.Ytbaikpfibojdnaa
