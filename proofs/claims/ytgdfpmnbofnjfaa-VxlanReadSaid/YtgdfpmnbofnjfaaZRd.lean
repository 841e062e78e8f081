/- Readers: the words for their memory, and the contracts of their small functions. -/
import Derived.Test.YtgdfpmnbofnjfaaRows
import Derived.WalkKit
import Derived.ProofKit
import Derived.OpenShut
import Derived.Lib.Hide
import Derived.BigQuiet
import Derived.Deep.QuietTactic
import Derived.Deep.Draws
import Derived.Deep.AppendLies
import Derived.RegionTactic
import Derived.ChangeAlike
import Derived.OwnWalk
import Derived.Below
import Derived.WalkSpells
import Derived.Laws.Rows
import Derived.Outline
namespace Go.Proofs.Ytgdfpmnbofnjfaa
open Go.RowKit

/-- A block of the heap, whole. -/
def Has (w : World) (g : Nat) (t : TypeId) (cs : Array Value) : Prop := w.heap[g]? = some (.cells cs t (0, 0))

section
variable {w w' : World} {g g' : Nat} {t t' : TypeId} {cs cs' : Array Value}
theorem Has.lt (h : Has w g t cs) : g < w.heap.size := by
  rcases Nat.lt_or_ge g w.heap.size with hl | hl
  · exact hl
  · unfold Has at h; rw [Array.getElem?_eq_none hl] at h; cases h
theorem Has.cell (h : Has w g t cs) (i : Nat) : w.cell? ⟨g, i, none⟩ = cs[i]? := cell_of_row w g i cs t (0, 0) h
theorem Has.free (h : Has w g t cs) (i : Nat) : w.frozen? ⟨g, i, none⟩ = false := by
  unfold Has at h
  simp [World.frozen?, h]
theorem Has.unlike (h : Has w g t cs) (h' : Has w g' t' cs') (hne : t ≠ t') : g ≠ g' := by
  rintro rfl
  unfold Has at h h'
  rw [h] at h'
  injection h' with h'
  injection h' with _ ht
  exact hne ht
theorem Has.grown {row : Option Nat} (h : Has w g t cs) (hg : w.grownBy w' row) (hne : some g ≠ row) : Has w' g t cs := (hg.block g h.lt hne).trans h
theorem Has.below (h : Has w g t cs) (hb : Below w.heap.size w w') : Has w' g t cs := (hb.block g h.lt).trans h
theorem Has.set_ (h : Has w g t cs) (i : Nat) (u : Value) : Has (w.setCell ⟨g, i, none⟩ u) g t (cs.setIfInBounds i u) := by
  unfold Has at h ⊢
  simp [World.setCell, Array.getElem?_modify, h]
theorem Has.new (w : World) (t : TypeId) (cs : Array Value) : Has (w.alloc (.cells cs t)) w.heap.size t cs := heap_alloc_new w _
end

/-- Nothing but block g, and what is new, has turned. -/
abbrev Only (w : World) (g : Nat) (w' : World) : Prop := w.grownBy w' (some g)

section
variable {a w w' : World} {g : Nat}
theorem only_refl (w : World) (g : Nat) : Only w g w := World.grownBy.refl w _
theorem only_drew (h : Only a g w) : Only a g w.drew := ⟨h.os, h.tape, h.output, h.size, h.block⟩
theorem only_drewN (h : Only a g w) (n : Nat) : Only a g (w.drewN n) := ⟨h.os, h.tape, h.output, h.size, h.block⟩
theorem only_alloc (h : Only a g w) (o : Obj) : Only a g (w.alloc o) :=
  ⟨h.os, h.tape, h.output, Nat.le_trans h.size (by simp), fun i hi hne => (Below.heap_alloc w o i (Nat.lt_of_lt_of_le hi h.size)).trans (h.block i hi hne)⟩
theorem only_set (h : Only a g w) {p : Addr} (hp : p.block = g ∨ a.heap.size ≤ p.block) (u : Value) : Only a g (w.setCell p u) :=
  ⟨h.os, h.tape, h.output, by simpa [World.setCell] using h.size, fun i hi hne => (Below.heap_setCell w p u i (by
    rintro rfl
    rcases hp with hp | hp
    · exact hne (by rw [hp])
    · omega)).trans (h.block i hi hne)⟩
theorem only_trans (h : Only a g w) (k : Only w g w') : Only a g w' :=
  ⟨k.os.trans h.os, k.tape.trans h.tape, k.output.trans h.output, Nat.le_trans h.size k.size, fun i hi hne => (k.block i (Nat.lt_of_lt_of_le hi h.size) hne).trans (h.block i hi hne)⟩
theorem only_below (h : Below a.heap.size a w) (g : Nat) : Only a g w := ⟨h.os, h.tape, h.output, h.size, fun i hi _ => h.block i hi⟩
/-- What turned a new block alone turned no old one. -/
theorem below_only {B : Nat} (h : Below B a w) (k : Only w g w') (hg : B ≤ g) (hB : B ≤ w.heap.size) : Below B a w' :=
  ⟨k.os.trans h.os, k.tape.trans h.tape, k.output.trans h.output, Nat.le_trans h.size k.size, fun i hi => (k.block i (by omega) (by rintro ⟨⟩; omega)).trans (h.block i hi)⟩
end

/-- The cells of a reader. -/
abbrev rdc (st p en : Int) (h n cap : Nat) (ef ea : Int) : Array Value := #[.int .i64 st, .int .i64 p, .int .i64 en, .slice (some ⟨h, 0, none⟩) n cap, .int .i64 ef, .int .i64 ea]

/-- A list of bytes as cells. -/
abbrev u8s (bs : List Int) : List Value := bs.map (Value.int .u8)

/-- Block h is an array whose first cells are these bytes. -/
def Row (w : World) (h cap : Nat) (bs : List Int) : Prop := ∃ cur : Array Value, Has w h 5 cur ∧ cur.size = cap ∧ cur.toList.take bs.length = u8s bs ∧ bs.length ≤ cap ∧ cap ≤ maxLen

theorem Row.cell {w : World} {h cap : Nat} {bs : List Int} (H : Row w h cap bs) (j : Nat) (hj : j < bs.length) : w.cell? ⟨h, j, none⟩ = some (.int .u8 bs[j]) := by
  obtain ⟨cur, hh, hs, ht, hl, _⟩ := H
  rw [hh.cell j]
  have h1 : cur.toList[j]? = (cur.toList.take bs.length)[j]? := by rw [List.getElem?_take_of_lt hj]
  rw [← Array.getElem?_toList, h1, ht]
  simp [hj]

theorem Row.grown {w w' : World} {h cap : Nat} {bs : List Int} {row : Option Nat} (H : Row w h cap bs) (hg : w.grownBy w' row) (hne : some h ≠ row) : Row w' h cap bs := by
  obtain ⟨cur, hh, r⟩ := H
  exact ⟨cur, hh.grown hg hne, r⟩
theorem Row.below {w w' : World} {h cap : Nat} {bs : List Int} (H : Row w h cap bs) (hb : Below w.heap.size w w') : Row w' h cap bs := by
  obtain ⟨cur, hh, r⟩ := H
  exact ⟨cur, hh.below hb, r⟩

/-- Block g is a reader of these bytes from position st on, at position p, with the fault (ef, ea). -/
structure Rd (w : World) (g h cap : Nat) (bs : List Int) (st p : Nat) (ef ea : Int) : Prop where
  blk : Has w g 121 (rdc st p (st + bs.length : Nat) h bs.length cap ef ea)
  row : Row w h cap bs
  lo : st ≤ p
  hi : p ≤ st + bs.length
  small : st + bs.length ≤ 1000000
  byte : ∀ v ∈ bs, 0 ≤ v ∧ v ≤ 255

section
variable {w w' : World} {g h cap : Nat} {bs : List Int} {st p : Nat} {ef ea : Int}
theorem Rd.ne_ (H : Rd w g h cap bs st p ef ea) : g ≠ h := by
  obtain ⟨cur, hh, _⟩ := H.row
  exact H.blk.unlike hh (by decide)
theorem Rd.grown {row : Option Nat} (H : Rd w g h cap bs st p ef ea) (hg : w.grownBy w' row) (h1 : some g ≠ row) (h2 : some h ≠ row) : Rd w' g h cap bs st p ef ea :=
  ⟨H.blk.grown hg h1, H.row.grown hg h2, H.lo, H.hi, H.small, H.byte⟩
theorem Rd.below (H : Rd w g h cap bs st p ef ea) (hb : Below w.heap.size w w') : Rd w' g h cap bs st p ef ea :=
  ⟨H.blk.below hb, H.row.below hb, H.lo, H.hi, H.small, H.byte⟩
theorem Rd.drewN (H : Rd w g h cap bs st p ef ea) (n : Nat) : Rd (w.drewN n) g h cap bs st p ef ea := ⟨H.blk, H.row, H.lo, H.hi, H.small, H.byte⟩
/-- Another reader's block is turned. -/
theorem Rd.other {g' : Nat} {cs : Array Value} (H : Rd w g h cap bs st p ef ea) (ho : Has w g' 121 cs) (hg : Only w g' w') (hne : g ≠ g') : Rd w' g h cap bs st p ef ea :=
  H.grown hg (by rintro ⟨⟩; exact hne rfl) (by
    rintro ⟨⟩
    obtain ⟨cur, hh, _⟩ := H.row
    exact hh.unlike ho (by decide) rfl)
theorem Rd.c0 (H : Rd w g h cap bs st p ef ea) : w.cell? ⟨g, 0, none⟩ = some (.int .i64 (st : Int)) := H.blk.cell 0
theorem Rd.c1 (H : Rd w g h cap bs st p ef ea) : w.cell? ⟨g, 1, none⟩ = some (.int .i64 (p : Int)) := H.blk.cell 1
theorem Rd.c2 (H : Rd w g h cap bs st p ef ea) : w.cell? ⟨g, 2, none⟩ = some (.int .i64 ((st + bs.length : Nat) : Int)) := H.blk.cell 2
theorem Rd.c3 (H : Rd w g h cap bs st p ef ea) : w.cell? ⟨g, 3, none⟩ = some (.slice (some ⟨h, 0, none⟩) bs.length cap) := H.blk.cell 3
theorem Rd.c4 (H : Rd w g h cap bs st p ef ea) : w.cell? ⟨g, 4, none⟩ = some (.int .i64 ef) := H.blk.cell 4
theorem Rd.c5 (H : Rd w g h cap bs st p ef ea) : w.cell? ⟨g, 5, none⟩ = some (.int .i64 ea) := H.blk.cell 5
end

theorem neq_nil (w : World) (a : Option Addr) (n c : Nat) : (binOp .neq 40 (.slice a n c) (.slice none 0 0)).run Try.prog w = .ok (.bool (!a.isNone)) w :=
  run_neq_slice_nil_any w 40 5 a n c 0 0 Try.underlying40
theorem eql_nil (w : World) (a : Option Addr) (n c : Nat) : (binOp .eql 40 (.slice a n c) (.slice none 0 0)).run Try.prog w = .ok (.bool a.isNone) w :=
  Lib.run_eql_slice_nil w 40 5 a n c 0 0 Try.underlying40

theorem rvalid_yes (g h cap : Nat) (bs : List Int) (st p : Nat) (ef ea : Int) (w : World) (H : Rd w g h cap bs st p ef ea) :
    Calls Try.prog 92 #[.pointer (some ⟨g, 0, none⟩)] w fun e w' => e = .returned (.bool true) ∧ w = w' := by
  have c3 := H.c3
  have hn := fun w => neq_nil w (some ⟨h, 0, none⟩) bs.length cap
  clear H
  go_enter Try.func92, Try.ntmps92
  go_wp2
  go_ret
  exact ⟨rfl, rfl⟩

theorem rvalid_no (w : World) :
    Calls Try.prog 92 #[.pointer none] w fun e w' => e = .returned (.bool false) ∧ w = w' := by
  go_enter Try.func92, Try.ntmps92
  go_wp2
  go_ret
  exact ⟨rfl, rfl⟩

theorem rleft (g h cap : Nat) (bs : List Int) (st p : Nat) (ef ea : Int) (w : World) (H : Rd w g h cap bs st p ef ea) :
    Calls Try.prog 84 #[.pointer (some ⟨g, 0, none⟩)] w fun e w' => e = .returned (.int .i64 ((st + bs.length - p : Nat) : Int)) ∧ ∃ n, w' = w.drewN n := by
  have c1 := H.c1
  have c2 := H.c2
  have h1 := H.hi
  have h2 := H.small
  go_enter Try.func84, Try.ntmps84
  go_wp2
  go_quiet (fail)
  go_wp2
  go_ret
  exact ⟨by simp; omega, _, rfl⟩

end Go.Proofs.Ytgdfpmnbofnjfaa

namespace Go.Proofs.Ytgdfpmnbofnjfaa
open Go.RowKit

section
variable {w w' : World} {g h cap : Nat} {bs : List Int} {st p : Nat} {ef ea : Int}
theorem Rd.moved (H : Rd w g h cap bs st p ef ea) {p' : Nat} {ef' ea' : Int} (ho : Only w g w') (hb : Has w' g 121 (rdc st p' (st + bs.length : Nat) h bs.length cap ef' ea')) (h1 : st ≤ p') (h2 : p' ≤ st + bs.length) : Rd w' g h cap bs st p' ef' ea' :=
  ⟨hb, H.row.grown ho (by rintro ⟨⟩; exact H.ne_ rfl), h1, h2, H.small, H.byte⟩
end

theorem radvance (g h cap : Nat) (bs : List Int) (st p : Nat) (ef ea : Int) (w : World) (H : Rd w g h cap bs st p ef ea) (n : Nat) (hn : p + n ≤ st + bs.length) :
    Calls Try.prog 86 #[.pointer (some ⟨g, 0, none⟩), .int .i64 n] w fun e w' => e = .returned (.tuple #[.int .i64 ((p - st : Nat) : Int), .int .i64 ((p - st + n : Nat) : Int)]) ∧ Rd w' g h cap bs st (p + n) ef ea ∧ Only w g w' := by
  have c0 := H.c0
  have c1 := H.c1
  have f1 := H.blk.free 1
  have h1 := H.hi
  have h2 := H.small
  have h3 := H.lo
  have HH : Hid (Rd w g h cap bs st p ef ea) := Lib.hid H
  clear H
  go_enter Try.func86, Try.ntmps86
  go_wp2
  go_quiet (fail)
  go_wp2
  go_ret2
  have ho : Only w g ((w.drewN nq).setCell ⟨g, 1, none⟩ (.int .i64 ((p : Int) + n))) := only_set (only_drewN (only_refl w g) _) (.inl rfl) _
  exact ⟨by simp; omega, HH.out.moved ho (by simpa using (HH.out.drewN nq).blk.set_ 1 (.int .i64 ((p : Int) + n))) (by omega) hn, ho⟩

theorem rfault (g h cap : Nat) (bs : List Int) (st p : Nat) (ef ea : Int) (w : World) (H : Rd w g h cap bs st p ef ea) :
    Calls Try.prog 83 #[.pointer (some ⟨g, 0, none⟩)] w fun e w' => e = .returned (.agg #[.int .i64 ef, .int .i64 ea]) ∧ w.alloc (.cells #[.int .i64 ef, .int .i64 ea] 37) = w' := by
  have c4 := H.c4
  have c5 := H.c5
  have hl := H.blk.lt
  have H' := H.below ((Below.refl _ w).alloc (Nat.le_refl _) (.cells #[.int .i64 0, .int .i64 0] 37))
  go_enter Try.func83, Try.ntmps83
  go_wp2_with (go_at_call 92; refine (rvalid_yes _ _ _ _ _ _ _ _ _ H').mono ?_; rintro e w' ⟨rfl, rfl⟩)
  exact bodyPost_ret (v := .agg #[.int .i64 ef, .int .i64 ea]) (by simp [results, Try.results83, go_sem]) rfl ⟨rfl, by simp⟩

theorem rfault_nil (w : World) :
    Calls Try.prog 83 #[.pointer none] w fun e w' => e = .returned (.agg #[.int .i64 1, .int .i64 0]) ∧ w.alloc (.cells #[.int .i64 1, .int .i64 0] 37) = w' := by
  go_enter Try.func83, Try.ntmps83
  go_wp2_with (go_at_call 92; refine (rvalid_no _).mono ?_; rintro e w' ⟨rfl, rfl⟩)
  exact bodyPost_ret (v := .agg #[.int .i64 1, .int .i64 0]) (by simp [results, Try.results83, go_sem]) rfl ⟨rfl, by simp⟩

/-- Fail that changes nothing: no fault, or one before. -/
theorem rfail_no (g h cap : Nat) (bs : List Int) (st p : Nat) (ef ea : Int) (w : World) (H : Rd w g h cap bs st p ef ea) (x : Int) (hx : (x == 0) = true ∨ (ef == 0) = false) :
    Calls Try.prog 85 #[.pointer (some ⟨g, 0, none⟩), .int .i64 x] w fun e w' => e = .returned (.tuple #[]) ∧ w = w' := by
  have c4 := H.c4
  have HH : Hid (Rd w g h cap bs st p ef ea) := Lib.hid H
  clear H
  by_cases h0 : x = 0
  · subst h0
    clear hx
    go_enter Try.func85, Try.ntmps85
    go_wp2_with (go_at_call 92; refine (rvalid_yes _ _ _ _ _ _ _ _ _ HH.out).mono ?_; rintro e w' ⟨rfl, rfl⟩)
    go_end0
    exact ⟨rfl, rfl⟩
  · have h1 : (x != 0) = true := by simpa using h0
    have h2 : (ef == 0) = false := by
      rcases hx with hx | hx
      · exact absurd (by simpa using hx) h0
      · exact hx
    clear hx h0
    go_enter Try.func85, Try.ntmps85
    go_wp2_with (go_at_call 92; refine (rvalid_yes _ _ _ _ _ _ _ _ _ HH.out).mono ?_; rintro e w' ⟨rfl, rfl⟩)
    go_end0
    exact ⟨rfl, rfl⟩

theorem rfail_yes (g h cap : Nat) (bs : List Int) (st p : Nat) (ea : Int) (w : World) (H : Rd w g h cap bs st p 0 ea) (x : Int) (hx : (x != 0) = true) :
    Calls Try.prog 85 #[.pointer (some ⟨g, 0, none⟩), .int .i64 x] w fun e w' => e = .returned (.tuple #[]) ∧ Rd w' g h cap bs st p x p ∧ Only w g w' := by
  have c1 := H.c1
  have c4 := H.c4
  have c5 := H.c5
  have f4 := H.blk.free 4
  have f5 := H.blk.free 5
  have HH : Hid (Rd w g h cap bs st p 0 ea) := Lib.hid H
  clear H
  go_enter Try.func85, Try.ntmps85
  go_wp2_with (go_at_call 92; refine (rvalid_yes _ _ _ _ _ _ _ _ _ HH.out).mono ?_; rintro e w' ⟨rfl, rfl⟩)
  go_end0
  have ho : Only w g ((w.setCell ⟨g, 4, none⟩ (.int .i64 x)).setCell ⟨g, 5, none⟩ (.int .i64 (p : Int))) := only_set (only_set (only_refl w g) (.inl rfl) _) (.inl rfl) _
  exact ⟨rfl, HH.out.moved ho (by simpa using (HH.out.blk.set_ 4 (.int .i64 x)).set_ 5 (.int .i64 (p : Int))) HH.out.lo HH.out.hi, ho⟩

theorem rfail_nil (w : World) (x : Int) :
    Calls Try.prog 85 #[.pointer none, .int .i64 x] w fun e w' => e = .returned (.tuple #[]) ∧ w = w' := by
  go_enter Try.func85, Try.ntmps85
  go_wp2_with (go_at_call 92; refine (rvalid_no _).mono ?_; rintro e w' ⟨rfl, rfl⟩)
  go_end0
  exact ⟨rfl, rfl⟩

end Go.Proofs.Ytgdfpmnbofnjfaa

namespace Go.Proofs.Ytgdfpmnbofnjfaa
open Go.RowKit

/-- From position o on block h holds these bytes. -/
def Sl (w : World) (h o : Nat) (xs : List Int) : Prop := ∀ j (hj : j < xs.length), w.cell? ⟨h, o + j, none⟩ = some (.int .u8 xs[j])

theorem Row.part {w : World} {h cap : Nat} {bs : List Int} (H : Row w h cap bs) (o n : Nat) : Sl w h o ((bs.drop o).take n) := by
  intro j hj
  simp at hj
  rw [H.cell (o + j) (by omega)]
  simp

theorem Row.all {w : World} {h cap : Nat} {bs : List Int} (H : Row w h cap bs) : Sl w h 0 bs := by
  intro j hj
  rw [Nat.zero_add, H.cell j hj]

theorem Sl.below {w w' : World} {h o : Nat} {xs : List Int} (H : Sl w h o xs) (hb : Below w.heap.size w w') : Sl w' h o xs := by
  intro j hj
  have h1 := H j hj
  have hlt : h < w.heap.size := by
    rcases Nat.lt_or_ge h w.heap.size with h' | h'
    · exact h'
    · simp [World.cell?, Array.getElem?_eq_none h'] at h1
  exact (hb.cell (p := ⟨h, o + j, none⟩) hlt).trans h1

/-- The number whose bytes are given, most significant byte first. -/
def num (xs : List Int) : Int := xs.foldl (fun n b => n * 256 + b) 0

theorem num_snoc (xs : List Int) (x : Int) : num (xs ++ [x]) = num xs * 256 + x := by simp [num]

theorem num_bound (xs : List Int) (h : ∀ v ∈ xs, 0 ≤ v ∧ v ≤ 255) : 0 ≤ num xs ∧ num xs < 256 ^ xs.length := by
  have key : ∀ n : Nat, n ≤ xs.length → 0 ≤ num (xs.take n) ∧ num (xs.take n) < 256 ^ n := by
    intro n
    induction n with
    | zero => intro _; simp [num]
    | succ n ih =>
      intro hn
      have i := ih (by omega)
      have hx := h (xs[n]'(by omega)) (List.getElem_mem _)
      rw [List.take_succ_eq_append_getElem (by omega), num_snoc, Int.pow_succ]
      omega
  have := key xs.length (Nat.le_refl _)
  rwa [List.take_length] at this

theorem pow_mono {a : Nat} (b : Nat) (h : a ≤ b) : (256 : Int) ^ a ≤ 256 ^ b := by
  obtain ⟨d, rfl⟩ := Nat.le.dest h
  induction d with
  | zero => exact Int.le_refl _
  | succ d ih =>
    have := ih (by omega)
    rw [show a + (d + 1) = (a + d) + 1 from rfl, Int.pow_succ]
    have hp : (0 : Int) < 256 ^ (a + d) := Int.pow_pos (by omega)
    omega

theorem or_byte (n b : Int) (h0 : 0 ≤ n) (h1 : n < 72057594037927936) (b0 : 0 ≤ b) (b1 : b ≤ 255) : bits BinOp.or .u64 (n * 256) b = n * 256 + b := by
  obtain ⟨m, rfl⟩ := Int.eq_ofNat_of_zero_le h0
  obtain ⟨c, rfl⟩ := Int.eq_ofNat_of_zero_le b0
  have e1 : BitVec.ofInt 64 ((m : Int) * 256) = BitVec.ofNat 64 (m * 256) := by apply BitVec.eq_of_toNat_eq; simp; omega
  have e2 : BitVec.ofInt 64 (c : Int) = BitVec.ofNat 64 c := by apply BitVec.eq_of_toNat_eq; simp
  have e3 : (BitVec.ofNat 64 (m * 256) ||| BitVec.ofNat 64 c).toNat = m * 256 + c := by
    rw [BitVec.toNat_or, BitVec.toNat_ofNat, BitVec.toNat_ofNat, Nat.mod_eq_of_lt (by omega), Nat.mod_eq_of_lt (by omega)]
    have := Nat.shiftLeft_add_eq_or_of_lt (i := 8) (b := c) (by omega) m
    rw [Nat.shiftLeft_eq] at this
    exact this.symm
  show IntKind.u64.wrap ((BitVec.ofInt 64 ((m : Int) * 256) ||| BitVec.ofInt 64 (c : Int)).toNat : Int) = _
  rw [e1, e2, e3]
  have e4 : IntKind.u64.wrap ((m * 256 + c : Nat) : Int) = ((m * 256 + c : Nat) : Int) % 18446744073709551616 := by rfl
  rw [e4]
  omega

theorem rget_nil (w : World) : Calls Try.prog 71 #[.slice none 0 0] w fun e w' => e = .returned (.int .u64 0) ∧ w = w' := by
  go_enter Try.func71, Try.ntmps71
  go_wp2
  go_loop [3, 8] (fun n i => i = .int .i64 0 ∧ n = .int .u64 0) (fun _ i => 0)
  case atStart => exact ⟨rfl, rfl⟩
  case round =>
    obtain ⟨rfl, rfl⟩ := hrel
    go_wp2
    go_ret
    exact ⟨rfl, rfl⟩

set_option maxHeartbeats 1000000 in
theorem rget (h o c : Nat) (xs : List Int) (n : Nat) (hn : xs.length = n) (w : World) (hl : n ≤ 8) (hx : ∀ v ∈ xs, 0 ≤ v ∧ v ≤ 255) (hc : Sl w h o xs) :
    Calls Try.prog 71 #[.slice (some ⟨h, o, none⟩) n c] w fun e w' => e = .returned (.int .u64 (num xs)) ∧ w = w' := by
  subst hn
  have HC := Lib.hid hc
  have HX := Lib.hid hx
  clear hc hx
  go_enter Try.func71, Try.ntmps71
  go_wp2
  go_loop [3, 8] (fun n i => ∃ k : Nat, k ≤ xs.length ∧ i = .int .i64 k ∧ n = .int .u64 (num (xs.take k))) (fun _ i => xs.length - (intOf i).toNat)
  case atStart => exact ⟨0, Nat.zero_le _, rfl, rfl⟩
  case round =>
    obtain ⟨k, hk, rfl, rfl⟩ := hrel
    by_cases hlt : k < xs.length
    · have hcell := HC.out k hlt
      obtain ⟨hx0, hx1⟩ := HX.out xs[k] (List.getElem_mem _)
      obtain ⟨x, hxe⟩ : ∃ x, xs[k] = x := ⟨_, rfl⟩
      rw [hxe] at hcell hx0 hx1
      obtain ⟨n, hne⟩ : ∃ n, num (xs.take k) = n := ⟨_, rfl⟩
      have hn := num_bound (xs.take k) (fun v hv => HX.out v (List.mem_of_mem_take hv))
      rw [hne] at hn ⊢
      have HS : Hid (num (xs.take (k + 1)) = n * 256 + x) := Lib.hid (by rw [List.take_succ_eq_append_getElem hlt, num_snoc, hne, hxe])
      have hn0 : 0 ≤ n := hn.1
      have hn1 : n < 72057594037927936 := by
        have h2 := hn.2
        have hle : (List.take k xs).length ≤ 7 := by simp; omega
        have := pow_mono 7 hle
        omega
      have hor := or_byte n x hn0 hn1 hx0 hx1
      clear hn hxe hne
      go_wp2
      go_round
      case rel => exact ⟨k + 1, by omega, by go_num, by rw [HS.out]⟩
      case measure => simp [intOf]; omega
    · have hke : k = xs.length := by omega
      subst hke
      go_wp2
      go_ret
      exact ⟨by simp, rfl⟩

theorem fault_err (a b : Int) (w : World) : (Instr.field 37 (.agg #[.int .i64 a, .int .i64 b]) 0).run Try.prog w = .ok (.int .i64 a) w := by kernel_rfl

set_option maxRecDepth 100000
theorem rtake_fault (g h cap : Nat) (bs : List Int) (st p : Nat) (ef ea : Int) (w : World) (H : Rd w g h cap bs st p ef ea) (n : Int) (hf : (ef != 0) = true) :
    Calls Try.prog 70 #[.pointer (some ⟨g, 0, none⟩), .int .i64 n] w fun e w' => e = .returned (.slice none 0 0) ∧ Below w.heap.size w w' := by
  have hfld := fault_err ef ea
  go_enter Try.func70, Try.ntmps70
  go_wp2_with (go_at_call 83; refine (rfault _ _ _ _ _ _ _ _ _ H).mono ?_; rintro e w' ⟨rfl, rfl⟩)
  go_ret
  exact ⟨rfl, (Below.refl _ w).alloc (Nat.le_refl _) _⟩

theorem rtake_nil (w : World) (n : Int) :
    Calls Try.prog 70 #[.pointer none, .int .i64 n] w fun e w' => e = .returned (.slice none 0 0) ∧ Below w.heap.size w w' := by
  have hfld := fault_err 1 0
  go_enter Try.func70, Try.ntmps70
  go_wp2_with (go_at_call 83; refine (rfault_nil _).mono ?_; rintro e w' ⟨rfl, rfl⟩)
  go_ret
  exact ⟨rfl, (Below.refl _ w).alloc (Nat.le_refl _) _⟩

theorem rtake_short (g h cap : Nat) (bs : List Int) (st p : Nat) (ea : Int) (w : World) (H : Rd w g h cap bs st p 0 ea) (n : Int) (hn : n < 0 ∨ ((st + bs.length - p : Nat) : Int) < n) :
    Calls Try.prog 70 #[.pointer (some ⟨g, 0, none⟩), .int .i64 n] w fun e w' => e = .returned (.slice none 0 0) ∧ Rd w' g h cap bs st p 4 p ∧ Only w g w' := by
  have H1 := H.below ((Below.refl _ w).alloc (Nat.le_refl _) (.cells #[.int .i64 0, .int .i64 ea] 37))
  have ho1 := only_alloc (only_refl w g) (.cells #[.int .i64 0, .int .i64 ea] 37)
  have HH : Hid (Rd w g h cap bs st p 0 ea) := Lib.hid H
  have HO : Hid (Only w g (w.alloc (.cells #[.int .i64 0, .int .i64 ea] 37))) := Lib.hid ho1
  clear H ho1
  have hfld := fault_err 0 ea
  rcases hn with hn | hn
  · go_enter Try.func70, Try.ntmps70
    go_wp2_with (first
      | (go_at_call 83; refine (rfault _ _ _ _ _ _ _ _ _ HH.out).mono ?_; rintro e w' ⟨rfl, rfl⟩)
      | (go_at_call 85; refine (rfail_yes _ _ _ _ _ _ _ _ H1 4 rfl).mono ?_; rintro e w' ⟨rfl, h2, h3⟩))
    go_ret
    exact ⟨rfl, h2, only_trans HO.out h3⟩
  · have hn0 : 0 ≤ n := by omega
    go_enter Try.func70, Try.ntmps70
    go_wp2_with (first
      | (go_at_call 83; refine (rfault _ _ _ _ _ _ _ _ _ HH.out).mono ?_; rintro e w' ⟨rfl, rfl⟩)
      | (go_at_call 84; refine (rleft _ _ _ _ _ _ _ _ _ H1).mono ?_; rintro e w' ⟨rfl, nq, rfl⟩)
      | (go_at_call 85; refine (rfail_yes _ _ _ _ _ _ _ _ (H1.drewN nq) 4 rfl).mono ?_; rintro e w' ⟨rfl, h2, h3⟩))
    go_ret
    exact ⟨rfl, h2, only_trans (only_drewN HO.out nq) h3⟩

end Go.Proofs.Ytgdfpmnbofnjfaa

namespace Go.Proofs.Ytgdfpmnbofnjfaa
open Go.RowKit
set_option maxRecDepth 100000

theorem info_u8 : (Try.prog.info? 5).map (fun i => (i.zero, i.size, i.bytes)) = some (some (.int .u8 0), 1, 1) := by kernel_rfl

theorem own_new (w : World) : (w.alloc (.cells #[] 5)).ownsRow w.heap.size 5 1 (.slice (some ⟨w.heap.size, 0, none⟩) 0 0) 0 [] :=
  ⟨rfl, .inr ⟨w.heap.size, 0, #[], rfl, Nat.le_refl _, Has.new w 5 #[], Nat.le_refl _, by simp, rfl, rfl⟩⟩

theorem own_row {w : World} {base n : Nat} {v : Value} {bs : List Int} (h : w.ownsRow base 5 1 v n (u8s bs)) (hne : ¬ v = .slice none 0 0) (hl : bs.length = n) : ∃ g cap, v = .slice (some ⟨g, 0, none⟩) n cap ∧ base ≤ g ∧ Row w g cap bs := by
  rcases h.2 with ⟨h1, _⟩ | ⟨g, cap, cur, h1, h2, h3, h4, h5, h6, h7⟩
  · exact absurd h1 hne
  · exact ⟨g, cap, h1, h2, cur, h3, by simpa using h6, by rw [hl]; simpa using h7, by omega, h5⟩

theorem u8s_one (bs : List Int) : ∀ u ∈ u8s bs, u.oneCell' = true := by
  intro u hu
  simp only [List.mem_map] at hu
  obtain ⟨v, _, rfl⟩ := hu
  rfl

theorem Sl.at_ {w : World} {h o : Nat} {xs : List Int} (H : Sl w h o xs) : ∀ j u, (u8s xs)[j]? = some u → w.cell? ((⟨h, o, none⟩ : Addr).add j) = some u := by
  intro j u hu
  rw [List.getElem?_map] at hu
  obtain ⟨v, hv, rfl⟩ := Option.map_eq_some_iff.1 hu
  obtain ⟨hj, rfl⟩ := List.getElem?_eq_some_iff.1 hv
  unfold Addr.add
  by_cases h0 : j = 0
  · subst h0
    simpa using H 0 hj
  · rw [if_neg h0]
    exact H j hj

/-- From an address on memory holds these bytes. -/
def Cel (w : World) (ad : Addr) (xs : List Int) : Prop := ∀ j u, (u8s xs)[j]? = some u → w.cell? (ad.add j) = some u

theorem block_add (a : Addr) (n : Nat) : (a.add n).block = a.block := by unfold Addr.add; split <;> rfl

theorem cell_block {w : World} {p : Addr} {v : Value} (h : w.cell? p = some v) : p.block < w.heap.size := by
  rcases Nat.lt_or_ge p.block w.heap.size with h' | h'
  · exact h'
  · simp [World.cell?, Array.getElem?_eq_none h'] at h

theorem Cel.below {w w' : World} {ad : Addr} {xs : List Int} (h : Cel w ad xs) (hb : Below w.heap.size w w') : Cel w' ad xs :=
  fun j u hu => (hb.cell (cell_block (h j u hu))).trans (h j u hu)

theorem rclone_nil (w : World) : Calls Try.prog 69 #[.slice none 0 0] w fun e w' => e = .returned (.slice none 0 0) ∧ w = w' := by
  have hn := fun w => eql_nil w none 0 0
  go_enter Try.func69, Try.ntmps69
  go_wp2
  go_ret
  exact ⟨rfl, rfl⟩

theorem rclone (h o n c : Nat) (xs : List Int) (hl : xs.length = n) (hm : n ≤ 1000000) (w : World) (hc : Sl w h o xs) :
    Calls Try.prog 69 #[.slice (some ⟨h, o, none⟩) n c] w fun e w' => (∃ h' c', e = .returned (.slice (some ⟨h', 0, none⟩) n c') ∧ Row w' h' c' xs ∧ w.heap.size ≤ h') ∧ Below w.heap.size w w' := by
  have hn := fun w => eql_nil w (some ⟨h, o, none⟩) n c
  obtain ⟨i0, hi, hz0, hz1, hz2⟩ := info_parts info_u8
  have hc1 := hc.below ((Below.refl _ w).alloc (Nat.le_refl _) (.cells #[] 5))
  have HL := Lib.hid hl
  clear hc hl
  go_enter Try.func69, Try.ntmps69
  go_wp2_with (at_builtin; refine wpList_append_own _ rfl _ _ 40 rfl w.heap.size 5 i0 (.int .u8 0) 1 1 Try.underlying40 hi hz0 hz1 hz2 rfl (by decide) _ 0 [] rfl (own_new w) ⟨h, o, none⟩ n c (u8s xs) rfl (by simp [HL.out]) hc1.at_ (u8s_one xs) (by unfold maxLen; omega) (by omega) (by simp) ?_)
  intro v' w1 hown hgrow hnil
  have hbel : Below w.heap.size w w1 := below_only ((Below.refl _ w).alloc (Nat.le_refl _) (.cells #[] 5)) hgrow (Nat.le_refl _) (by simp)
  obtain ⟨g', c', rfl, hb, hr⟩ := own_row hown hnil (by rw [HL.out])
  clear hown hgrow hnil
  go_wp2
  go_ret
  exact ⟨⟨g', c', by simp, hr, hb⟩, hbel⟩

/-- A new reader of a copy, at a position. -/
theorem rreader (ad : Addr) (n c at_ : Nat) (xs : List Int) (hl : xs.length = n) (hm : at_ + n ≤ 1000000) (w : World) (hc : Cel w ad xs) (hx : ∀ v ∈ xs, 0 ≤ v ∧ v ≤ 255) :
    Calls Try.prog 68 #[.int .i64 at_, .slice (some ad) n c] w fun e w' => ∃ g' h' c', e = .returned (.pointer (some ⟨g', 0, none⟩)) ∧ w.heap.size ≤ g' ∧ w.heap.size ≤ h' ∧ Rd w' g' h' c' xs at_ at_ 0 0 ∧ Below w.heap.size w w' := by
  obtain ⟨i0, hi, hz0, hz1, hz2⟩ := info_parts info_u8
  have hc1 := hc.below ((Below.refl _ w).alloc (Nat.le_refl _) (.cells #[] 5))
  have HL := Lib.hid hl
  have HX := Lib.hid hx
  clear hc hl hx
  go_enter Try.func68, Try.ntmps68
  go_wp2_with (at_builtin; refine wpList_append_own _ rfl _ _ 40 rfl w.heap.size 5 i0 (.int .u8 0) 1 1 Try.underlying40 hi hz0 hz1 hz2 rfl (by decide) _ 0 [] rfl (own_new w) ad n c (u8s xs) rfl (by simp [HL.out]) hc1 (u8s_one xs) (by unfold maxLen; omega) (by omega) (by simp) ?_)
  intro v' w1 hown hgrow hnil
  have hbel : Below w.heap.size w w1 := below_only ((Below.refl _ w).alloc (Nat.le_refl _) (.cells #[] 5)) hgrow (Nat.le_refl _) (by simp)
  obtain ⟨g', c', rfl, hb, hr⟩ := own_row hown hnil (by rw [HL.out])
  clear hown hgrow hnil
  go_wp2
  go_ret
  have hr2 : Row (w1.alloc (.cells (rdc at_ at_ ((at_ : Int) + n) g' n c' 0 0) 121)) g' c' xs := hr.below ((Below.refl _ w1).alloc (Nat.le_refl _) _)
  refine ⟨w1.heap.size, g', c', rfl, hbel.size, hb, ⟨?_, hr2, Nat.le_refl _, Nat.le_add_right _ _, by rw [HL.out]; exact hm, HX.out⟩, hbel.trans ((Below.refl _ w1).alloc hbel.size _)⟩
  have hnew := Has.new w1 121 (rdc at_ at_ ((at_ : Int) + n) g' n c' 0 0)
  rw [HL.out, show ((at_ + n : Nat) : Int) = (at_ : Int) + n from rfl]
  exact hnew

theorem rreader_nil (at_ : Nat) (hm : at_ ≤ 1000000) (w : World) :
    Calls Try.prog 68 #[.int .i64 at_, .slice none 0 0] w fun e w' => ∃ g' h' c', e = .returned (.pointer (some ⟨g', 0, none⟩)) ∧ w.heap.size ≤ g' ∧ w.heap.size ≤ h' ∧ Rd w' g' h' c' [] at_ at_ 0 0 ∧ Below w.heap.size w w' := by
  go_enter Try.func68, Try.ntmps68
  go_wp2
  go_ret
  have hr0 : Row (w.alloc (.cells #[] 5)) w.heap.size 0 [] := ⟨#[], Has.new w 5 #[], rfl, rfl, Nat.le_refl _, by simp⟩
  have hb0 : Below w.heap.size w (w.alloc (.cells #[] 5)) := (Below.refl _ w).alloc (Nat.le_refl _) _
  have hr2 : Row ((w.alloc (.cells #[] 5)).alloc (.cells (rdc at_ at_ at_ w.heap.size 0 0 0 0) 121)) w.heap.size 0 [] := hr0.below ((Below.refl _ _).alloc (Nat.le_refl _) _)
  refine ⟨w.heap.size + 1, w.heap.size, 0, rfl, by omega, by omega, ⟨?_, hr2, Nat.le_refl _, Nat.le_add_right _ _, by simpa using hm, by simp⟩, hb0.trans ((Below.refl _ _).alloc (by simp) _)⟩
  have hnew := Has.new (w.alloc (.cells #[] 5)) 121 (rdc at_ at_ at_ w.heap.size 0 0 0 0)
  simpa using hnew

theorem rtake_ok (g h0 cap : Nat) (bs : List Int) (st p : Nat) (ea : Int) (w : World) (H : Rd w g h0 cap bs st p 0 ea) (n : Nat) (hn : n ≤ st + bs.length - p) :
    Calls Try.prog 70 #[.pointer (some ⟨g, 0, none⟩), .int .i64 n] w fun e w' => (∃ o, (∃ c, e = .returned (.slice (some ⟨h0, o, none⟩) n c)) ∧ Sl w' h0 o ((bs.drop (p - st)).take n)) ∧ Rd w' g h0 cap bs st (p + n) 0 ea ∧ Only w g w' := by
  have H1 := H.below ((Below.refl _ w).alloc (Nat.le_refl _) (.cells #[.int .i64 0, .int .i64 ea] 37))
  have ho1 := only_alloc (only_refl w g) (.cells #[.int .i64 0, .int .i64 ea] 37)
  have HH : Hid (Rd w g h0 cap bs st p 0 ea) := Lib.hid H
  have HO : Hid (Only w g (w.alloc (.cells #[.int .i64 0, .int .i64 ea] 37))) := Lib.hid ho1
  have hlo := H.lo
  have hhi := H.hi
  have hsm := H.small
  have hcap : bs.length ≤ cap ∧ cap ≤ maxLen := by
    obtain ⟨_, _, _, _, h1, h2⟩ := H.row
    exact ⟨h1, h2⟩
  unfold maxLen at hcap
  have hfld := fault_err 0 ea
  clear H ho1
  go_enter Try.func70, Try.ntmps70
  go_wp2_with (first
    | (go_at_call 83; refine (rfault _ _ _ _ _ _ _ _ _ HH.out).mono ?_; rintro e w' ⟨rfl, rfl⟩)
    | (go_at_call 84; refine (rleft _ _ _ _ _ _ _ _ _ H1).mono ?_; rintro e w' ⟨rfl, nq, rfl⟩)
    | (go_at_call 86; refine (radvance _ _ _ _ _ _ _ _ _ (H1.drewN nq) n (by omega)).mono ?_; rintro e w' ⟨rfl, h2, h3⟩; have c3 := h2.c3; have HR := Lib.hid h2; clear h2))
  · rename_i h
    subst h
    have hn0 : n = 0 := by omega
    subst hn0
    go_ret
    exact ⟨⟨_, ⟨_, rfl⟩, fun j hj => absurd hj (by simp)⟩, HR.out, only_trans (only_drewN HO.out nq) h3⟩
  · go_ret
    exact ⟨⟨p - st, ⟨_, rfl⟩, HR.out.row.part (p - st) n⟩, HR.out, only_trans (only_drewN HO.out nq) h3⟩

end Go.Proofs.Ytgdfpmnbofnjfaa

namespace Go.Proofs.Ytgdfpmnbofnjfaa
open Go.RowKit
set_option maxRecDepth 100000

/-- What a reader is: its bytes, the position of the first, its position, its fault. -/
structure RS where
  bs : List Int
  st : Nat
  p : Nat
  ef : Int
  ea : Int

/-- The bytes that are taken, and the reader behind it. -/
def RS.take (s : RS) (n : Int) : Option (List Int) × RS :=
  if s.ef ≠ 0 then (none, s)
  else if n < 0 ∨ ((s.st + s.bs.length - s.p : Nat) : Int) < n then (none, { s with ef := 4, ea := s.p })
  else (some ((s.bs.drop (s.p - s.st)).take n.toNat), { s with p := s.p + n.toNat })

abbrev RdS (w : World) (g h cap : Nat) (s : RS) : Prop := Rd w g h cap s.bs s.st s.p s.ef s.ea

/-- A new reader of the bytes that were taken. -/
def RS.sub (s : RS) (n : Int) : RS := { bs := (s.take n).1.getD [], st := s.p, p := s.p, ef := (s.take n).2.ef, ea := (s.take n).2.ea }

def RS.fail (s : RS) (x : Int) : RS := if x ≠ 0 ∧ s.ef = 0 then { s with ef := x, ea := s.p } else s

def RS.got (s : RS) (m : Nat) : Int := ((s.take m).1.map num).getD 0

theorem take_a {s : RS} (n : Int) (h : s.ef ≠ 0) : s.take n = (none, s) := by simp [RS.take, h]
theorem take_b {s : RS} (n : Int) (h : s.ef = 0) (hn : n < 0 ∨ ((s.st + s.bs.length - s.p : Nat) : Int) < n) : s.take n = (none, { s with ef := 4, ea := s.p }) := by
  unfold RS.take
  rw [if_neg (by simp [h]), if_pos hn]
theorem take_c {s : RS} (n : Nat) (h : s.ef = 0) (hn : n ≤ s.st + s.bs.length - s.p) : s.take n = (some ((s.bs.drop (s.p - s.st)).take n), { s with p := s.p + n }) := by
  unfold RS.take
  rw [if_neg (by simp [h]), if_neg (by omega)]
  rfl

theorem three (s : RS) (n : Int) : s.ef ≠ 0 ∨ (s.ef = 0 ∧ (n < 0 ∨ ((s.st + s.bs.length - s.p : Nat) : Int) < n)) ∨ (s.ef = 0 ∧ ∃ m : Nat, n = m ∧ m ≤ s.st + s.bs.length - s.p) := by
  by_cases h : s.ef = 0
  · by_cases h1 : n < 0 ∨ ((s.st + s.bs.length - s.p : Nat) : Int) < n
    · exact .inr (.inl ⟨h, h1⟩)
    · exact .inr (.inr ⟨h, n.toNat, by omega, by omega⟩)
  · exact .inl h

theorem rd0 {w : World} {g h cap : Nat} {s : RS} (H : RdS w g h cap s) (h0 : s.ef = 0) : Rd w g h cap s.bs s.st s.p 0 s.ea := by
  have h1 : Rd w g h cap s.bs s.st s.p s.ef s.ea := H
  rw [h0] at h1
  exact h1

theorem part_len {w : World} {g h cap : Nat} {s : RS} (H : RdS w g h cap s) {n : Nat} (hn : n ≤ s.st + s.bs.length - s.p) : ((s.bs.drop (s.p - s.st)).take n).length = n := by
  have h1 := H.lo
  have h2 := H.hi
  simp
  omega
theorem part_byte {w : World} {g h cap : Nat} {s : RS} (H : RdS w g h cap s) (k n : Nat) : ∀ v ∈ (s.bs.drop k).take n, 0 ≤ v ∧ v ≤ 255 :=
  fun v hv => H.byte v (List.mem_of_mem_drop (List.mem_of_mem_take hv))

theorem rnew (ad : Addr) (n c : Nat) (xs : List Int) (hl : xs.length = n) (hm : n ≤ 1000000) (w : World) (hc : Cel w ad xs) (hx : ∀ v ∈ xs, 0 ≤ v ∧ v ≤ 255) :
    Calls Try.prog 43 #[.slice (some ad) n c] w fun e w' => ∃ g' h' c', e = .returned (.pointer (some ⟨g', 0, none⟩)) ∧ w.heap.size ≤ g' ∧ w.heap.size ≤ h' ∧ RdS w' g' h' c' ⟨xs, 0, 0, 0, 0⟩ ∧ Below w.heap.size w w' := by
  have HL := Lib.hid hl
  have HX := Lib.hid hx
  have HC := Lib.hid hc
  clear hl hx hc
  go_enter Try.func43, Try.ntmps43
  go_wp2_with (go_at_call 68; refine (rreader _ _ _ 0 xs HL.out (by omega) _ HC.out HX.out).mono ?_; rintro e w' ⟨g', h', c', rfl, h1, h2, h3, h4⟩)
  have H3 := Lib.hid h3
  clear h3
  go_wp2
  go_ret
  exact ⟨g', h', c', rfl, h1, h2, H3.out, h4⟩

theorem rnew_nil (w : World) :
    Calls Try.prog 43 #[.slice none 0 0] w fun e w' => ∃ g' h' c', e = .returned (.pointer (some ⟨g', 0, none⟩)) ∧ w.heap.size ≤ g' ∧ w.heap.size ≤ h' ∧ RdS w' g' h' c' ⟨[], 0, 0, 0, 0⟩ ∧ Below w.heap.size w w' := by
  go_enter Try.func43, Try.ntmps43
  go_wp2_with (go_at_call 68; refine (rreader_nil 0 (by omega) _).mono ?_; rintro e w' ⟨g', h', c', rfl, h1, h2, h3, h4⟩)
  have H3 := Lib.hid h3
  clear h3
  go_wp2
  go_ret
  exact ⟨g', h', c', rfl, h1, h2, H3.out, h4⟩

theorem rU1 (g h cap : Nat) (s : RS) (w : World) (H : RdS w g h cap s) :
    Calls Try.prog 45 #[.pointer (some ⟨g, 0, none⟩)] w fun e w' => e = .returned (.int .u64 (s.got 1)) ∧ RdS w' g h cap (s.take 1).2 ∧ Only w g w' := by
  have HH : Hid (RdS w g h cap s) := Lib.hid H
  clear H
  rcases three s 1 with h0 | ⟨h0, h1⟩ | ⟨h0, m, hm, h1⟩
  · have e1 : Hid (s.got 1 = 0) := Lib.hid (by unfold RS.got; rw [show (((1 : Nat) : Int)) = 1 from rfl, take_a 1 h0]; rfl)
    have e2 : Hid ((s.take 1).2 = s) := Lib.hid (by rw [take_a 1 h0])
    have h0' : (s.ef != 0) = true := by simpa using h0
    have H0 := Lib.hid h0'
    clear h0 h0'
    go_enter Try.func45, Try.ntmps45
    go_wp2_with (first
      | (go_at_call 70; refine (rtake_fault _ _ _ _ _ _ _ _ _ HH.out 1 H0.out).mono ?_; rintro e w' ⟨rfl, h2⟩)
      | (go_at_call 71; refine (rget_nil _).mono ?_; rintro e w' ⟨rfl, rfl⟩))
    go_ret
    exact ⟨by rw [e1.out]; rfl, by rw [e2.out]; exact HH.out.below h2, only_below h2 g⟩
  · have e1 : Hid (s.got 1 = 0) := Lib.hid (by unfold RS.got; rw [show (((1 : Nat) : Int)) = 1 from rfl, take_b 1 h0 h1]; rfl)
    have e2 : Hid ((s.take 1).2 = { s with ef := 4, ea := s.p }) := Lib.hid (by rw [take_b 1 h0 h1])
    have HR := Lib.hid (rd0 HH.out h0)
    have H1 := Lib.hid h1
    clear h0 h1
    go_enter Try.func45, Try.ntmps45
    go_wp2_with (first
      | (go_at_call 70; refine (rtake_short _ _ _ _ _ _ _ _ HR.out 1 H1.out).mono ?_; rintro e w' ⟨rfl, h2, h3⟩; have H2 := Lib.hid h2; clear h2)
      | (go_at_call 71; refine (rget_nil _).mono ?_; rintro e w' ⟨rfl, rfl⟩))
    go_ret
    exact ⟨by rw [e1.out]; rfl, by rw [e2.out]; exact H2.out, h3⟩
  · obtain rfl : m = 1 := by omega
    have e1 : Hid (s.got 1 = num ((s.bs.drop (s.p - s.st)).take 1)) := Lib.hid (by unfold RS.got; rw [take_c 1 h0 h1]; rfl)
    have e2 : Hid ((s.take 1).2 = { s with p := s.p + 1 }) := Lib.hid (by rw [show (1 : Int) = ((1 : Nat) : Int) from rfl, take_c 1 h0 h1])
    have HR := Lib.hid (rd0 HH.out h0)
    have HL := Lib.hid (part_len HH.out h1)
    have HB := Lib.hid (part_byte HH.out (s.p - s.st) 1)
    have H1 := Lib.hid h1
    have H0 := Lib.hid h0
    clear h0 h1 hm
    go_enter Try.func45, Try.ntmps45
    go_wp2_with (first
      | (go_at_call 70; refine (rtake_ok _ _ _ _ _ _ _ _ HR.out 1 H1.out).mono ?_; rintro e w' ⟨⟨o, ⟨c, rfl⟩, hsl⟩, h2, h3⟩; have H2 := Lib.hid h2; clear h2; have HS := Lib.hid hsl; clear hsl)
      | (go_at_call 71; refine (rget _ _ _ _ _ HL.out _ (by omega) HB.out HS.out).mono ?_; rintro e w' ⟨rfl, rfl⟩))
    go_ret
    exact ⟨by rw [e1.out]; rfl, by rw [e2.out]; show Rd _ g h cap s.bs s.st (s.p + 1) s.ef s.ea; rw [H0.out]; exact H2.out, h3⟩

theorem rU2 (g h cap : Nat) (s : RS) (w : World) (H : RdS w g h cap s) :
    Calls Try.prog 46 #[.pointer (some ⟨g, 0, none⟩)] w fun e w' => e = .returned (.int .u64 (s.got 2)) ∧ RdS w' g h cap (s.take 2).2 ∧ Only w g w' := by
  have HH : Hid (RdS w g h cap s) := Lib.hid H
  clear H
  rcases three s 2 with h0 | ⟨h0, h1⟩ | ⟨h0, m, hm, h1⟩
  · have e1 : Hid (s.got 2 = 0) := Lib.hid (by unfold RS.got; rw [show (((2 : Nat) : Int)) = 2 from rfl, take_a 2 h0]; rfl)
    have e2 : Hid ((s.take 2).2 = s) := Lib.hid (by rw [take_a 2 h0])
    have h0' : (s.ef != 0) = true := by simpa using h0
    have H0 := Lib.hid h0'
    clear h0 h0'
    go_enter Try.func46, Try.ntmps46
    go_wp2_with (first
      | (go_at_call 70; refine (rtake_fault _ _ _ _ _ _ _ _ _ HH.out 2 H0.out).mono ?_; rintro e w' ⟨rfl, h2⟩)
      | (go_at_call 71; refine (rget_nil _).mono ?_; rintro e w' ⟨rfl, rfl⟩))
    go_ret
    exact ⟨by rw [e1.out]; rfl, by rw [e2.out]; exact HH.out.below h2, only_below h2 g⟩
  · have e1 : Hid (s.got 2 = 0) := Lib.hid (by unfold RS.got; rw [show (((2 : Nat) : Int)) = 2 from rfl, take_b 2 h0 h1]; rfl)
    have e2 : Hid ((s.take 2).2 = { s with ef := 4, ea := s.p }) := Lib.hid (by rw [take_b 2 h0 h1])
    have HR := Lib.hid (rd0 HH.out h0)
    have H1 := Lib.hid h1
    clear h0 h1
    go_enter Try.func46, Try.ntmps46
    go_wp2_with (first
      | (go_at_call 70; refine (rtake_short _ _ _ _ _ _ _ _ HR.out 2 H1.out).mono ?_; rintro e w' ⟨rfl, h2, h3⟩; have H2 := Lib.hid h2; clear h2)
      | (go_at_call 71; refine (rget_nil _).mono ?_; rintro e w' ⟨rfl, rfl⟩))
    go_ret
    exact ⟨by rw [e1.out]; rfl, by rw [e2.out]; exact H2.out, h3⟩
  · obtain rfl : m = 2 := by omega
    have e1 : Hid (s.got 2 = num ((s.bs.drop (s.p - s.st)).take 2)) := Lib.hid (by unfold RS.got; rw [take_c 2 h0 h1]; rfl)
    have e2 : Hid ((s.take 2).2 = { s with p := s.p + 2 }) := Lib.hid (by rw [show (2 : Int) = ((2 : Nat) : Int) from rfl, take_c 2 h0 h1])
    have HR := Lib.hid (rd0 HH.out h0)
    have HL := Lib.hid (part_len HH.out h1)
    have HB := Lib.hid (part_byte HH.out (s.p - s.st) 2)
    have H1 := Lib.hid h1
    have H0 := Lib.hid h0
    clear h0 h1 hm
    go_enter Try.func46, Try.ntmps46
    go_wp2_with (first
      | (go_at_call 70; refine (rtake_ok _ _ _ _ _ _ _ _ HR.out 2 H1.out).mono ?_; rintro e w' ⟨⟨o, ⟨c, rfl⟩, hsl⟩, h2, h3⟩; have H2 := Lib.hid h2; clear h2; have HS := Lib.hid hsl; clear hsl)
      | (go_at_call 71; refine (rget _ _ _ _ _ HL.out _ (by omega) HB.out HS.out).mono ?_; rintro e w' ⟨rfl, rfl⟩))
    go_ret
    exact ⟨by rw [e1.out]; rfl, by rw [e2.out]; show Rd _ g h cap s.bs s.st (s.p + 2) s.ef s.ea; rw [H0.out]; exact H2.out, h3⟩

theorem rU3 (g h cap : Nat) (s : RS) (w : World) (H : RdS w g h cap s) :
    Calls Try.prog 49 #[.pointer (some ⟨g, 0, none⟩)] w fun e w' => e = .returned (.int .u64 (s.got 3)) ∧ RdS w' g h cap (s.take 3).2 ∧ Only w g w' := by
  have HH : Hid (RdS w g h cap s) := Lib.hid H
  clear H
  rcases three s 3 with h0 | ⟨h0, h1⟩ | ⟨h0, m, hm, h1⟩
  · have e1 : Hid (s.got 3 = 0) := Lib.hid (by unfold RS.got; rw [show (((3 : Nat) : Int)) = 3 from rfl, take_a 3 h0]; rfl)
    have e2 : Hid ((s.take 3).2 = s) := Lib.hid (by rw [take_a 3 h0])
    have h0' : (s.ef != 0) = true := by simpa using h0
    have H0 := Lib.hid h0'
    clear h0 h0'
    go_enter Try.func49, Try.ntmps49
    go_wp2_with (first
      | (go_at_call 70; refine (rtake_fault _ _ _ _ _ _ _ _ _ HH.out 3 H0.out).mono ?_; rintro e w' ⟨rfl, h2⟩)
      | (go_at_call 71; refine (rget_nil _).mono ?_; rintro e w' ⟨rfl, rfl⟩))
    go_ret
    exact ⟨by rw [e1.out]; rfl, by rw [e2.out]; exact HH.out.below h2, only_below h2 g⟩
  · have e1 : Hid (s.got 3 = 0) := Lib.hid (by unfold RS.got; rw [show (((3 : Nat) : Int)) = 3 from rfl, take_b 3 h0 h1]; rfl)
    have e2 : Hid ((s.take 3).2 = { s with ef := 4, ea := s.p }) := Lib.hid (by rw [take_b 3 h0 h1])
    have HR := Lib.hid (rd0 HH.out h0)
    have H1 := Lib.hid h1
    clear h0 h1
    go_enter Try.func49, Try.ntmps49
    go_wp2_with (first
      | (go_at_call 70; refine (rtake_short _ _ _ _ _ _ _ _ HR.out 3 H1.out).mono ?_; rintro e w' ⟨rfl, h2, h3⟩; have H2 := Lib.hid h2; clear h2)
      | (go_at_call 71; refine (rget_nil _).mono ?_; rintro e w' ⟨rfl, rfl⟩))
    go_ret
    exact ⟨by rw [e1.out]; rfl, by rw [e2.out]; exact H2.out, h3⟩
  · obtain rfl : m = 3 := by omega
    have e1 : Hid (s.got 3 = num ((s.bs.drop (s.p - s.st)).take 3)) := Lib.hid (by unfold RS.got; rw [take_c 3 h0 h1]; rfl)
    have e2 : Hid ((s.take 3).2 = { s with p := s.p + 3 }) := Lib.hid (by rw [show (3 : Int) = ((3 : Nat) : Int) from rfl, take_c 3 h0 h1])
    have HR := Lib.hid (rd0 HH.out h0)
    have HL := Lib.hid (part_len HH.out h1)
    have HB := Lib.hid (part_byte HH.out (s.p - s.st) 3)
    have H1 := Lib.hid h1
    have H0 := Lib.hid h0
    clear h0 h1 hm
    go_enter Try.func49, Try.ntmps49
    go_wp2_with (first
      | (go_at_call 70; refine (rtake_ok _ _ _ _ _ _ _ _ HR.out 3 H1.out).mono ?_; rintro e w' ⟨⟨o, ⟨c, rfl⟩, hsl⟩, h2, h3⟩; have H2 := Lib.hid h2; clear h2; have HS := Lib.hid hsl; clear hsl)
      | (go_at_call 71; refine (rget _ _ _ _ _ HL.out _ (by omega) HB.out HS.out).mono ?_; rintro e w' ⟨rfl, rfl⟩))
    go_ret
    exact ⟨by rw [e1.out]; rfl, by rw [e2.out]; show Rd _ g h cap s.bs s.st (s.p + 3) s.ef s.ea; rw [H0.out]; exact H2.out, h3⟩

theorem rU4 (g h cap : Nat) (s : RS) (w : World) (H : RdS w g h cap s) :
    Calls Try.prog 47 #[.pointer (some ⟨g, 0, none⟩)] w fun e w' => e = .returned (.int .u64 (s.got 4)) ∧ RdS w' g h cap (s.take 4).2 ∧ Only w g w' := by
  have HH : Hid (RdS w g h cap s) := Lib.hid H
  clear H
  rcases three s 4 with h0 | ⟨h0, h1⟩ | ⟨h0, m, hm, h1⟩
  · have e1 : Hid (s.got 4 = 0) := Lib.hid (by unfold RS.got; rw [show (((4 : Nat) : Int)) = 4 from rfl, take_a 4 h0]; rfl)
    have e2 : Hid ((s.take 4).2 = s) := Lib.hid (by rw [take_a 4 h0])
    have h0' : (s.ef != 0) = true := by simpa using h0
    have H0 := Lib.hid h0'
    clear h0 h0'
    go_enter Try.func47, Try.ntmps47
    go_wp2_with (first
      | (go_at_call 70; refine (rtake_fault _ _ _ _ _ _ _ _ _ HH.out 4 H0.out).mono ?_; rintro e w' ⟨rfl, h2⟩)
      | (go_at_call 71; refine (rget_nil _).mono ?_; rintro e w' ⟨rfl, rfl⟩))
    go_ret
    exact ⟨by rw [e1.out]; rfl, by rw [e2.out]; exact HH.out.below h2, only_below h2 g⟩
  · have e1 : Hid (s.got 4 = 0) := Lib.hid (by unfold RS.got; rw [show (((4 : Nat) : Int)) = 4 from rfl, take_b 4 h0 h1]; rfl)
    have e2 : Hid ((s.take 4).2 = { s with ef := 4, ea := s.p }) := Lib.hid (by rw [take_b 4 h0 h1])
    have HR := Lib.hid (rd0 HH.out h0)
    have H1 := Lib.hid h1
    clear h0 h1
    go_enter Try.func47, Try.ntmps47
    go_wp2_with (first
      | (go_at_call 70; refine (rtake_short _ _ _ _ _ _ _ _ HR.out 4 H1.out).mono ?_; rintro e w' ⟨rfl, h2, h3⟩; have H2 := Lib.hid h2; clear h2)
      | (go_at_call 71; refine (rget_nil _).mono ?_; rintro e w' ⟨rfl, rfl⟩))
    go_ret
    exact ⟨by rw [e1.out]; rfl, by rw [e2.out]; exact H2.out, h3⟩
  · obtain rfl : m = 4 := by omega
    have e1 : Hid (s.got 4 = num ((s.bs.drop (s.p - s.st)).take 4)) := Lib.hid (by unfold RS.got; rw [take_c 4 h0 h1]; rfl)
    have e2 : Hid ((s.take 4).2 = { s with p := s.p + 4 }) := Lib.hid (by rw [show (4 : Int) = ((4 : Nat) : Int) from rfl, take_c 4 h0 h1])
    have HR := Lib.hid (rd0 HH.out h0)
    have HL := Lib.hid (part_len HH.out h1)
    have HB := Lib.hid (part_byte HH.out (s.p - s.st) 4)
    have H1 := Lib.hid h1
    have H0 := Lib.hid h0
    clear h0 h1 hm
    go_enter Try.func47, Try.ntmps47
    go_wp2_with (first
      | (go_at_call 70; refine (rtake_ok _ _ _ _ _ _ _ _ HR.out 4 H1.out).mono ?_; rintro e w' ⟨⟨o, ⟨c, rfl⟩, hsl⟩, h2, h3⟩; have H2 := Lib.hid h2; clear h2; have HS := Lib.hid hsl; clear hsl)
      | (go_at_call 71; refine (rget _ _ _ _ _ HL.out _ (by omega) HB.out HS.out).mono ?_; rintro e w' ⟨rfl, rfl⟩))
    go_ret
    exact ⟨by rw [e1.out]; rfl, by rw [e2.out]; show Rd _ g h cap s.bs s.st (s.p + 4) s.ef s.ea; rw [H0.out]; exact H2.out, h3⟩

theorem rU6 (g h cap : Nat) (s : RS) (w : World) (H : RdS w g h cap s) :
    Calls Try.prog 48 #[.pointer (some ⟨g, 0, none⟩)] w fun e w' => e = .returned (.int .u64 (s.got 6)) ∧ RdS w' g h cap (s.take 6).2 ∧ Only w g w' := by
  have HH : Hid (RdS w g h cap s) := Lib.hid H
  clear H
  rcases three s 6 with h0 | ⟨h0, h1⟩ | ⟨h0, m, hm, h1⟩
  · have e1 : Hid (s.got 6 = 0) := Lib.hid (by unfold RS.got; rw [show (((6 : Nat) : Int)) = 6 from rfl, take_a 6 h0]; rfl)
    have e2 : Hid ((s.take 6).2 = s) := Lib.hid (by rw [take_a 6 h0])
    have h0' : (s.ef != 0) = true := by simpa using h0
    have H0 := Lib.hid h0'
    clear h0 h0'
    go_enter Try.func48, Try.ntmps48
    go_wp2_with (first
      | (go_at_call 70; refine (rtake_fault _ _ _ _ _ _ _ _ _ HH.out 6 H0.out).mono ?_; rintro e w' ⟨rfl, h2⟩)
      | (go_at_call 71; refine (rget_nil _).mono ?_; rintro e w' ⟨rfl, rfl⟩))
    go_ret
    exact ⟨by rw [e1.out]; rfl, by rw [e2.out]; exact HH.out.below h2, only_below h2 g⟩
  · have e1 : Hid (s.got 6 = 0) := Lib.hid (by unfold RS.got; rw [show (((6 : Nat) : Int)) = 6 from rfl, take_b 6 h0 h1]; rfl)
    have e2 : Hid ((s.take 6).2 = { s with ef := 4, ea := s.p }) := Lib.hid (by rw [take_b 6 h0 h1])
    have HR := Lib.hid (rd0 HH.out h0)
    have H1 := Lib.hid h1
    clear h0 h1
    go_enter Try.func48, Try.ntmps48
    go_wp2_with (first
      | (go_at_call 70; refine (rtake_short _ _ _ _ _ _ _ _ HR.out 6 H1.out).mono ?_; rintro e w' ⟨rfl, h2, h3⟩; have H2 := Lib.hid h2; clear h2)
      | (go_at_call 71; refine (rget_nil _).mono ?_; rintro e w' ⟨rfl, rfl⟩))
    go_ret
    exact ⟨by rw [e1.out]; rfl, by rw [e2.out]; exact H2.out, h3⟩
  · obtain rfl : m = 6 := by omega
    have e1 : Hid (s.got 6 = num ((s.bs.drop (s.p - s.st)).take 6)) := Lib.hid (by unfold RS.got; rw [take_c 6 h0 h1]; rfl)
    have e2 : Hid ((s.take 6).2 = { s with p := s.p + 6 }) := Lib.hid (by rw [show (6 : Int) = ((6 : Nat) : Int) from rfl, take_c 6 h0 h1])
    have HR := Lib.hid (rd0 HH.out h0)
    have HL := Lib.hid (part_len HH.out h1)
    have HB := Lib.hid (part_byte HH.out (s.p - s.st) 6)
    have H1 := Lib.hid h1
    have H0 := Lib.hid h0
    clear h0 h1 hm
    go_enter Try.func48, Try.ntmps48
    go_wp2_with (first
      | (go_at_call 70; refine (rtake_ok _ _ _ _ _ _ _ _ HR.out 6 H1.out).mono ?_; rintro e w' ⟨⟨o, ⟨c, rfl⟩, hsl⟩, h2, h3⟩; have H2 := Lib.hid h2; clear h2; have HS := Lib.hid hsl; clear hsl)
      | (go_at_call 71; refine (rget _ _ _ _ _ HL.out _ (by omega) HB.out HS.out).mono ?_; rintro e w' ⟨rfl, rfl⟩))
    go_ret
    exact ⟨by rw [e1.out]; rfl, by rw [e2.out]; show Rd _ g h cap s.bs s.st (s.p + 6) s.ef s.ea; rw [H0.out]; exact H2.out, h3⟩

theorem rU8 (g h cap : Nat) (s : RS) (w : World) (H : RdS w g h cap s) :
    Calls Try.prog 91 #[.pointer (some ⟨g, 0, none⟩)] w fun e w' => e = .returned (.int .u64 (s.got 8)) ∧ RdS w' g h cap (s.take 8).2 ∧ Only w g w' := by
  have HH : Hid (RdS w g h cap s) := Lib.hid H
  clear H
  rcases three s 8 with h0 | ⟨h0, h1⟩ | ⟨h0, m, hm, h1⟩
  · have e1 : Hid (s.got 8 = 0) := Lib.hid (by unfold RS.got; rw [show (((8 : Nat) : Int)) = 8 from rfl, take_a 8 h0]; rfl)
    have e2 : Hid ((s.take 8).2 = s) := Lib.hid (by rw [take_a 8 h0])
    have h0' : (s.ef != 0) = true := by simpa using h0
    have H0 := Lib.hid h0'
    clear h0 h0'
    go_enter Try.func91, Try.ntmps91
    go_wp2_with (first
      | (go_at_call 70; refine (rtake_fault _ _ _ _ _ _ _ _ _ HH.out 8 H0.out).mono ?_; rintro e w' ⟨rfl, h2⟩)
      | (go_at_call 71; refine (rget_nil _).mono ?_; rintro e w' ⟨rfl, rfl⟩))
    go_ret
    exact ⟨by rw [e1.out]; rfl, by rw [e2.out]; exact HH.out.below h2, only_below h2 g⟩
  · have e1 : Hid (s.got 8 = 0) := Lib.hid (by unfold RS.got; rw [show (((8 : Nat) : Int)) = 8 from rfl, take_b 8 h0 h1]; rfl)
    have e2 : Hid ((s.take 8).2 = { s with ef := 4, ea := s.p }) := Lib.hid (by rw [take_b 8 h0 h1])
    have HR := Lib.hid (rd0 HH.out h0)
    have H1 := Lib.hid h1
    clear h0 h1
    go_enter Try.func91, Try.ntmps91
    go_wp2_with (first
      | (go_at_call 70; refine (rtake_short _ _ _ _ _ _ _ _ HR.out 8 H1.out).mono ?_; rintro e w' ⟨rfl, h2, h3⟩; have H2 := Lib.hid h2; clear h2)
      | (go_at_call 71; refine (rget_nil _).mono ?_; rintro e w' ⟨rfl, rfl⟩))
    go_ret
    exact ⟨by rw [e1.out]; rfl, by rw [e2.out]; exact H2.out, h3⟩
  · obtain rfl : m = 8 := by omega
    have e1 : Hid (s.got 8 = num ((s.bs.drop (s.p - s.st)).take 8)) := Lib.hid (by unfold RS.got; rw [take_c 8 h0 h1]; rfl)
    have e2 : Hid ((s.take 8).2 = { s with p := s.p + 8 }) := Lib.hid (by rw [show (8 : Int) = ((8 : Nat) : Int) from rfl, take_c 8 h0 h1])
    have HR := Lib.hid (rd0 HH.out h0)
    have HL := Lib.hid (part_len HH.out h1)
    have HB := Lib.hid (part_byte HH.out (s.p - s.st) 8)
    have H1 := Lib.hid h1
    have H0 := Lib.hid h0
    clear h0 h1 hm
    go_enter Try.func91, Try.ntmps91
    go_wp2_with (first
      | (go_at_call 70; refine (rtake_ok _ _ _ _ _ _ _ _ HR.out 8 H1.out).mono ?_; rintro e w' ⟨⟨o, ⟨c, rfl⟩, hsl⟩, h2, h3⟩; have H2 := Lib.hid h2; clear h2; have HS := Lib.hid hsl; clear hsl)
      | (go_at_call 71; refine (rget _ _ _ _ _ HL.out _ (by omega) HB.out HS.out).mono ?_; rintro e w' ⟨rfl, rfl⟩))
    go_ret
    exact ⟨by rw [e1.out]; rfl, by rw [e2.out]; show Rd _ g h cap s.bs s.st (s.p + 8) s.ef s.ea; rw [H0.out]; exact H2.out, h3⟩

end Go.Proofs.Ytgdfpmnbofnjfaa

namespace Go.Proofs.Ytgdfpmnbofnjfaa
open Go.RowKit
set_option maxRecDepth 100000

/-- A slice that reads as these bytes: nil, or an array of its own from base on. -/
def Got (w : World) (base : Nat) (v : Value) (xs : List Int) : Prop :=
  (v = .slice none 0 0 ∧ xs = []) ∨ ∃ h' c', v = .slice (some ⟨h', 0, none⟩) xs.length c' ∧ Row w h' c' xs ∧ base ≤ h'

theorem Got.below {w w' : World} {base : Nat} {v : Value} {xs : List Int} (h : Got w base v xs) (hb : Below w.heap.size w w') : Got w' base v xs := by
  rcases h with h | ⟨h', c', h1, h2, h3⟩
  · exact .inl h
  · exact .inr ⟨h', c', h1, h2.below hb, h3⟩

theorem rbytes (g h cap : Nat) (s : RS) (w : World) (H : RdS w g h cap s) (n : Int) :
    Calls Try.prog 44 #[.pointer (some ⟨g, 0, none⟩), .int .i64 n] w fun e w' => (∃ v, e = .returned v ∧ Got w' w.heap.size v ((s.take n).1.getD [])) ∧ RdS w' g h cap (s.take n).2 ∧ Only w g w' := by
  have HH : Hid (RdS w g h cap s) := Lib.hid H
  clear H
  rcases three s n with h0 | ⟨h0, h1⟩ | ⟨h0, m, hm, h1⟩
  · have e2 : Hid (s.take n = (none, s)) := Lib.hid (take_a n h0)
    have h0' : (s.ef != 0) = true := by simpa using h0
    have H0 := Lib.hid h0'
    clear h0 h0'
    go_enter Try.func44, Try.ntmps44
    go_wp2_with (first
      | (go_at_call 70; refine (rtake_fault _ _ _ _ _ _ _ _ _ HH.out n H0.out).mono ?_; rintro e w' ⟨rfl, h2⟩)
      | (go_at_call 69; refine (rclone_nil _).mono ?_; rintro e w' ⟨rfl, rfl⟩))
    go_ret
    rw [e2.out]
    exact ⟨⟨_, rfl, .inl ⟨rfl, rfl⟩⟩, HH.out.below h2, only_below h2 g⟩
  · have e2 : Hid (s.take n = (none, { s with ef := 4, ea := s.p })) := Lib.hid (take_b n h0 h1)
    have HR := Lib.hid (rd0 HH.out h0)
    have H1 := Lib.hid h1
    clear h0 h1
    go_enter Try.func44, Try.ntmps44
    go_wp2_with (first
      | (go_at_call 70; refine (rtake_short _ _ _ _ _ _ _ _ HR.out n H1.out).mono ?_; rintro e w' ⟨rfl, h2, h3⟩; have H2 := Lib.hid h2; clear h2)
      | (go_at_call 69; refine (rclone_nil _).mono ?_; rintro e w' ⟨rfl, rfl⟩))
    go_ret
    rw [e2.out]
    exact ⟨⟨_, rfl, .inl ⟨rfl, rfl⟩⟩, H2.out, h3⟩
  · subst hm
    have e2 : Hid (s.take m = (some ((s.bs.drop (s.p - s.st)).take m), { s with p := s.p + m })) := Lib.hid (take_c m h0 h1)
    have HR := Lib.hid (rd0 HH.out h0)
    have HL := Lib.hid (part_len HH.out h1)
    have hm : m ≤ 1000000 := by have := HH.out.small; have := HH.out.lo; omega
    have H1 := Lib.hid h1
    have H0 := Lib.hid h0
    clear h0 h1
    go_enter Try.func44, Try.ntmps44
    go_wp2_with (first
      | (go_at_call 70; refine (rtake_ok _ _ _ _ _ _ _ _ HR.out m H1.out).mono ?_; rintro e w1 ⟨⟨o, ⟨c, rfl⟩, hsl⟩, h2, h3⟩; have H2 := Lib.hid h2; clear h2; have HS := Lib.hid hsl; clear hsl)
      | (go_at_call 69; refine (rclone _ _ _ _ _ HL.out hm _ HS.out).mono ?_; rintro e w2 ⟨⟨h', c', rfl, hrow, hh⟩, hb2⟩; have HRow := Lib.hid hrow; clear hrow))
    go_ret
    rw [e2.out]
    refine ⟨⟨_, rfl, .inr ⟨h', c', ?_, HRow.out, Nat.le_trans h3.size hh⟩⟩, ?_, only_trans h3 (only_below hb2 g)⟩
    · show Value.slice (some ⟨h', 0, none⟩) m c' = Value.slice (some ⟨h', 0, none⟩) ((s.bs.drop (s.p - s.st)).take m).length c'
      rw [HL.out]
    · show Rd _ g h cap s.bs s.st (s.p + m) s.ef s.ea
      rw [H0.out]
      exact H2.out.below hb2

theorem rbytes_nil (w : World) (n : Int) :
    Calls Try.prog 44 #[.pointer none, .int .i64 n] w fun e w' => e = .returned (.slice none 0 0) ∧ Below w.heap.size w w' := by
  go_enter Try.func44, Try.ntmps44
  go_wp2_with (first
    | (go_at_call 70; refine (rtake_nil _ n).mono ?_; rintro e w' ⟨rfl, h2⟩)
    | (go_at_call 69; refine (rclone_nil _).mono ?_; rintro e w' ⟨rfl, rfl⟩))
  go_ret
  exact ⟨rfl, h2⟩

theorem rU8_nil (w : World) :
    Calls Try.prog 45 #[.pointer none] w fun e w' => e = .returned (.int .u64 0) ∧ Below w.heap.size w w' := by
  go_enter Try.func45, Try.ntmps45
  go_wp2_with (first
    | (go_at_call 70; refine (rtake_nil _ 1).mono ?_; rintro e w' ⟨rfl, h2⟩)
    | (go_at_call 71; refine (rget_nil _).mono ?_; rintro e w' ⟨rfl, rfl⟩))
  go_ret
  exact ⟨rfl, h2⟩

theorem rU48_nil (w : World) :
    Calls Try.prog 48 #[.pointer none] w fun e w' => e = .returned (.int .u64 0) ∧ Below w.heap.size w w' := by
  go_enter Try.func48, Try.ntmps48
  go_wp2_with (first
    | (go_at_call 70; refine (rtake_nil _ 6).mono ?_; rintro e w' ⟨rfl, h2⟩)
    | (go_at_call 71; refine (rget_nil _).mono ?_; rintro e w' ⟨rfl, rfl⟩))
  go_ret
  exact ⟨rfl, h2⟩


theorem rfail (g h cap : Nat) (s : RS) (w : World) (H : RdS w g h cap s) (x : Int) :
    Calls Try.prog 85 #[.pointer (some ⟨g, 0, none⟩), .int .i64 x] w fun e w' => e = .returned (.tuple #[]) ∧ RdS w' g h cap (s.fail x) ∧ Only w g w' := by
  by_cases h0 : x ≠ 0 ∧ s.ef = 0
  · refine (rfail_yes _ _ _ _ _ _ _ _ (rd0 H h0.2) x (by simpa using h0.1)).mono ?_
    rintro e w' ⟨rfl, h2, h3⟩
    refine ⟨rfl, ?_, h3⟩
    unfold RS.fail
    rw [if_pos h0]
    exact h2
  · refine (rfail_no _ _ _ _ _ _ _ _ _ H x (by
      by_cases h1 : x = 0
      · exact .inl (by simpa using h1)
      · exact .inr (by simp; intro h2; exact h0 ⟨h1, h2⟩))).mono ?_
    rintro e w' ⟨rfl, rfl⟩
    refine ⟨rfl, ?_, only_refl w g⟩
    unfold RS.fail
    rw [if_neg h0]
    exact H

end Go.Proofs.Ytgdfpmnbofnjfaa
