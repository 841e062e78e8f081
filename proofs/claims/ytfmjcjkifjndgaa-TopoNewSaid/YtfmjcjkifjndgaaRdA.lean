/- Readers: the words for their memory, and the contracts of their small functions. -/
import Derived.Test.YtfmjcjkifjndgaaRows
import Derived.WalkKit
import Derived.ProofKit
import Derived.OpenShut
import Derived.Lib.Hide
import Derived.BigQuiet
import Derived.Deep.QuietTactic
import Derived.Deep.Draws
import Derived.Deep.AppendLies
import Derived.RegionTactic
import Derived.ChangeAlike
import Derived.OwnWalk
import Derived.Below
import Derived.WalkSpells
import Derived.Laws.Rows
import Derived.Outline
namespace Go.Proofs.Ytfmjcjkifjndgaa
open Go.RowKit

/-- A block of the heap, whole. -/
def Has (w : World) (g : Nat) (t : TypeId) (cs : Array Value) : Prop := w.heap[g]? = some (.cells cs t (0, 0))

section
variable {w w' : World} {g g' : Nat} {t t' : TypeId} {cs cs' : Array Value}
theorem Has.lt (h : Has w g t cs) : g < w.heap.size := by
  rcases Nat.lt_or_ge g w.heap.size with hl | hl
  · exact hl
  · unfold Has at h; rw [Array.getElem?_eq_none hl] at h; cases h
theorem Has.cell (h : Has w g t cs) (i : Nat) : w.cell? ⟨g, i, none⟩ = cs[i]? := cell_of_row w g i cs t (0, 0) h
theorem Has.free (h : Has w g t cs) (i : Nat) : w.frozen? ⟨g, i, none⟩ = false := by
  unfold Has at h
  simp [World.frozen?, h]
theorem Has.unlike (h : Has w g t cs) (h' : Has w g' t' cs') (hne : t ≠ t') : g ≠ g' := by
  rintro rfl
  unfold Has at h h'
  rw [h] at h'
  injection h' with h'
  injection h' with _ ht
  exact hne ht
theorem Has.grown {row : Option Nat} (h : Has w g t cs) (hg : w.grownBy w' row) (hne : some g ≠ row) : Has w' g t cs := (hg.block g h.lt hne).trans h
theorem Has.below (h : Has w g t cs) (hb : Below w.heap.size w w') : Has w' g t cs := (hb.block g h.lt).trans h
theorem Has.set_ (h : Has w g t cs) (i : Nat) (u : Value) : Has (w.setCell ⟨g, i, none⟩ u) g t (cs.setIfInBounds i u) := by
  unfold Has at h ⊢
  simp [World.setCell, Array.getElem?_modify, h]
theorem Has.new (w : World) (t : TypeId) (cs : Array Value) : Has (w.alloc (.cells cs t)) w.heap.size t cs := heap_alloc_new w _
end

/-- Nothing but block g, and what is new, has turned. -/
abbrev Only (w : World) (g : Nat) (w' : World) : Prop := w.grownBy w' (some g)

section
variable {a w w' : World} {g : Nat}
theorem only_refl (w : World) (g : Nat) : Only w g w := World.grownBy.refl w _
theorem only_drew (h : Only a g w) : Only a g w.drew := ⟨h.os, h.tape, h.output, h.size, h.block⟩
theorem only_drewN (h : Only a g w) (n : Nat) : Only a g (w.drewN n) := ⟨h.os, h.tape, h.output, h.size, h.block⟩
theorem only_alloc (h : Only a g w) (o : Obj) : Only a g (w.alloc o) :=
  ⟨h.os, h.tape, h.output, Nat.le_trans h.size (by simp), fun i hi hne => (Below.heap_alloc w o i (Nat.lt_of_lt_of_le hi h.size)).trans (h.block i hi hne)⟩
theorem only_set (h : Only a g w) {p : Addr} (hp : p.block = g ∨ a.heap.size ≤ p.block) (u : Value) : Only a g (w.setCell p u) :=
  ⟨h.os, h.tape, h.output, by simpa [World.setCell] using h.size, fun i hi hne => (Below.heap_setCell w p u i (by
    rintro rfl
    rcases hp with hp | hp
    · exact hne (by rw [hp])
    · omega)).trans (h.block i hi hne)⟩
theorem only_trans (h : Only a g w) (k : Only w g w') : Only a g w' :=
  ⟨k.os.trans h.os, k.tape.trans h.tape, k.output.trans h.output, Nat.le_trans h.size k.size, fun i hi hne => (k.block i (Nat.lt_of_lt_of_le hi h.size) hne).trans (h.block i hi hne)⟩
theorem only_below (h : Below a.heap.size a w) (g : Nat) : Only a g w := ⟨h.os, h.tape, h.output, h.size, fun i hi _ => h.block i hi⟩
/-- What turned a new block alone turned no old one. -/
theorem below_only {B : Nat} (h : Below B a w) (k : Only w g w') (hg : B ≤ g) (hB : B ≤ w.heap.size) : Below B a w' :=
  ⟨k.os.trans h.os, k.tape.trans h.tape, k.output.trans h.output, Nat.le_trans h.size k.size, fun i hi => (k.block i (by omega) (by rintro ⟨⟩; omega)).trans (h.block i hi)⟩
end

/-- The cells of a reader. -/
abbrev rdc (st p en : Int) (h n cap : Nat) (ef ea : Int) : Array Value := #[.int .i64 st, .int .i64 p, .int .i64 en, .slice (some ⟨h, 0, none⟩) n cap, .int .i64 ef, .int .i64 ea]

/-- A list of bytes as cells. -/
abbrev u8s (bs : List Int) : List Value := bs.map (Value.int .u8)

/-- Block h is an array whose first cells are these bytes. -/
def Row (w : World) (h cap : Nat) (bs : List Int) : Prop := ∃ cur : Array Value, Has w h 5 cur ∧ cur.size = cap ∧ cur.toList.take bs.length = u8s bs ∧ bs.length ≤ cap ∧ cap ≤ maxLen

theorem Row.cell {w : World} {h cap : Nat} {bs : List Int} (H : Row w h cap bs) (j : Nat) (hj : j < bs.length) : w.cell? ⟨h, j, none⟩ = some (.int .u8 bs[j]) := by
  obtain ⟨cur, hh, hs, ht, hl, _⟩ := H
  rw [hh.cell j]
  have h1 : cur.toList[j]? = (cur.toList.take bs.length)[j]? := by rw [List.getElem?_take_of_lt hj]
  rw [← Array.getElem?_toList, h1, ht]
  simp [hj]

theorem Row.grown {w w' : World} {h cap : Nat} {bs : List Int} {row : Option Nat} (H : Row w h cap bs) (hg : w.grownBy w' row) (hne : some h ≠ row) : Row w' h cap bs := by
  obtain ⟨cur, hh, r⟩ := H
  exact ⟨cur, hh.grown hg hne, r⟩
theorem Row.below {w w' : World} {h cap : Nat} {bs : List Int} (H : Row w h cap bs) (hb : Below w.heap.size w w') : Row w' h cap bs := by
  obtain ⟨cur, hh, r⟩ := H
  exact ⟨cur, hh.below hb, r⟩

section
variable {w w' : World} {g h cap : Nat} {bs : List Int} {st p : Nat} {ef ea : Int}
end

end Go.Proofs.Ytfmjcjkifjndgaa
