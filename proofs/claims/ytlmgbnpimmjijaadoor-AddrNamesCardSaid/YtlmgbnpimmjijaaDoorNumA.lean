/- What the contracts of numbers lean on. -/
import Derived.Test.YtlmgbnpimmjijaaDoorDig
import Derived.Test.YtlmgbnpimmjijaaDoorStr
import Derived.Test.YtlmgbnpimmjijaaDoorShelf
import Derived.LoopTactic
import Derived.OwnWalk
import Derived.Deep.LoopGhost
namespace Go.Proofs.YtlmgbnpimmjijaaDoor
open Go.RowKit

/-- The three notations. -/
def decN : Nota := ⟨10, 1, 3, false, 255⟩
def hexN : Nota := ⟨16, 2, 2, true, 255⟩
def lenN : Nota := ⟨10, 1, 2, false, 32⟩

/-- What 'numbers' answers: whether there are such numbers, and, if so, a slice that holds them. -/
def NumsSaid (T : TypeId) (q : IntKind) (w : World) (R : Option (List Int)) (e : Ending) (w' : World) : Prop :=
  ∃ v, e = .returned (.tuple #[v, .bool R.isSome]) ∧ Below w.heap.size w w' ∧ ∀ l, R = some l → w'.ownsRow (w.heap.size + 1) T 1 v l.length (l.map (Value.int q))

theorem head_of {p : List UInt8} {h : 0 < (⟨p.toArray⟩ : ByteArray).size} {b : Bool} (e : ((((⟨p.toArray⟩ : ByteArray)[0]'h).toNat : Int) == 48) = b) : decide (p[0]?.getD 0 = 48) = b := by
  cases p with
  | nil => simp [ByteArray.size] at h
  | cons a t =>
    rw [← e, Bool.eq_iff_iff]
    simp [← UInt8.toNat_inj]
    show a.toNat = 48 ↔ (a.toNat : Int) = 48
    omega

theorem head_to {p : List UInt8} (h : 0 < (⟨p.toArray⟩ : ByteArray).size) {b : Bool} (e : decide (p[0]?.getD 0 = 48) = b) : ((((⟨p.toArray⟩ : ByteArray)[0]'h).toNat : Int) == 48) = b := by
  rw [← e]
  exact (head_of rfl).symm

theorem new_one (w : World) (v : Value) (t : TypeId) : ∀ (j : Nat) u, [v][j]? = some u → (w.alloc (.cells #[v] t)).cell? (Addr.add ⟨w.heap.size, 0, none⟩ j) = some u := by
  intro j u hj
  match j, hj with
  | 0, hj => simp at hj; subst hj; simp [Addr.add]
theorem one_cell (q : IntKind) (n : Int) : ∀ u ∈ [Value.int q n], u.oneCell' = true := fun u hu => by simp at hu; subst hu; rfl
theorem below_app {B N : Nat} {W w w' : World} {o : Obj} {v : Value} {T : TypeId} {n : Nat} {xs : List Value} (h : Below N W w) (hg : (w.alloc o).grownBy w' v.ownBlock) (ho : w.ownsRow B T 1 v n xs) (hs : N ≤ w.heap.size) (hB : N ≤ B) : Below N W w' :=
  (h.alloc hs _).grown hg (by simp; omega) (fun k hk => by have := (ho.lt k hk).1; omega)
theorem digit_e (p : List UInt8) (q : Nat) (hq : q < p.length) (D : Int) (hD : D = dg (p[q].toNat : Int)) (w : World) :
    Calls Tryd.prog 40 #[.int .u8 (((⟨p.toArray⟩ : ByteArray)[q]'(by simpa [ByteArray.size] using hq)).toNat : Int)] w fun e w' => e = .returned (.int .i64 D) ∧ w = w' := by
  rw [hD]
  exact digit_b _ (by omega) (by have := (p[q]).toNat_lt; show (p[q].toNat : Int) ≤ 255; omega) w
theorem pow_small {S : Int} {q : Nat} (h : S < 16 ^ q) (hq : q ≤ 3) : S ≤ 4095 := by
  have h4 : q = 0 ∨ q = 1 ∨ q = 2 ∨ q = 3 := by omega
  rcases h4 with rfl | rfl | rfl | rfl <;> simp at h <;> omega
theorem pow_step16 {S D : Int} {q : Nat} (h : S < 16 ^ q) (hd : D ≤ 15) : S * 16 + D < 16 ^ (q + 1) := by
  rw [Int.pow_succ]
  omega
theorem pow_step {S D : Int} {q : Nat} (h : S < 16 ^ q) (hd : D ≤ 9) : S * 10 + D < 16 ^ (q + 1) := by
  have hp : (0 : Int) < 16 ^ q := Int.pow_pos (by omega)
  rw [Int.pow_succ]
  omega

theorem cut_b (l sep p r : List UInt8) (b : Bool) (h : Lib.cut l sep = (p, r, b)) (hs : l.length ≤ 200) (m : Int) (w : World) (hm : w.cell? ⟨3, 0, none⟩ = some (.int .i64 m)) :
    Calls Tryd.prog 28 #[.string ⟨l.toArray⟩, .string ⟨sep.toArray⟩] w fun e w' => e = .returned (.tuple #[.string ⟨p.toArray⟩, .string ⟨r.toArray⟩, .bool b]) ∧ ∃ n, w' = w.drewN n := by
  have c := Tryd.strings_Cut ⟨l.toArray⟩ ⟨sep.toArray⟩ m w (by show l.toArray.size < _; simp; omega) hm
  simp only [h] at c
  exact c

end Go.Proofs.YtlmgbnpimmjijaaDoor
