/- Communities: the words for memory; the table of kinds; a community built. -/
import Derived.Test.YtofbgpgngplgpaaDoorRows
import Derived.WalkKit
import Derived.ProofKit
import Derived.OpenShut
import Derived.Lib.Hide
import Derived.BigQuiet
import Derived.Deep.QuietTactic
import Derived.Deep.Draws
import Derived.Deep.AppendLies
import Derived.Deep.RegionHeld3
import Derived.Deep.DeepCutAuto
import Derived.Deep.CutBlock
import Derived.RegionTactic
import Derived.ChangeAlike
import Derived.OwnWalk
import Derived.Below
import Derived.WalkSpells
import Derived.Laws.Rows
import Derived.Outline
namespace Go.Proofs.YtofbgpgngplgpaaDoor
open Go.RowKit
set_option linter.unusedVariables false
set_option maxRecDepth 100000

/-- A block of the heap, whole. -/
def Has (w : World) (g : Nat) (t : TypeId) (cs : Array Value) : Prop := w.heap[g]? = some (.cells cs t (0, 0))

section
variable {w w' : World} {g g' : Nat} {t t' : TypeId} {cs cs' : Array Value}
theorem Has.lt (h : Has w g t cs) : g < w.heap.size := by
  rcases Nat.lt_or_ge g w.heap.size with hl | hl
  · exact hl
  · unfold Has at h; rw [Array.getElem?_eq_none hl] at h; cases h
theorem Has.cell (h : Has w g t cs) (i : Nat) : w.cell? ⟨g, i, none⟩ = cs[i]? := cell_of_row w g i cs t (0, 0) h
theorem Has.free (h : Has w g t cs) (i : Nat) : w.frozen? ⟨g, i, none⟩ = false := by
  unfold Has at h
  simp [World.frozen?, h]
theorem Has.below (h : Has w g t cs) (hb : Below w.heap.size w w') : Has w' g t cs := (hb.block g h.lt).trans h
theorem Has.grown {row : Option Nat} (h : Has w g t cs) (hg : w.grownBy w' row) (hne : some g ≠ row) : Has w' g t cs := (hg.block g h.lt hne).trans h
theorem Has.set_ (h : Has w g t cs) (i : Nat) (u : Value) : Has (w.setCell ⟨g, i, none⟩ u) g t (cs.setIfInBounds i u) := by
  unfold Has at h ⊢
  simp [World.setCell, Array.getElem?_modify, h]
theorem Has.set_other (h : Has w g t cs) (hne : g ≠ g') (i : Nat) (u : Value) : Has (w.setCell ⟨g', i, none⟩ u) g t cs := by
  unfold Has at h ⊢
  rw [← h]
  simp [World.setCell, Array.getElem?_modify, Ne.symm hne]
theorem Has.new (w : World) (t : TypeId) (cs : Array Value) : Has (w.alloc (.cells cs t)) w.heap.size t cs := heap_alloc_new w _
theorem Has.alloc (h : Has w g t cs) (o : Obj) : Has (w.alloc o) g t cs := h.below ((Below.refl _ w).alloc (Nat.le_refl _) o)
theorem Has.drewN (h : Has w g t cs) (n : Nat) : Has (w.drewN n) g t cs := h
end

/-- A community by value. -/
abbrev cm (a b c d e f g h : Int) : Value := .agg #[.int .u8 a, .int .u8 b, .int .u8 c, .int .u8 d, .int .u8 e, .int .u8 f, .int .u8 g, .int .u8 h]

/-- The types of the kinds. -/
def kh (k : Nat) : Int := [0, 0, 3, 6, 6, 6, 6, 6].getD k 0
def kl (k : Nat) : Int := [0, 2, 12, 0, 1, 2, 3, 6].getD k 0

/-- The cells of the table of kinds. -/
abbrev kcs : Array Value := #[.int .i64 1, .int .u8 0, .int .u8 2, .int .i64 2, .int .u8 3, .int .u8 12, .int .i64 3, .int .u8 6, .int .u8 0, .int .i64 4, .int .u8 6, .int .u8 1, .int .i64 5, .int .u8 6, .int .u8 2, .int .i64 6, .int .u8 6, .int .u8 3, .int .i64 7, .int .u8 6, .int .u8 6]

def GK (w : World) : Prop := ∃ t fr, w.heap[0]? = some (.cells kcs t fr)

theorem GK.keep {w w' : World} (h : GK w) (hb : Below w.heap.size w w') : GK w' := by
  obtain ⟨t, fr, hg⟩ := h
  have hlt : 0 < w.heap.size := by
    rcases Nat.lt_or_ge 0 w.heap.size with hl | hl
    · exact hl
    · rw [Array.getElem?_eq_none hl] at hg; cases hg
  exact ⟨t, fr, (hb.block _ hlt).trans hg⟩

theorem kidx0 (w : World) : (Instr.index 72 (.agg kcs) (.int .i64 0)).run Tryd.prog w = .ok (.agg #[.int .i64 1, .int .u8 0, .int .u8 2]) w := by kernel_rfl
theorem kidx1 (w : World) : (Instr.index 72 (.agg kcs) (.int .i64 1)).run Tryd.prog w = .ok (.agg #[.int .i64 2, .int .u8 3, .int .u8 12]) w := by kernel_rfl
theorem kidx2 (w : World) : (Instr.index 72 (.agg kcs) (.int .i64 2)).run Tryd.prog w = .ok (.agg #[.int .i64 3, .int .u8 6, .int .u8 0]) w := by kernel_rfl
theorem kidx3 (w : World) : (Instr.index 72 (.agg kcs) (.int .i64 3)).run Tryd.prog w = .ok (.agg #[.int .i64 4, .int .u8 6, .int .u8 1]) w := by kernel_rfl
theorem kidx4 (w : World) : (Instr.index 72 (.agg kcs) (.int .i64 4)).run Tryd.prog w = .ok (.agg #[.int .i64 5, .int .u8 6, .int .u8 2]) w := by kernel_rfl
theorem kidx5 (w : World) : (Instr.index 72 (.agg kcs) (.int .i64 5)).run Tryd.prog w = .ok (.agg #[.int .i64 6, .int .u8 6, .int .u8 3]) w := by kernel_rfl
theorem kidx6 (w : World) : (Instr.index 72 (.agg kcs) (.int .i64 6)).run Tryd.prog w = .ok (.agg #[.int .i64 7, .int .u8 6, .int .u8 6]) w := by kernel_rfl

set_option maxHeartbeats 1000000 in
/-- The kind of a community. -/
theorem kind_any (a b c d e f g h : Int) (w : World) (hw : GK w) (k : Nat) (hk : k = if a = 0 ∧ b = 2 then 1 else if a = 3 ∧ b = 12 then 2 else if a = 6 ∧ b = 0 then 3 else if a = 6 ∧ b = 1 then 4 else if a = 6 ∧ b = 2 then 5 else if a = 6 ∧ b = 3 then 6 else if a = 6 ∧ b = 6 then 7 else 0) :
    Calls Tryd.prog 18 #[cm a b c d e f g h] w fun en w' => en = .returned (.int .i64 (k : Int)) ∧ Below w.heap.size w w' := by
  obtain ⟨tt, fr, hg⟩ := hw.keep ((Below.refl _ w).alloc (Nat.le_refl _) (.cells #[.int .u8 a, .int .u8 b, .int .u8 c, .int .u8 d, .int .u8 e, .int .u8 f, .int .u8 g, .int .u8 h] 24))
  have HK := Lib.hid hk
  have HG := Lib.hid hg
  clear hk hg hw
  go_enter Tryd.func18, Tryd.ntmps18
  go_wp2_with (refine wpList_load_row rfl 72 _ rfl 0 rfl tt _ fr _ HG.out Tryd.underlying72 rfl (by kernel_rfl) ?_)
  go_loopw [6] (fun i wr => ∃ n : Nat, n ≤ 7 ∧ i = .int .i64 n ∧ Has wr w.heap.size 24 #[.int .u8 a, .int .u8 b, .int .u8 c, .int .u8 d, .int .u8 e, .int .u8 f, .int .u8 g, .int .u8 h] ∧ Below w.heap.size w wr ∧ (∀ j, 1 ≤ j → j ≤ n → ¬ (a = kh j ∧ b = kl j))) (fun i _ => 7 - (intOf i).toNat)
  case atStart => exact ⟨0, by omega, rfl, Has.new _ _ _, (Below.refl _ w).alloc (Nat.le_refl _) _, fun j h1 h2 => by omega⟩
  case round =>
    obtain ⟨n, hn, rfl, hc, hb, hneg⟩ := hrel
    have hlt := hc.lt
    have c0 := hc.cell 0
    have c1 := hc.cell 1
    simp only [List.getElem?_toArray, List.getElem?_cons_zero, List.getElem?_cons_succ] at c0 c1
    have HC := Lib.hid hc
    have HB := Lib.hid hb
    have HN := Lib.hid hneg
    clear hc hb hneg
    have hn8 : n = 0 ∨ n = 1 ∨ n = 2 ∨ n = 3 ∨ n = 4 ∨ n = 5 ∨ n = 6 ∨ n = 7 := by omega
    clear hn
    rcases hn8 with rfl | rfl | rfl | rfl | rfl | rfl | rfl | rfl
    · have hx := kidx0
      by_cases h1 : a = 0
      · by_cases h2 : b = 2
        · subst h1 h2
          go_wp2_with fail
          go_ret
          exact ⟨by rw [HK.out]; rfl, HB.out.alloc HB.out.size _⟩
        · have hq : (b == 2) = false := by simpa using h2
          subst h1
          go_wp2_with fail
          go_roundw
          case rel =>
            refine ⟨1, by omega, by go_num, HC.out.alloc _, HB.out.alloc HB.out.size _, fun j j1 j2 => ?_⟩
            by_cases hj : j = 1
            · subst hj; simp [kh, kl]; first | exact h2 | (intro _; exact h2)
            · exact HN.out j j1 (by omega)
          case measure => simp [intOf]
      · have hq : (a == 0) = false := by simpa using h1
        go_wp2_with fail
        go_roundw
        case rel =>
          refine ⟨1, by omega, by go_num, HC.out.alloc _, HB.out.alloc HB.out.size _, fun j j1 j2 => ?_⟩
          by_cases hj : j = 1
          · subst hj; simp [kh, kl]; intro h9; exact absurd h9 h1
          · exact HN.out j j1 (by omega)
        case measure => simp [intOf]
    · have hx := kidx1
      by_cases h1 : a = 3
      · by_cases h2 : b = 12
        · subst h1 h2
          go_wp2_with fail
          go_ret
          exact ⟨by rw [HK.out]; rfl, HB.out.alloc HB.out.size _⟩
        · have hq : (b == 12) = false := by simpa using h2
          subst h1
          go_wp2_with fail
          go_roundw
          case rel =>
            refine ⟨2, by omega, by go_num, HC.out.alloc _, HB.out.alloc HB.out.size _, fun j j1 j2 => ?_⟩
            by_cases hj : j = 2
            · subst hj; simp [kh, kl]; first | exact h2 | (intro _; exact h2)
            · exact HN.out j j1 (by omega)
          case measure => simp [intOf]
      · have hq : (a == 3) = false := by simpa using h1
        go_wp2_with fail
        go_roundw
        case rel =>
          refine ⟨2, by omega, by go_num, HC.out.alloc _, HB.out.alloc HB.out.size _, fun j j1 j2 => ?_⟩
          by_cases hj : j = 2
          · subst hj; simp [kh, kl]; intro h9; exact absurd h9 h1
          · exact HN.out j j1 (by omega)
        case measure => simp [intOf]
    · have hx := kidx2
      by_cases h1 : a = 6
      · by_cases h2 : b = 0
        · subst h1 h2
          go_wp2_with fail
          go_ret
          exact ⟨by rw [HK.out]; rfl, HB.out.alloc HB.out.size _⟩
        · have hq : (b == 0) = false := by simpa using h2
          subst h1
          go_wp2_with fail
          go_roundw
          case rel =>
            refine ⟨3, by omega, by go_num, HC.out.alloc _, HB.out.alloc HB.out.size _, fun j j1 j2 => ?_⟩
            by_cases hj : j = 3
            · subst hj; simp [kh, kl]; first | exact h2 | (intro _; exact h2)
            · exact HN.out j j1 (by omega)
          case measure => simp [intOf]
      · have hq : (a == 6) = false := by simpa using h1
        go_wp2_with fail
        go_roundw
        case rel =>
          refine ⟨3, by omega, by go_num, HC.out.alloc _, HB.out.alloc HB.out.size _, fun j j1 j2 => ?_⟩
          by_cases hj : j = 3
          · subst hj; simp [kh, kl]; intro h9; exact absurd h9 h1
          · exact HN.out j j1 (by omega)
        case measure => simp [intOf]
    · have hx := kidx3
      by_cases h1 : a = 6
      · by_cases h2 : b = 1
        · subst h1 h2
          go_wp2_with fail
          go_ret
          exact ⟨by rw [HK.out]; rfl, HB.out.alloc HB.out.size _⟩
        · have hq : (b == 1) = false := by simpa using h2
          subst h1
          go_wp2_with fail
          go_roundw
          case rel =>
            refine ⟨4, by omega, by go_num, HC.out.alloc _, HB.out.alloc HB.out.size _, fun j j1 j2 => ?_⟩
            by_cases hj : j = 4
            · subst hj; simp [kh, kl]; first | exact h2 | (intro _; exact h2)
            · exact HN.out j j1 (by omega)
          case measure => simp [intOf]
      · have hq : (a == 6) = false := by simpa using h1
        go_wp2_with fail
        go_roundw
        case rel =>
          refine ⟨4, by omega, by go_num, HC.out.alloc _, HB.out.alloc HB.out.size _, fun j j1 j2 => ?_⟩
          by_cases hj : j = 4
          · subst hj; simp [kh, kl]; intro h9; exact absurd h9 h1
          · exact HN.out j j1 (by omega)
        case measure => simp [intOf]
    · have hx := kidx4
      by_cases h1 : a = 6
      · by_cases h2 : b = 2
        · subst h1 h2
          go_wp2_with fail
          go_ret
          exact ⟨by rw [HK.out]; rfl, HB.out.alloc HB.out.size _⟩
        · have hq : (b == 2) = false := by simpa using h2
          subst h1
          go_wp2_with fail
          go_roundw
          case rel =>
            refine ⟨5, by omega, by go_num, HC.out.alloc _, HB.out.alloc HB.out.size _, fun j j1 j2 => ?_⟩
            by_cases hj : j = 5
            · subst hj; simp [kh, kl]; first | exact h2 | (intro _; exact h2)
            · exact HN.out j j1 (by omega)
          case measure => simp [intOf]
      · have hq : (a == 6) = false := by simpa using h1
        go_wp2_with fail
        go_roundw
        case rel =>
          refine ⟨5, by omega, by go_num, HC.out.alloc _, HB.out.alloc HB.out.size _, fun j j1 j2 => ?_⟩
          by_cases hj : j = 5
          · subst hj; simp [kh, kl]; intro h9; exact absurd h9 h1
          · exact HN.out j j1 (by omega)
        case measure => simp [intOf]
    · have hx := kidx5
      by_cases h1 : a = 6
      · by_cases h2 : b = 3
        · subst h1 h2
          go_wp2_with fail
          go_ret
          exact ⟨by rw [HK.out]; rfl, HB.out.alloc HB.out.size _⟩
        · have hq : (b == 3) = false := by simpa using h2
          subst h1
          go_wp2_with fail
          go_roundw
          case rel =>
            refine ⟨6, by omega, by go_num, HC.out.alloc _, HB.out.alloc HB.out.size _, fun j j1 j2 => ?_⟩
            by_cases hj : j = 6
            · subst hj; simp [kh, kl]; first | exact h2 | (intro _; exact h2)
            · exact HN.out j j1 (by omega)
          case measure => simp [intOf]
      · have hq : (a == 6) = false := by simpa using h1
        go_wp2_with fail
        go_roundw
        case rel =>
          refine ⟨6, by omega, by go_num, HC.out.alloc _, HB.out.alloc HB.out.size _, fun j j1 j2 => ?_⟩
          by_cases hj : j = 6
          · subst hj; simp [kh, kl]; intro h9; exact absurd h9 h1
          · exact HN.out j j1 (by omega)
        case measure => simp [intOf]
    · have hx := kidx6
      by_cases h1 : a = 6
      · by_cases h2 : b = 6
        · subst h1 h2
          go_wp2_with fail
          go_ret
          exact ⟨by rw [HK.out]; rfl, HB.out.alloc HB.out.size _⟩
        · have hq : (b == 6) = false := by simpa using h2
          subst h1
          go_wp2_with fail
          go_roundw
          case rel =>
            refine ⟨7, by omega, by go_num, HC.out.alloc _, HB.out.alloc HB.out.size _, fun j j1 j2 => ?_⟩
            by_cases hj : j = 7
            · subst hj; simp [kh, kl]; first | exact h2 | (intro _; exact h2)
            · exact HN.out j j1 (by omega)
          case measure => simp [intOf]
      · have hq : (a == 6) = false := by simpa using h1
        go_wp2_with fail
        go_roundw
        case rel =>
          refine ⟨7, by omega, by go_num, HC.out.alloc _, HB.out.alloc HB.out.size _, fun j j1 j2 => ?_⟩
          by_cases hj : j = 7
          · subst hj; simp [kh, kl]; intro h9; exact absurd h9 h1
          · exact HN.out j j1 (by omega)
        case measure => simp [intOf]
    · go_wp2_with fail
      go_ret
      refine ⟨?_, HB.out⟩
      have e1 := HN.out 1 (by omega) (by omega)
      have e2 := HN.out 2 (by omega) (by omega)
      have e3 := HN.out 3 (by omega) (by omega)
      have e4 := HN.out 4 (by omega) (by omega)
      have e5 := HN.out 5 (by omega) (by omega)
      have e6 := HN.out 6 (by omega) (by omega)
      have e7 := HN.out 7 (by omega) (by omega)
      simp only [kh, kl, List.getD_cons_succ, List.getD_cons_zero] at e1 e2 e3 e4 e5 e6 e7
      rw [HK.out, if_neg e1, if_neg e2, if_neg e3, if_neg e4, if_neg e5, if_neg e6, if_neg e7]
      rfl

end Go.Proofs.YtofbgpgngplgpaaDoor
