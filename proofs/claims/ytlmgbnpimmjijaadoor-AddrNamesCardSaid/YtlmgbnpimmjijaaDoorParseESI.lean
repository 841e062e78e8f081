/- The contract of ParseESI. -/
import Derived.Test.YtlmgbnpimmjijaaDoorParseMAC
import Derived.Test.YtlmgbnpimmjijaaDoorNumByte
import Derived.Laws.Cover3
namespace Go.Proofs.YtlmgbnpimmjijaaDoor
open Go.RowKit

/-- The identifier whose bytes are given. -/
def esiV (xs : List Int) : Value := .agg (xs.map (Value.int .u8)).toArray

theorem listTen {α : Type} (l : List α) (h : l.length = 10) : ∃ a b c d e f g h i j, l = [a, b, c, d, e, f, g, h, i, j] := by
  match l, h with
  | [a, b, c, d, e, f, g, h, i, j], _ => exact ⟨a, b, c, d, e, f, g, h, i, j, rfl⟩

theorem bcell {W w1 : World} (hb : Below W.heap.size W w1) : (∀ b o, b < W.heap.size → w1.cell? ⟨b, o, none⟩ = W.cell? ⟨b, o, none⟩) ∧ (∀ b o, b < W.heap.size → w1.frozen? ⟨b, o, none⟩ = W.frozen? ⟨b, o, none⟩) :=
  ⟨fun b o h => hb.cell (p := ⟨b, o, none⟩) h, fun b o h => hb.frozen (p := ⟨b, o, none⟩) h⟩

set_option maxRecDepth 100000 in
theorem parseESI_no (l : List UInt8) (hs : l.length ≤ 200) (w : World) (hg : GlobMAC w) (hn : nums hexN [58] 10 [] l true = none) :
    Calls Tryd.prog 19 #[.string ⟨l.toArray⟩] w fun e w' => e = .returned (.tuple #[esiV [0, 0, 0, 0, 0, 0, 0, 0, 0, 0], .int .i64 19]) ∧ Below w.heap.size w w' := by
  obtain ⟨g0, g1, g2, g3, g4, m, hm⟩ := hg
  have HN := Lib.hid hn
  clear hn
  have q0 := World.block_lt_of_cell? w _ g0
  have q1 := World.block_lt_of_cell? w _ hm
  go_enter Tryd.func19, Tryd.ntmps19
  go_wp2_with fail
  refine (numbersByte_b l hs m _ (by rw [World.cell?_alloc_past _ _ _ q1]; exact hm)).mono ?_
  rintro e w' ⟨v, he, hb, ho⟩
  rw [HN.out] at he
  subst he
  obtain ⟨hcl, hfl⟩ := bcell hb
  go_wp2_with fail
  refine bodyPost_ret (v := .tuple #[esiV [0, 0, 0, 0, 0, 0, 0, 0, 0, 0], .int .i64 19]) (by simp [results, Tryd.results19, go_sem, esiV, hcl]) rfl ⟨rfl, ?_⟩
  have hb1 : Below w.heap.size w w' := ((Below.refl _ w).alloc (Nat.le_refl _) _).trans (hb.mono (by simp))
  exact ((((((((((hb1.setCell (p := ⟨w.heap.size, 0, none⟩) (Nat.le_refl _) _).setCell (p := ⟨w.heap.size, 1, none⟩) (Nat.le_refl _) _).setCell (p := ⟨w.heap.size, 2, none⟩) (Nat.le_refl _) _).setCell (p := ⟨w.heap.size, 3, none⟩) (Nat.le_refl _) _).setCell (p := ⟨w.heap.size, 4, none⟩) (Nat.le_refl _) _).setCell (p := ⟨w.heap.size, 5, none⟩) (Nat.le_refl _) _).setCell (p := ⟨w.heap.size, 6, none⟩) (Nat.le_refl _) _).setCell (p := ⟨w.heap.size, 7, none⟩) (Nat.le_refl _) _).setCell (p := ⟨w.heap.size, 8, none⟩) (Nat.le_refl _) _).setCell (p := ⟨w.heap.size, 9, none⟩) (Nat.le_refl _) _)

set_option maxRecDepth 100000 in
theorem parseESI_yes (l : List UInt8) (hs : l.length ≤ 200) (xs : List Int) (w : World) (hg : GlobMAC w) (hn : nums hexN [58] 10 [] l true = some xs) :
    Calls Tryd.prog 19 #[.string ⟨l.toArray⟩] w fun e w' => e = .returned (.tuple #[esiV xs, .int .i64 0]) ∧ Below w.heap.size w w' := by
  obtain ⟨g0, g1, g2, g3, g4, m, hm⟩ := hg
  have hlen4 : xs.length = 10 := by rw [(nums_ok (n := hexN) (by decide) _ _ _ _ _ _ hn (fun x hx => by cases hx)).1]; rfl
  have HN := Lib.hid hn
  clear hn
  obtain ⟨a, b, c, d, e, f, g, h, i, j, rfl⟩ := listTen xs hlen4
  clear hlen4
  have q0 := World.block_lt_of_cell? w _ g0
  have q1 := World.block_lt_of_cell? w _ hm
  go_enter Tryd.func19, Tryd.ntmps19
  go_wp2_with fail
  refine (numbersByte_b l hs m _ (by rw [World.cell?_alloc_past _ _ _ q1]; exact hm)).mono ?_
  rintro en w' ⟨v, he, hb, ho⟩
  rw [HN.out] at he
  subst he
  obtain ⟨hcl, hfl⟩ := bcell hb
  have hown := ho _ HN.out
  obtain ⟨bk, cap, rfl⟩ := ownsRow_succ hown
  have k0 : w'.cell? ⟨bk, 0, none⟩ = some (.int .u8 a) := by rw [hown.cellAt 0 (by simp)]; rfl
  have k1 : w'.cell? ⟨bk, 1, none⟩ = some (.int .u8 b) := by rw [hown.cellAt 1 (by simp)]; rfl
  have k2 : w'.cell? ⟨bk, 2, none⟩ = some (.int .u8 c) := by rw [hown.cellAt 2 (by simp)]; rfl
  have k3 : w'.cell? ⟨bk, 3, none⟩ = some (.int .u8 d) := by rw [hown.cellAt 3 (by simp)]; rfl
  have k4 : w'.cell? ⟨bk, 4, none⟩ = some (.int .u8 e) := by rw [hown.cellAt 4 (by simp)]; rfl
  have k5 : w'.cell? ⟨bk, 5, none⟩ = some (.int .u8 f) := by rw [hown.cellAt 5 (by simp)]; rfl
  have k6 : w'.cell? ⟨bk, 6, none⟩ = some (.int .u8 g) := by rw [hown.cellAt 6 (by simp)]; rfl
  have k7 : w'.cell? ⟨bk, 7, none⟩ = some (.int .u8 h) := by rw [hown.cellAt 7 (by simp)]; rfl
  have k8 : w'.cell? ⟨bk, 8, none⟩ = some (.int .u8 i) := by rw [hown.cellAt 8 (by simp)]; rfl
  have k9 : w'.cell? ⟨bk, 9, none⟩ = some (.int .u8 j) := by rw [hown.cellAt 9 (by simp)]; rfl
  have har : ∀ w, (Instr.arrayAt 39 (.slice (some ⟨bk, 0, none⟩) 10 cap)).run Tryd.prog w = .ok (.pointer (some ⟨bk, 0, none⟩)) w := fun w => run_arrayAt w _ _ _ _ _ _ Tryd.underlying39 (by decide)
  clear hown ho
  go_wp2_with fail
  refine bodyPost_ret (v := .tuple #[esiV [a, b, c, d, e, f, g, h, i, j], .int .i64 0]) (by simp [results, Tryd.results19, go_sem, esiV, hcl]) rfl ⟨rfl, ?_⟩
  have hb1 : Below w.heap.size w w' := ((Below.refl _ w).alloc (Nat.le_refl _) _).trans (hb.mono (by simp))
  exact ((((((((((hb1.setCell (p := ⟨w.heap.size, 0, none⟩) (Nat.le_refl _) _).setCell (p := ⟨w.heap.size, 1, none⟩) (Nat.le_refl _) _).setCell (p := ⟨w.heap.size, 2, none⟩) (Nat.le_refl _) _).setCell (p := ⟨w.heap.size, 3, none⟩) (Nat.le_refl _) _).setCell (p := ⟨w.heap.size, 4, none⟩) (Nat.le_refl _) _).setCell (p := ⟨w.heap.size, 5, none⟩) (Nat.le_refl _) _).setCell (p := ⟨w.heap.size, 6, none⟩) (Nat.le_refl _) _).setCell (p := ⟨w.heap.size, 7, none⟩) (Nat.le_refl _) _).setCell (p := ⟨w.heap.size, 8, none⟩) (Nat.le_refl _) _).setCell (p := ⟨w.heap.size, 9, none⟩) (Nat.le_refl _) _)

end Go.Proofs.YtlmgbnpimmjijaaDoor
