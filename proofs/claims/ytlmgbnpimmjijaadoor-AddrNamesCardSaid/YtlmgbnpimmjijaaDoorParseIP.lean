/- The contract of ParseIP. -/
import Derived.Test.YtlmgbnpimmjijaaDoorNumIP
import Derived.Test.YtlmgbnpimmjijaaDoorJoinIP
import Derived.RangeFuncBox
import Derived.Laws.OwnMore
namespace Go.Proofs.YtlmgbnpimmjijaaDoor
open Go.RowKit

/-- The package-level notation and the library's variable, in a world. -/
def GlobIP (w : World) : Prop := w.cell? ⟨0, 0, none⟩ = some (.int .i64 10) ∧ w.cell? ⟨0, 1, none⟩ = some (.int .i64 1) ∧ w.cell? ⟨0, 2, none⟩ = some (.int .i64 3) ∧
  w.cell? ⟨0, 3, none⟩ = some (.bool false) ∧ w.cell? ⟨0, 4, none⟩ = some (.int .i64 255) ∧ ∃ m, w.cell? ⟨3, 0, none⟩ = some (.int .i64 m)

theorem parseIP_no (l : List UInt8) (hs : l.length ≤ 200) (w : World) (hg : GlobIP w) (hn : nums decN [46] 4 [] l true = none) :
    Calls Tryd.prog 11 #[.string ⟨l.toArray⟩] w fun e w' => e = .returned (.tuple #[.int .u32 0, .int .i64 19]) ∧ Below w.heap.size w w' := by
  obtain ⟨g0, g1, g2, g3, g4, m, hm⟩ := hg
  have HN := Lib.hid hn
  clear hn
  go_enter Tryd.func11, Tryd.ntmps11
  go_wp2_with fail
  refine (numbersIP_b l hs m _ hm).mono ?_
  rintro e w' ⟨v, he, hb, ho⟩
  rw [HN.out] at he
  subst he
  go_wp2_with fail
  go_ret2
  exact ⟨rfl, hb⟩

theorem parseIP_yes (l : List UInt8) (hs : l.length ≤ 200) (xs : List Int) (w : World) (hg : GlobIP w) (hn : nums decN [46] 4 [] l true = some xs) :
    Calls Tryd.prog 11 #[.string ⟨l.toArray⟩] w fun e w' => e = .returned (.tuple #[.int .u32 (joined xs), .int .i64 0]) ∧ Below w.heap.size w w' := by
  obtain ⟨g0, g1, g2, g3, g4, m, hm⟩ := hg
  have hok := nums_ok (n := decN) (by decide) _ _ _ _ _ _ hn (fun x hx => by cases hx)
  obtain ⟨hlen, hrange⟩ := hok
  have hlen4 : xs.length = 4 := by rw [hlen]; rfl
  have HL := Lib.hid hlen4
  have HR := Lib.hid hrange
  have HN := Lib.hid hn
  clear hn hlen hrange hlen4
  go_enter Tryd.func11, Tryd.ntmps11
  go_wp2_with fail
  refine (numbersIP_b l hs m _ hm).mono ?_
  rintro e w' ⟨v, he, hb, ho⟩
  rw [HN.out] at he
  subst he
  have hown := ho xs HN.out
  obtain ⟨g, cap, rfl⟩ : ∃ g cap, v = .slice (some ⟨g, 0, none⟩) xs.length cap := by
    rcases hown.2 with ⟨_, h0⟩ | ⟨g, cap, cur, hv, _⟩
    · have := HL.out; omega
    · exact ⟨g, cap, hv⟩
  have hcells : ∀ j (h : j < xs.length), w'.cell? ⟨g, j, none⟩ = some (.int .u32 xs[j]) := fun j h => by
    rw [hown.cellAt j (by omega)]
    simp [h]
  have HCE := Lib.hid hcells
  clear hcells ho hown
  go_wp2_with fail
  refine (joinIP_b g cap xs _ (by rw [HL.out]; decide) (by rw [HL.out]; decide) (fun j h => HR.out _ (List.getElem_mem h)) HCE.out).mono ?_
  rintro e w'' ⟨rfl, rfl⟩
  go_wp2_with fail
  go_ret2
  exact ⟨rfl, hb⟩

end Go.Proofs.YtlmgbnpimmjijaaDoor
