/- The contract of ParseMAC. -/
import Derived.Test.YtlmgbnpimmjijaaDoorNumMAC
import Derived.Test.YtlmgbnpimmjijaaDoorJoinMAC
import Derived.RangeFuncBox
import Derived.Laws.OwnMore
namespace Go.Proofs.YtlmgbnpimmjijaaDoor
open Go.RowKit

/-- The package-level notation and the library's variable, in a world. -/
def GlobMAC (w : World) : Prop := w.cell? ⟨2, 0, none⟩ = some (.int .i64 16) ∧ w.cell? ⟨2, 1, none⟩ = some (.int .i64 2) ∧ w.cell? ⟨2, 2, none⟩ = some (.int .i64 2) ∧
  w.cell? ⟨2, 3, none⟩ = some (.bool true) ∧ w.cell? ⟨2, 4, none⟩ = some (.int .i64 255) ∧ ∃ m, w.cell? ⟨3, 0, none⟩ = some (.int .i64 m)

theorem parseMAC_no (l : List UInt8) (hs : l.length ≤ 200) (w : World) (hg : GlobMAC w) (hn : nums hexN [58] 6 [] l true = none) :
    Calls Tryd.prog 14 #[.string ⟨l.toArray⟩] w fun e w' => e = .returned (.tuple #[.int .u64 0, .int .i64 19]) ∧ Below w.heap.size w w' := by
  obtain ⟨g0, g1, g2, g3, g4, m, hm⟩ := hg
  have HN := Lib.hid hn
  clear hn
  go_enter Tryd.func14, Tryd.ntmps14
  go_wp2_with fail
  refine (numbersMAC_b l hs m _ hm).mono ?_
  rintro e w' ⟨v, he, hb, ho⟩
  rw [HN.out] at he
  subst he
  go_wp2_with fail
  go_ret2
  exact ⟨rfl, hb⟩

theorem parseMAC_yes (l : List UInt8) (hs : l.length ≤ 200) (xs : List Int) (w : World) (hg : GlobMAC w) (hn : nums hexN [58] 6 [] l true = some xs) :
    Calls Tryd.prog 14 #[.string ⟨l.toArray⟩] w fun e w' => e = .returned (.tuple #[.int .u64 (joined xs), .int .i64 0]) ∧ Below w.heap.size w w' := by
  obtain ⟨g0, g1, g2, g3, g4, m, hm⟩ := hg
  have hok := nums_ok (n := hexN) (by decide) _ _ _ _ _ _ hn (fun x hx => by cases hx)
  obtain ⟨hlen, hrange⟩ := hok
  have hlen4 : xs.length = 6 := by rw [hlen]; rfl
  have HL := Lib.hid hlen4
  have HR := Lib.hid hrange
  have HN := Lib.hid hn
  clear hn hlen hrange hlen4
  go_enter Tryd.func14, Tryd.ntmps14
  go_wp2_with fail
  refine (numbersMAC_b l hs m _ hm).mono ?_
  rintro e w' ⟨v, he, hb, ho⟩
  rw [HN.out] at he
  subst he
  have hown := ho xs HN.out
  obtain ⟨g, cap, rfl⟩ : ∃ g cap, v = .slice (some ⟨g, 0, none⟩) xs.length cap := by
    rcases hown.2 with ⟨_, h0⟩ | ⟨g, cap, cur, hv, _⟩
    · have := HL.out; omega
    · exact ⟨g, cap, hv⟩
  have hcells : ∀ j (h : j < xs.length), w'.cell? ⟨g, j, none⟩ = some (.int .u64 xs[j]) := fun j h => by
    rw [hown.cellAt j (by omega)]
    simp [h]
  have HCE := Lib.hid hcells
  clear hcells ho hown
  go_wp2_with fail
  refine (joinMAC_b g cap xs _ (by rw [HL.out]; decide) (by rw [HL.out]; decide) (fun j h => HR.out _ (List.getElem_mem h)) HCE.out).mono ?_
  rintro e w'' ⟨rfl, rfl⟩
  go_wp2_with fail
  go_ret2
  exact ⟨rfl, hb⟩

end Go.Proofs.YtlmgbnpimmjijaaDoor
