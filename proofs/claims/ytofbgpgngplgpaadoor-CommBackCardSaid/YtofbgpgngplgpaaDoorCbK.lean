/- CommBack: the card: the row, what it lists tied to the program's text. -/
import Derived.Test.YtofbgpgngplgpaaDoorCbP
import Derived.Test.YtofbgpgngplgpaaDoorCards
import Derived.Test.YtofbgpgngplgpaaDoorTie
import Derived.SevenTiedAt
namespace Go.Proofs.YtofbgpgngplgpaaDoor.commBack
open Go

theorem proved : Rows.CommBackCardSaid :=
  Claim7.holds_tied_plain_at .later [] [.data] true (true, "70d2f0137d027b1c53b542ae8374976dc9d796eceed4fa4216a4b51fdcf2a092") false
    row_holds (fun _ h => by cases h) (by kernel_rfl) (fun _ h => by cases h) commBack_row_tie rfl ⟨rfl, rfl⟩ (by kernel_rfl) rfl
    (fun f fn hf hfn => by
      obtain rfl : f = 6 := Option.some.inj ((show Tryd.prog.funcNamed "leafmesh/leafmeshlaw03.CommBack" = some 6 by kernel_rfl).symm.trans hf) |>.symm
      obtain rfl : fn = Tryd.f6 := (Option.some.inj (Tryd.func6.symm.trans hfn)).symm
      refine ⟨by kernel_rfl, fun j t ht => ?_⟩
      have hall : (Tryd.f6.params.toList.all fun t => !Tryd.prog.wantsStandIn t) = true := by kernel_rfl
      have hm : t ∈ Tryd.f6.params.toList := by
        rw [Array.getElem?_eq_some_iff] at ht
        obtain ⟨h, rfl⟩ := ht
        simp
      have := List.all_eq_true.1 hall t hm
      exact (Bool.not_eq_true' _).mp this)
    (by kernel_rfl)
#print axioms proved
end Go.Proofs.YtofbgpgngplgpaaDoor.commBack
