/- AddrNames: the card: the row, what it lists tied to the program's text. -/
import Derived.Test.YtlmgbnpimmjijaaDoorNaP
import Derived.Test.YtlmgbnpimmjijaaDoorCards
import Derived.Test.YtlmgbnpimmjijaaDoorTie
import Derived.SevenTiedAt
namespace Go.Proofs.YtlmgbnpimmjijaaDoor.addrNames
open Go

theorem proved : Rows.AddrNamesCardSaid :=
  Claim7.holds_tied_plain_at .later [] [.data, .data, .data] true (true, "1c01b600432e68542d8baae83c34cb8b7ee5ed5ad410760c099d8441c1eff524") false
    row_holds (fun _ h => by cases h) (by kernel_rfl) (fun _ h => by cases h) addrNames_row_tie rfl ⟨rfl, rfl⟩ (by kernel_rfl) rfl
    (fun f fn hf hfn => by
      obtain rfl : f = 3 := Option.some.inj ((show Tryd.prog.funcNamed "leafmesh/leafmeshlaw01.AddrNames" = some 3 by kernel_rfl).symm.trans hf) |>.symm
      obtain rfl : fn = Tryd.f3 := (Option.some.inj (Tryd.func3.symm.trans hfn)).symm
      refine ⟨by kernel_rfl, fun j t ht => ?_⟩
      have hall : (Tryd.f3.params.toList.all fun t => !Tryd.prog.wantsStandIn t) = true := by kernel_rfl
      have hm : t ∈ Tryd.f3.params.toList := by
        rw [Array.getElem?_eq_some_iff] at ht
        obtain ⟨h, rfl⟩ := ht
        simp
      have := List.all_eq_true.1 hall t hm
      exact (Bool.not_eq_true' _).mp this)
    (by kernel_rfl)
#print axioms proved
end Go.Proofs.YtlmgbnpimmjijaaDoor.addrNames
