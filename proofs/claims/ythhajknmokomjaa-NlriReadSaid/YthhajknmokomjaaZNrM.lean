/- NlriOnly: the walk. -/
import Derived.Test.YthhajknmokomjaaZNrL
import Derived.Test.YthhajknmokomjaaZNoC
import Derived.Deep.DeepCutAuto
namespace Go.Proofs.Ythhajknmokomjaa
open Go.RowKit Go.Maps Go.Shelf
set_option linter.unusedVariables false
set_option linter.unusedSimpArgs false
set_option maxRecDepth 100000

theorem own_bel {w w' W : World} {B base size n : Nat} {e : TypeId} {v : Value} {xs : List Value} (h : w.ownsRow base e size v n xs) (hb : Below B W w) (hg : w.grownBy w' v.ownBlock) (hB : B ≤ w.heap.size) (hbase : B ≤ base) : Below B W w' :=
  hb.grown hg hB (fun g hg => by
    rcases h.2 with ⟨h9, _⟩ | ⟨g', cap', cur', h9, h10, _⟩
    · rw [h9] at hg; cases hg
    · have hgg : g' = g := by rw [h9] at hg; simpa [Value.ownBlock] using hg
      rw [← hgg]
      exact Nat.le_trans hbase h10)

theorem own_cap {W : World} {base size k n c : Nat} {e : TypeId} {A : Option Addr} {xs : List Value} (h : W.ownsRow base e size (.slice A n c) k xs) : k ≤ c := by
  rcases h.2 with ⟨_, rfl⟩ | ⟨g, cap, cur, h1, _, _, h4, _⟩
  · omega
  · injection h1 with _ _ h3
    omega

theorem below_drewN {B : Nat} {w W : World} (h : Below B w W) (n : Nat) : Below B w (W.drewN n) := ⟨h.os, h.tape, h.output, h.size, h.block⟩
theorem Arr.drewN {w : World} {v : Value} {xs : List Int} (h : Arr w v xs) (n : Nat) : Arr (w.drewN n) v xs := h

end Go.Proofs.Ythhajknmokomjaa
