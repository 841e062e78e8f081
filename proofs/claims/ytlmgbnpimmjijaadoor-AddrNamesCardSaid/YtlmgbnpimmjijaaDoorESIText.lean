/- The contract of ESIText. -/
import Derived.Test.YtlmgbnpimmjijaaDoorColons
import Derived.RangeFuncRecord
namespace Go.Proofs.YtlmgbnpimmjijaaDoor
open Go.RowKit Go.Shelf

theorem top_block (w : World) (o : Obj) (k : Nat) (hk : k = w.heap.size) : (w.alloc o).heap[k]? = some o := by
  subst hk
  exact World.alloc_heap_new w o

/-- The iterator of an identifier, as colons wants it. -/
theorem octets_seq (B Bs : Nat) (a b c d e f g h i j : Int) (w : World) (hBs : Bs < w.heap.size) (hB : w.heap[Bs]? = some (esib a b c d e f g h i j)) :
    SeqStopsK Fence.wide 2 Tryd.prog 43 #[.pointer (some ⟨Bs, 0, none⟩)] (octN 10 [a, b, c, d, e, f, g, h, i, j]) (Below B) (fun ys => ys = List.finRange 10) (fun _ => True) 10 w := by
  have hs := octets_stops Fence.wide 2 trivial rfl (by omega) Bs (Below B) a b c d e f g h i j w hBs
    (by rw [Lib.cell_of_heap hB]; rfl) (by rw [Lib.cell_of_heap hB]; rfl) (by rw [Lib.cell_of_heap hB]; rfl) (by rw [Lib.cell_of_heap hB]; rfl) (by rw [Lib.cell_of_heap hB]; rfl)
    (by rw [Lib.cell_of_heap hB]; rfl) (by rw [Lib.cell_of_heap hB]; rfl) (by rw [Lib.cell_of_heap hB]; rfl) (by rw [Lib.cell_of_heap hB]; rfl) (by rw [Lib.cell_of_heap hB]; rfl)
  intro l J Jx W hW hJ hJx hY h0
  refine (hs l J Jx W hW hJ hJx hY h0).mono ?_
  rintro e W' ⟨hv, h | ⟨pre, _, h⟩⟩
  · exact ⟨hv, .inl h⟩
  · exact ⟨hv, .inr ⟨pre, trivial, h⟩⟩

set_option maxRecDepth 100000 in
theorem esiText_b (a b c d e f g h i j : Int) (hr : ∀ k, 0 ≤ byteAt [a, b, c, d, e, f, g, h, i, j] k ∧ byteAt [a, b, c, d, e, f, g, h, i, j] k ≤ 255) (w : World) (hw : GlobPow w) :
    Calls Tryd.prog 15 #[esi a b c d e f g h i j] w fun en W' => en = .returned (.string ⟨(coP [a, b, c, d, e, f, g, h, i, j] (List.finRange 10)).toArray⟩) ∧ Below w.heap.size w W' := by
  have hb1 : Below w.heap.size w ((w.alloc (esib a b c d e f g h i j)).alloc (esib a b c d e f g h i j)) := ((Below.refl _ w).alloc (Nat.le_refl _) _).alloc (by simp) _
  have hw1 := pow_keep hw hb1
  have key := colons_b 10 (by omega) [a, b, c, d, e, f, g, h, i, j] hr 43 #[.pointer (some ⟨w.heap.size + 1, 0, none⟩)] ((w.alloc (esib a b c d e f g h i j)).alloc (esib a b c d e f g h i j)) hw1
    (enters_of Tryd.func43 (by kernel_rfl) rfl)
    (fun W0 hW0 => by
      have hz := hW0.size
      simp at hz
      have hk := hW0.block (w.heap.size + 1) (by simp)
      exact octets_seq _ _ a b c d e f g h i j W0 (by omega) (hk.trans (top_block (w.alloc (esib a b c d e f g h i j)) _ _ (by simp))))
  go_enter Tryd.func15, Tryd.ntmps15
  go_wp2_with fail
  refine (callsIn_wide.1 (octets_in Fence.wide 1 trivial rfl a b c d e f g h i j _)).mono ?_
  rintro e w' ⟨rfl, rfl⟩
  go_wp2_with fail
  refine key.mono ?_
  rintro e w' ⟨rfl, hb2⟩
  go_wp2_with fail
  go_ret
  exact ⟨rfl, hb1.trans (hb2.mono (by simp; omega))⟩

end Go.Proofs.YtlmgbnpimmjijaaDoor
