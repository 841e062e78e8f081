/- WireBack: what stands between two rounds: the writer, the two lists. -/
import Derived.Test.YtofbgpgngplgpaaBkB
import Derived.Deep.AppendLies
namespace Go.Proofs.Ytofbgpgngplgpaa
open Go.RowKit
set_option linter.unusedVariables false

section
variable {w w' : World} {l : List Nat} {base size n : Nat} {e : TypeId} {v : Value} {xs : List Value}
theorem own_block (h : w.ownsRow base e size v n xs) : ∀ g, v.ownBlock = some g → base ≤ g ∧ g < w.heap.size ∧ ∃ cur, Has w g e cur := by
  intro g hg
  rcases h.2 with ⟨rfl, _⟩ | ⟨g', cap, cur, rfl, hb, hh, _⟩
  · cases hg
  · injection hg with hg
    subst hg
    have hh' : Has w g' e cur := hh
    exact ⟨hb, hh'.lt, cur, hh'⟩
/-- An owned row stands where other blocks turn. -/
theorem own_turn (h : w.ownsRow base e size v n xs) (ht : Turn l w w') (hn : ∀ g, v.ownBlock = some g → g ∉ l) : w'.ownsRow base e size v n xs := by
  refine ⟨h.1, ?_⟩
  rcases h.2 with h0 | ⟨g, cap, cur, hv, hb, hg, r⟩
  · exact .inl h0
  · subst hv
    have hh : Has w g e cur := hg
    exact .inr ⟨g, cap, cur, rfl, hb, (ht.block g hh.lt (hn g rfl)).trans hg, r⟩
theorem own_below (h : w.ownsRow base e size v n xs) (hb : Below w.heap.size w w') : w'.ownsRow base e size v n xs := own_turn h (turn_below hb []) (by simp)
theorem own_far {g : Nat} {s : WS} (h : w.ownsRow base e size v n xs) (H : WrL w l g s) (h1 : e ≠ 63) (h2 : e ≠ 5) : ∀ k, v.ownBlock = some k → k ∉ l := by
  intro k hk hm
  obtain ⟨_, _, cur, hh⟩ := own_block h k hk
  obtain ⟨A, c, b, m, rfl, hw⟩ := H
  simp only [List.mem_cons] at hm
  rcases hm with rfl | rfl | hm
  · exact hh.unlike hw.blk h1 rfl
  · exact hw.map.unlike hh rfl
  · rcases hw.buf with ⟨rfl, _⟩ | ⟨h', rfl, cur', hh', _⟩
    · simp [blkOf] at hm
    · simp [blkOf] at hm
      subst hm
      exact hh.unlike hh' h2 rfl
theorem own_ne {base' size' n' : Nat} {e' : TypeId} {v' : Value} {xs' : List Value} (h : w.ownsRow base e size v n xs) (h' : w.ownsRow base' e' size' v' n' xs') (hne : e ≠ e') : ∀ k, v.ownBlock = some k → k ∉ v'.ownBlock.toList := by
  intro k hk hm
  obtain ⟨_, _, cur, hh⟩ := own_block h k hk
  simp only [Option.mem_toList] at hm
  obtain ⟨_, _, cur', hh'⟩ := own_block h' k hm
  exact hh.unlike hh' hne rfl
end

/-- The writer has taken the numbers G, the lists hold those of F and E. -/
structure BI (w : World) (g : Nat) (l : List Nat) (G F E : List (Nat × Int)) (v7 v8 : Value) (W : World) : Prop where
  wr : WrL W l g (stw G)
  lo : ∀ k ∈ l, w.heap.size ≤ k
  r7 : W.ownsRow w.heap.size 3 1 v7 F.length (F.map fun p => .int .i64 (p.1 : Int))
  r8 : W.ownsRow w.heap.size 32 1 v8 E.length (E.map fun p => .int .u64 p.2)
  bel : Below w.heap.size w W

section
variable {w W W' w1 : World} {g : Nat} {l l' : List Nat} {G F E G' : List (Nat × Int)} {v7 v8 v' : Value}
theorem BI.below (H : BI w g l G F E v7 v8 W) (hb : Below W.heap.size W W') : BI w g l G F E v7 v8 W' :=
  ⟨H.wr.below hb, H.lo, own_below H.r7 hb, own_below H.r8 hb, H.bel.trans (hb.mono H.bel.size)⟩
theorem BI.drewN (H : BI w g l G F E v7 v8 W) (n : Nat) : BI w g l G F E v7 v8 (W.drewN n) := H.below ⟨rfl, rfl, rfl, Nat.le_refl _, fun _ _ => rfl⟩
theorem BI.drew (H : BI w g l G F E v7 v8 W) : BI w g l G F E v7 v8 W.drew := H.drewN 1
theorem BI.alloc (H : BI w g l G F E v7 v8 W) (o : Obj) : BI w g l G F E v7 v8 (W.alloc o) := H.below ((Below.refl _ W).alloc (Nat.le_refl _) o)
theorem BI.put (H : BI w g l G F E v7 v8 W) (hw : WrL W' l' g (stw G')) (hn : Next W l W' l') : BI w g l' G' F E v7 v8 W' := by
  have hb := hn.below H.lo H.bel.size
  exact ⟨hw, hb.2, own_turn H.r7 hn.1 (own_far H.r7 H.wr (by decide) (by decide)), own_turn H.r8 hn.1 (own_far H.r8 H.wr (by decide) (by decide)), H.bel.trans hb.1⟩
theorem BI.one {k : Nat} {v : Int} (H : BI w g l G F E v7 v8 W) (g1 : W.grownBy w1 v7.ownBlock) (o1 : w1.ownsRow w.heap.size 3 1 v' (F.length + 1) ((F.map fun p => .int .i64 (p.1 : Int)) ++ [.int .i64 (k : Int)])) : BI w g l G (F ++ [(k, v)]) E v' v8 w1 := by
  have t1 := turn_grown g1
  have k7 : ∀ k ∈ v7.ownBlock.toList, w.heap.size ≤ k := fun k hk => (own_block H.r7 k (by simpa using hk)).1
  exact ⟨H.wr.turn t1 (fun k hk hm => own_far H.r7 H.wr (by decide) (by decide) k (by simpa using hm) hk), H.lo, by simpa using o1, own_turn H.r8 t1 (own_ne H.r8 H.r7 (by decide)), H.bel.trans (t1.below k7 H.bel.size)⟩
theorem BI.two {k : Nat} {v : Int} (H : BI w g l G F E v7 v8 W) (g1 : W.grownBy w1 v8.ownBlock) (o1 : w1.ownsRow w.heap.size 32 1 v' (E.length + 1) ((E.map fun p => .int .u64 p.2) ++ [.int .u64 v])) : BI w g l G F (E ++ [(k, v)]) v7 v' w1 := by
  have t1 := turn_grown g1
  have k8 : ∀ k ∈ v8.ownBlock.toList, w.heap.size ≤ k := fun k hk => (own_block H.r8 k (by simpa using hk)).1
  exact ⟨H.wr.turn t1 (fun k hk hm => own_far H.r8 H.wr (by decide) (by decide) k (by simpa using hm) hk), H.lo, own_turn H.r7 t1 (own_ne H.r7 H.r8 (by decide)), by simpa using o1, H.bel.trans (t1.below k8 H.bel.size)⟩
/-- One new cell, where it was laid. -/
theorem news_one {w : World} {B : Nat} {x : Value} (h : w.cell? ⟨B, 0, none⟩ = some x) : ∀ j u, [x][j]? = some u → w.cell? ((⟨B, 0, none⟩ : Addr).add j) = some u := by
  intro j u hu
  obtain ⟨hj, rfl⟩ := List.getElem?_eq_some_iff.1 hu
  simp only [List.length_singleton] at hj
  obtain rfl : j = 0 := by omega
  exact h
theorem BI.far (H : BI w g l G F E v7 v8 W) (g1 : W.grownBy w1 v7.ownBlock) {B : Nat} {x : Value} (h : W.cell? ⟨B, 0, none⟩ = some x) (hB : ∀ k, v7.ownBlock = some k → k ≠ B) : w1.cell? ⟨B, 0, none⟩ = some x := by
  have hl := World.block_lt_of_cell? W _ h
  rw [g1.cell_far ⟨B, 0, none⟩ hl (fun he => hB B he.symm rfl)]
  exact h
end

/-- While the numbers are read back. -/
structure BJ (w : World) (g : Nat) (l : List Nat) (F : List (Nat × Int)) (v7 v8 : Value) (gr hr cr : Nat) (s : RS) (W : World) : Prop where
  wr : WrL W l g ⟨65536, be ((flat F).length : Int) 2 ++ flat F, []⟩
  rd : RdS W gr hr cr s
  r7 : W.ownsRow w.heap.size 3 1 v7 F.length (F.map fun p => .int .i64 (p.1 : Int))
  r8 : W.ownsRow w.heap.size 32 1 v8 F.length (F.map fun p => .int .u64 p.2)
  bel : Below w.heap.size w W
  lg : w.heap.size ≤ gr

section
variable {w W W' : World} {g gr hr cr : Nat} {s s' : RS} {l : List Nat} {F : List (Nat × Int)} {v7 v8 : Value}
theorem BJ.below (H : BJ w g l F v7 v8 gr hr cr s W) (hb : Below W.heap.size W W') : BJ w g l F v7 v8 gr hr cr s W' :=
  ⟨H.wr.below hb, Rd.below H.rd hb, own_below H.r7 hb, own_below H.r8 hb, H.bel.trans (hb.mono H.bel.size), H.lg⟩
theorem BJ.drewN (H : BJ w g l F v7 v8 gr hr cr s W) (n : Nat) : BJ w g l F v7 v8 gr hr cr s (W.drewN n) := H.below ⟨rfl, rfl, rfl, Nat.le_refl _, fun _ _ => rfl⟩
theorem BJ.drew (H : BJ w g l F v7 v8 gr hr cr s W) : BJ w g l F v7 v8 gr hr cr s W.drew := H.drewN 1
theorem BJ.alloc (H : BJ w g l F v7 v8 gr hr cr s W) (o : Obj) : BJ w g l F v7 v8 gr hr cr s (W.alloc o) := H.below ((Below.refl _ W).alloc (Nat.le_refl _) o)
theorem BJ.step (H : BJ w g l F v7 v8 gr hr cr s W) (hr' : RdS W' gr hr cr s') (ho : Only W gr W') : BJ w g l F v7 v8 gr hr cr s' W' := by
  have hd : Rd W gr hr cr s.bs s.st s.p s.ef s.ea := H.rd
  have hk := hd.blk
  have t : Turn [gr] W W' := turn_only ho
  have far : ∀ {e : TypeId} {v : Value} {n : Nat} {xs : List Value}, W.ownsRow w.heap.size e 1 v n xs → e ≠ 77 → ∀ k, v.ownBlock = some k → k ∉ [gr] := fun h hne k hk' hm => by
    obtain ⟨_, _, cur, hh⟩ := own_block h k hk'
    simp only [List.mem_singleton] at hm
    subst hm
    exact hh.unlike hk hne rfl
  refine ⟨H.wr.turn t (fun k hk' hm => ?_), hr', own_turn H.r7 t (far H.r7 (by decide)), own_turn H.r8 t (far H.r8 (by decide)), below_only H.bel ho H.lg H.bel.size, H.lg⟩
  simp only [List.mem_singleton] at hm
  subst hm
  obtain ⟨A, c, b, m, rfl, hw⟩ := H.wr
  simp only [List.mem_cons] at hk'
  rcases hk' with rfl | rfl | hk'
  · exact hk.unlike hw.blk (by decide) rfl
  · exact hw.map.unlike hk rfl
  · rcases hw.buf with ⟨rfl, _⟩ | ⟨h', rfl, cur', hh', _⟩
    · simp [blkOf] at hk'
    · simp [blkOf] at hk'
      subst hk'
      exact hk.unlike hh' (by decide) rfl
theorem own_form {base : Nat} {e : TypeId} {v : Value} {n : Nat} {xs : List Value} (h : W.ownsRow base e 1 v n xs) : ∃ A c, v = .slice A n c := by
  rcases h.2 with ⟨h0, h1⟩ | ⟨g, cap, cur, hv, _⟩
  · exact ⟨none, 0, by rw [h0, h1]⟩
  · exact ⟨_, cap, hv⟩
/-- The i-th of the two lists. -/
theorem own_cell {base : Nat} {e : TypeId} {v : Value} {n : Nat} {xs : List Value} (h : W.ownsRow base e 1 v n xs) (i : Nat) (hi : i < n) : ∃ b c, v = .slice (some ⟨b, 0, none⟩) n c ∧ ∀ (hx : i < xs.length), W.cell? ⟨b, i, none⟩ = some xs[i] := by
  rcases h.2 with ⟨_, h0⟩ | ⟨g, cap, cur, hv, hb, hh, hn, hc, hs, ht⟩
  · omega
  · refine ⟨g, cap, hv, fun hx => ?_⟩
    have hh' : Has W g e cur := hh
    rw [hh'.cell i]
    subst ht
    have hi2 : i < cur.size := by omega
    simp [hi2]
end

end Go.Proofs.Ytofbgpgngplgpaa
