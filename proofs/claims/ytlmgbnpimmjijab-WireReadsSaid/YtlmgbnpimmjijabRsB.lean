/- WireReads: what stands between two steps: the first readers and the ones in use, of the program and of the document. -/
import Derived.Test.YtlmgbnpimmjijabRsA
namespace Go.Proofs.Ytlmgbnpimmjijab
open Go.RowKit
set_option linter.unusedVariables false

/-- Readers g1, o1 are the first ones, g, o those in use (perhaps the same). -/
structure RI (w : World) (g1 h1 c1 o1 g h c o H C : Nat) (xs : List Int) (s1 s t1 t : RS) (W : World) : Prop where
  a1 : RdS W g1 h1 c1 s1
  a : RdS W g h c s
  b1 : Os W o1 H C xs t1
  b : Os W o H C xs t
  al : (g = g1 ∧ h = h1 ∧ c = c1 ∧ o = o1 ∧ s = s1 ∧ t = t1) ∨ (g ≠ g1 ∧ o ≠ o1)
  lg1 : w.heap.size ≤ g1
  lg : w.heap.size ≤ g
  lo1 : w.heap.size ≤ o1
  lo : w.heap.size ≤ o
  bel : Below w.heap.size w W

/-- What the first reader's state is when the one in use has come to s'. -/
def upd (g g1 : Nat) (s1 s' : RS) : RS := if g = g1 then s' else s1

section
variable {w W W' : World} {g1 h1 c1 o1 g h c o H C : Nat} {xs : List Int} {s1 s t1 t s' t' : RS}

theorem RI.wire (R : RI w g1 h1 c1 o1 g h c o H C xs s1 s t1 t W) (hr : RdS W' g h c s') (ho : Only W g W') : RI w g1 h1 c1 o1 g h c o H C xs (upd g g1 s1 s') s' t1 t W' := by
  have hbel : Below w.heap.size w W' := below_only R.bel ho R.lg R.bel.size
  have hb1 : Os W' o1 H C xs t1 := R.b1.only R.a.blk ho (R.b1.rf.blk.unlike R.a.blk (by decide)) (by decide)
  have hb : Os W' o H C xs t := R.b.only R.a.blk ho (R.b.rf.blk.unlike R.a.blk (by decide)) (by decide)
  rcases R.al with ⟨rfl, rfl, rfl, rfl, hs, ht⟩ | ⟨hg, hoo⟩
  · unfold upd
    rw [if_pos rfl]
    exact ⟨hr, hr, hb1, hb, .inl ⟨rfl, rfl, rfl, rfl, rfl, ht⟩, R.lg1, R.lg, R.lo1, R.lo, hbel⟩
  · unfold upd
    rw [if_neg hg]
    have h9 : Rd W' g1 h1 c1 s1.bs s1.st s1.p s1.ef s1.ea := Rd.other R.a1 R.a.blk ho (fun e => hg e.symm)
    exact ⟨h9, hr, hb1, hb, .inr ⟨hg, hoo⟩, R.lg1, R.lg, R.lo1, R.lo, hbel⟩

theorem Os.other {t9 : RS} (K : Os W o1 H C xs t1) (K2 : Os W o H C xs t9) (ho : Only W o W') (hne : o1 ≠ o) : Os W' o1 H C xs t1 := K.only K2.rf.blk ho hne (by decide)

theorem RI.ref (R : RI w g1 h1 c1 o1 g h c o H C xs s1 s t1 t W) (hr : Os W' o H C xs t') (ho : Only W o W') : RI w g1 h1 c1 o1 g h c o H C xs s1 s (upd o o1 t1 t') t' W' := by
  have hbel : Below w.heap.size w W' := below_only R.bel ho R.lo R.bel.size
  have key : ∀ {g9 h9 c9 : Nat} {s9 : RS}, RdS W g9 h9 c9 s9 → RdS W' g9 h9 c9 s9 := fun {g9 h9 c9 s9} hd => by
    have hd' : Rd W g9 h9 c9 s9.bs s9.st s9.p s9.ef s9.ea := hd
    exact hd'.grown ho (by intro he; injection he with he; exact R.b.rf.blk.unlike hd'.blk (by decide) he.symm) (by
      intro he
      injection he with he
      obtain ⟨cur, hh, _⟩ := hd'.row
      exact hh.unlike R.b.rf.blk (by decide) he)
  rcases R.al with ⟨rfl, rfl, rfl, rfl, hs, ht⟩ | ⟨hg, hoo⟩
  · unfold upd
    rw [if_pos rfl]
    exact ⟨key R.a1, key R.a, hr, hr, .inl ⟨rfl, rfl, rfl, rfl, hs, rfl⟩, R.lg1, R.lg, R.lo1, R.lo, hbel⟩
  · unfold upd
    rw [if_neg hoo]
    exact ⟨key R.a1, key R.a, R.b1.other R.b ho (fun e => hoo e.symm), hr, .inr ⟨hg, hoo⟩, R.lg1, R.lg, R.lo1, R.lo, hbel⟩

theorem RI.below (R : RI w g1 h1 c1 o1 g h c o H C xs s1 s t1 t W) (hb : Below W.heap.size W W') : RI w g1 h1 c1 o1 g h c o H C xs s1 s t1 t W' :=
  ⟨Rd.below R.a1 hb, Rd.below R.a hb, R.b1.below hb, R.b.below hb, R.al, R.lg1, R.lg, R.lo1, R.lo, R.bel.trans (hb.mono R.bel.size)⟩
theorem RI.alloc (R : RI w g1 h1 c1 o1 g h c o H C xs s1 s t1 t W) (x : Obj) : RI w g1 h1 c1 o1 g h c o H C xs s1 s t1 t (W.alloc x) := R.below ((Below.refl _ W).alloc (Nat.le_refl _) x)
theorem RI.drewN (R : RI w g1 h1 c1 o1 g h c o H C xs s1 s t1 t W) (n : Nat) : RI w g1 h1 c1 o1 g h c o H C xs s1 s t1 t (W.drewN n) := R.below ⟨rfl, rfl, rfl, Nat.le_refl _, fun _ _ => rfl⟩
theorem RI.drew (R : RI w g1 h1 c1 o1 g h c o H C xs s1 s t1 t W) : RI w g1 h1 c1 o1 g h c o H C xs s1 s t1 t W.drew := R.drewN 1

/-- The readers in use are the new ones. -/
theorem RI.take (R : RI w g1 h1 c1 o1 g h c o H C xs s1 s t1 t W) {g2 h2 c2 o2 : Nat} {s2 t2 : RS} (hr : RdS W g2 h2 c2 s2) (hq : Os W o2 H C xs t2) (h3 : g2 ≠ g1) (h4 : o2 ≠ o1) (h5 : w.heap.size ≤ g2) (h6 : w.heap.size ≤ o2) : RI w g1 h1 c1 o1 g2 h2 c2 o2 H C xs s1 s2 t1 t2 W :=
  ⟨R.a1, hr, R.b1, hq, .inr ⟨h3, h4⟩, R.lg1, h5, R.lo1, h6, R.bel⟩
/-- Back to the first readers. -/
theorem RI.back (R : RI w g1 h1 c1 o1 g h c o H C xs s1 s t1 t W) : RI w g1 h1 c1 o1 g1 h1 c1 o1 H C xs s1 s1 t1 t1 W :=
  ⟨R.a1, R.a1, R.b1, R.b1, .inl ⟨rfl, rfl, rfl, rfl, rfl, rfl⟩, R.lg1, R.lg1, R.lo1, R.lo1, R.bel⟩
/-- The two states go together. -/
theorem RI.upd_same (R : RI w g1 h1 c1 o1 g h c o H C xs s1 s t1 t W) (u1 u : RS) : upd g g1 u1 u = upd o o1 u1 u := by
  unfold upd
  rcases R.al with ⟨rfl, _, _, rfl, _, _⟩ | ⟨hg, ho⟩
  · rw [if_pos rfl, if_pos rfl]
  · rw [if_neg hg, if_neg ho]
end

end Go.Proofs.Ytlmgbnpimmjijab
