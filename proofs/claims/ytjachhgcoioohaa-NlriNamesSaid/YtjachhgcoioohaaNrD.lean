/- Routes read: a reader beside a route of one's own; the ranges of what is read. -/
import Derived.Test.YtjachhgcoioohaaNrC
import Derived.Test.YtjachhgcoioohaaNoD
namespace Go.Proofs.Ytjachhgcoioohaa
open Go.RowKit Go.Maps
set_option linter.unusedVariables false
set_option linter.unusedSimpArgs false
set_option maxRecDepth 100000

theorem Only.sets {B : Nat} {a : World} : ∀ (vs : List Value) (o : Nat) (w : World), Only a B w → Only a B (w.setCells B o vs)
  | [], _, _, h => h
  | v :: vs, o, w, h => Only.sets vs (o + 1) _ (only_set h (p := ⟨B, o, none⟩) (.inl rfl) v)
theorem Only.setsNew {g B : Nat} {a : World} (hB : a.heap.size ≤ B) : ∀ (vs : List Value) (o : Nat) (w : World), Only a g w → Only a g (w.setCells B o vs)
  | [], _, _, h => h
  | v :: vs, o, w, h => Only.setsNew hB vs (o + 1) _ (only_set h (p := ⟨B, o, none⟩) (.inr hB) v)

/-- A reader at work, a route in a block of the call's own, and a block of zeros for the result. -/
structure RB (w0 : World) (g h cap : Nat) (s : RS) (B R : Nat) (x : NL) (W : World) : Prop where
  rd : RdS W g h cap s
  box : Has W B 36 x.cs
  zer : Has W R 36 zcs
  gB : g ≠ B
  hB : h ≠ B
  gR : g ≠ R
  hR : h ≠ R
  BR : B ≠ R
  on : Only w0 g W
  nw : w0.heap.size ≤ B
  nr : w0.heap.size ≤ R
section
variable {w0 W W' : World} {g h cap B R : Nat} {s s' : RS} {x : NL}
theorem RB.call (H : RB w0 g h cap s B R x W) (r : RdS W' g h cap s') (o : Only W g W') : RB w0 g h cap s' B R x W' :=
  ⟨r, H.box.grown o (by rintro ⟨⟩; exact H.gB rfl), H.zer.grown o (by rintro ⟨⟩; exact H.gR rfl), H.gB, H.hB, H.gR, H.hR, H.BR, only_trans H.on o, H.nw, H.nr⟩
theorem RB.below (H : RB w0 g h cap s B R x W) (hb : Below W.heap.size W W') : RB w0 g h cap s B R x W' :=
  ⟨Rd.below H.rd hb, H.box.below hb, H.zer.below hb, H.gB, H.hB, H.gR, H.hR, H.BR, only_trans H.on (only_below hb g), H.nw, H.nr⟩
theorem RB.set (H : RB w0 g h cap s B R x W) (i : Nat) (u : Value) (x' : NL) (he : x.cs.setIfInBounds i u = x'.cs) : RB w0 g h cap s B R x' (W.setCell ⟨B, i, none⟩ u) :=
  ⟨Rd.grown H.rd (only_set (only_refl W B) (p := ⟨B, i, none⟩) (.inl rfl) u) (by rintro ⟨⟩; exact H.gB rfl) (by rintro ⟨⟩; exact H.hB rfl), he ▸ H.box.set_ i u, H.zer.far1 H.BR.symm, H.gB, H.hB, H.gR, H.hR, H.BR, only_set H.on (p := ⟨B, i, none⟩) (.inr H.nw) u, H.nw, H.nr⟩
theorem RB.sets (H : RB w0 g h cap s B R x W) (o : Nat) (vs : List Value) (x' : NL) (he : Go.Proofs.Ytjachhgcoioohaa.sets x.cs o vs = x'.cs) : RB w0 g h cap s B R x' (W.setCells B o vs) :=
  ⟨Rd.grown H.rd (Only.sets vs o W (only_refl W B)) (by rintro ⟨⟩; exact H.gB rfl) (by rintro ⟨⟩; exact H.hB rfl), he ▸ Has.sets vs o W _ H.box, Has.far H.BR.symm vs o W H.zer, H.gB, H.hB, H.gR, H.hR, H.BR, Only.setsNew H.nw vs o W H.on, H.nw, H.nr⟩
theorem RB.start {w : World} (H : RdS w g h cap s) : RB w g h cap s (w.heap.size + 1) w.heap.size nl0 ((w.alloc (.cells zcs 36)).alloc (.cells zcs 36)) := by
  have hb : Below w.heap.size w ((w.alloc (.cells zcs 36)).alloc (.cells zcs 36)) := ((Below.refl _ w).alloc (Nat.le_refl _) _).alloc (by simp) _
  have hg : g < w.heap.size := H.blk.lt
  have hh : h < w.heap.size := by
    obtain ⟨_, hh, _⟩ := H.row
    exact hh.lt
  refine ⟨Rd.below H hb, ?_, (Has.new w _ _).below ((Below.refl _ _).alloc (Nat.le_refl _) _), by omega, by omega, by omega, by omega, by omega, only_below hb g, by omega, Nat.le_refl _⟩
  have h1 := Has.new (w.alloc (.cells zcs 36)) 36 zcs
  have h2 : Has ((w.alloc (.cells zcs 36)).alloc (.cells zcs 36)) (w.heap.size + 1) 36 zcs := by simpa using h1
  exact h2
theorem RB.row (H : RB w0 g h cap s B R x W) (x' : NL) : RB w0 g h cap s B R x' (W.setRow B x'.cs) := by
  have h1 : Only W B (W.setRow B x'.cs) := Only.row _
  have hs := H.on.size
  refine ⟨Rd.grown H.rd h1 (by rintro ⟨⟩; exact H.gB rfl) (by rintro ⟨⟩; exact H.hB rfl), setRow_heap _ _ _ _ _ _ H.box, H.zer.grown h1 (by rintro ⟨⟩; exact H.BR rfl), H.gB, H.hB, H.gR, H.hR, H.BR, ?_, H.nw, H.nr⟩
  exact ⟨h1.os.trans H.on.os, h1.tape.trans H.on.tape, h1.output.trans H.on.output, Nat.le_trans H.on.size h1.size, fun i hi hne => (h1.block i (Nat.lt_of_lt_of_le hi hs) (by rintro ⟨⟩; have := H.nw; omega)).trans (H.on.block i hi hne)⟩
/-- The result is written: the end. -/
theorem RB.end_ (H : RB w0 g h cap s B R x W) : RdS (W.setRow R x.cs) g h cap s ∧ Only w0 g (W.setRow R x.cs) := by
  have h1 : Only W R (W.setRow R x.cs) := Only.row _
  have hs := H.on.size
  exact ⟨Rd.grown H.rd h1 (by rintro ⟨⟩; exact H.gR rfl) (by rintro ⟨⟩; exact H.hR rfl), ⟨h1.os.trans H.on.os, h1.tape.trans H.on.tape, h1.output.trans H.on.output, Nat.le_trans H.on.size h1.size, fun i hi hne => (h1.block i (Nat.lt_of_lt_of_le hi hs) (by rintro ⟨⟩; have := H.nr; omega)).trans (H.on.block i hi hne)⟩⟩
end

theorem set_rd (x : NL) (v : Int) : x.cs.setIfInBounds 1 (.int .u64 v) = ({ x with rd := v } : NL).cs := by simp only [NL.cs, List.setIfInBounds_toArray, List.set_cons_zero, List.set_cons_succ]
theorem set_tag (x : NL) (v : Int) : x.cs.setIfInBounds 12 (.int .u32 v) = ({ x with tag := v } : NL).cs := by simp only [NL.cs, List.setIfInBounds_toArray, List.set_cons_zero, List.set_cons_succ]
theorem set_mac (x : NL) (v : Int) : x.cs.setIfInBounds 13 (.int .u64 v) = ({ x with mac := v } : NL).cs := by simp only [NL.cs, List.setIfInBounds_toArray, List.set_cons_zero, List.set_cons_succ]
theorem set_ip (x : NL) (v : Int) : x.cs.setIfInBounds 14 (.int .u32 v) = ({ x with ip := v } : NL).cs := by simp only [NL.cs, List.setIfInBounds_toArray, List.set_cons_zero, List.set_cons_succ]
theorem set_has (x : NL) (v : Bool) : x.cs.setIfInBounds 15 (.bool v) = ({ x with has := v } : NL).cs := by simp only [NL.cs, List.setIfInBounds_toArray, List.set_cons_zero, List.set_cons_succ]
theorem set_pip (x : NL) (v : Int) : x.cs.setIfInBounds 16 (.int .u32 v) = ({ x with pip := v } : NL).cs := by simp only [NL.cs, List.setIfInBounds_toArray, List.set_cons_zero, List.set_cons_succ]
theorem set_pl (x : NL) (v : Int) : x.cs.setIfInBounds 17 (.int .i64 v) = ({ x with pl := v } : NL).cs := by simp only [NL.cs, List.setIfInBounds_toArray, List.set_cons_zero, List.set_cons_succ]
theorem set_gw (x : NL) (v : Int) : x.cs.setIfInBounds 18 (.int .u32 v) = ({ x with gw := v } : NL).cs := by simp only [NL.cs, List.setIfInBounds_toArray, List.set_cons_zero, List.set_cons_succ]
theorem set_l1 (x : NL) (v : Int) : x.cs.setIfInBounds 19 (.int .u32 v) = ({ x with l1 := v } : NL).cs := by simp only [NL.cs, List.setIfInBounds_toArray, List.set_cons_zero, List.set_cons_succ]
theorem set_l2 (x : NL) (v : Int) : x.cs.setIfInBounds 20 (.int .u32 v) = ({ x with l2 := v } : NL).cs := by simp only [NL.cs, List.setIfInBounds_toArray, List.set_cons_zero, List.set_cons_succ]
/-- The ten bytes as cells. -/
abbrev tens (X : List Int) : List Value := [.int .u8 (ten X 0), .int .u8 (ten X 1), .int .u8 (ten X 2), .int .u8 (ten X 3), .int .u8 (ten X 4), .int .u8 (ten X 5), .int .u8 (ten X 6), .int .u8 (ten X 7), .int .u8 (ten X 8), .int .u8 (ten X 9)]
theorem set_esi (x : NL) (X : List Int) : sets x.cs 2 (tens X) = ({ x with e0 := ten X 0, e1 := ten X 1, e2 := ten X 2, e3 := ten X 3, e4 := ten X 4, e5 := ten X 5, e6 := ten X 6, e7 := ten X 7, e8 := ten X 8, e9 := ten X 9 } : NL).cs := by
  simp only [Go.Proofs.Ytjachhgcoioohaa.sets, NL.cs, List.setIfInBounds_toArray, List.set_cons_zero, List.set_cons_succ]

/-- What is read is a number of so many bytes. -/
theorem got_bd {w : World} {g h cap : Nat} {s : RS} (H : RdS w g h cap s) (m : Nat) : 0 ≤ s.got m ∧ s.got m < 256 ^ m := by
  have hp : (0 : Int) < 256 ^ m := Int.pow_pos (by omega)
  rcases three s m with h0 | ⟨h0, h1⟩ | ⟨h0, k, hk, h1⟩
  · unfold RS.got; rw [take_a m h0]; simpa using hp
  · unfold RS.got; rw [take_b m h0 h1]; simpa using hp
  · obtain rfl : m = k := by omega
    unfold RS.got
    rw [take_c m h0 h1]
    have := num_bound _ (part_byte H (s.p - s.st) m)
    rw [part_len H h1] at this
    exact this
theorem x_bd {w : World} {g h cap : Nat} {s : RS} (H : RdS w g h cap s) (m : Nat) : ∀ v ∈ s.x m, 0 ≤ v ∧ v ≤ 255 := by
  unfold RS.x
  rcases three s m with h0 | ⟨h0, h1⟩ | ⟨h0, k, hk, h1⟩
  · rw [take_a m h0]; simp
  · rw [take_b m h0 h1]; simp
  · obtain rfl : m = k := by omega
    rw [take_c m h0 h1]
    exact part_byte H _ _
theorem x_len {w : World} {g h cap : Nat} {s : RS} (H : RdS w g h cap s) (m : Nat) : s.x m = [] ∨ (s.x m).length = m := by
  unfold RS.x
  rcases three s m with h0 | ⟨h0, h1⟩ | ⟨h0, k, hk, h1⟩
  · rw [take_a m h0]; exact .inl rfl
  · rw [take_b m h0 h1]; exact .inl rfl
  · obtain rfl : m = k := by omega
    rw [take_c m h0 h1]
    exact .inr (part_len H h1)
theorem ten_bd {xs : List Int} (h : ∀ v ∈ xs, 0 ≤ v ∧ v ≤ 255) (i : Nat) : 0 ≤ ten xs i ∧ ten xs i ≤ 255 := by
  unfold ten
  by_cases hi : i < xs.length
  · have e : xs.getD i 0 = xs[i] := by simp [hi]
    rw [e]; exact h _ (List.getElem_mem _)
  · have e : xs.getD i 0 = 0 := by simp [hi]
    rw [e]; omega

end Go.Proofs.Ytjachhgcoioohaa
