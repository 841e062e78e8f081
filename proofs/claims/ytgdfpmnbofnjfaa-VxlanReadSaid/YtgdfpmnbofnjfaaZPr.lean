/- Packets: frames read; written by gen_pkr.py. -/
import Derived.Test.YtgdfpmnbofnjfaaZPd
import Derived.RegionTactic
import Derived.ChangeAlike
import Derived.Deep.QuietTactic
import Derived.BigQuiet
namespace Go.Proofs.Ytgdfpmnbofnjfaa
open Go.RowKit Go.Shelf
set_option linter.unusedVariables false
set_option linter.unusedSimpArgs false
set_option maxRecDepth 100000

/-- A number of so many bytes, at a place. -/
def nm (bs : List Int) (p m : Nat) : Int := num ((bs.drop p).take m)
theorem nm_bd {bs : List Int} (hb : ∀ v ∈ bs, 0 ≤ v ∧ v ≤ 255) (p m : Nat) : 0 ≤ nm bs p m ∧ nm bs p m < 256 ^ m := by
  have h := num_bound ((bs.drop p).take m) (fun v hv => hb v (List.mem_of_mem_drop (List.mem_of_mem_take hv)))
  have hl : ((bs.drop p).take m).length ≤ m := by simp; omega
  have := pow_mono m hl
  unfold nm
  omega
theorem got_at {bs : List Int} {p m : Nat} (h : p + m ≤ bs.length) : (⟨bs, 0, p, 0, 0⟩ : RS).got m = nm bs p m := by
  unfold RS.got
  rw [take_c m rfl (by show m ≤ 0 + bs.length - p; omega)]
  rfl
theorem take_at {bs : List Int} {p m p' : Nat} (h : p + m ≤ bs.length) (he : p + m = p') : ((⟨bs, 0, p, 0, 0⟩ : RS).take m).2 = ⟨bs, 0, p', 0, 0⟩ := by
  rw [take_c m rfl (by show m ≤ 0 + bs.length - p; omega), he]
theorem in2 {v : Int} (h : 0 ≤ v ∧ v < 256 ^ 2) : IntKind.i64.wrap v = v := IntWalk.i64_in _ (by omega)
theorem in1 {v : Int} (h : 0 ≤ v ∧ v < 256 ^ 1) : IntKind.i64.wrap v = v := IntWalk.i64_in _ (by omega)
theorem in4 {v : Int} (h : 0 ≤ v ∧ v < 256 ^ 4) : IntKind.u32.wrap v = v := by
  have e : IntKind.u32.wrap v = v % 4294967296 := by rfl
  rw [e]; omega

theorem q1 (g h cap : Nat) (bs : List Int) (p p' : Nat) (w : World) (H : RdS w g h cap ⟨bs, 0, p, 0, 0⟩) (hp : p + 1 ≤ bs.length) (he : p + 1 = p') :
    Calls Try.prog 45 #[.pointer (some ⟨g, 0, none⟩)] w fun e w' => e = .returned (.int .u64 (nm bs p 1)) ∧ RdS w' g h cap ⟨bs, 0, p', 0, 0⟩ ∧ Only w g w' := by
  have h := rU1 g h cap _ w H
  have ht : ((⟨bs, 0, p, 0, 0⟩ : RS).take 1).2 = ⟨bs, 0, p', 0, 0⟩ := take_at (m := 1) hp he
  rw [got_at hp, ht] at h
  exact h
theorem q2 (g h cap : Nat) (bs : List Int) (p p' : Nat) (w : World) (H : RdS w g h cap ⟨bs, 0, p, 0, 0⟩) (hp : p + 2 ≤ bs.length) (he : p + 2 = p') :
    Calls Try.prog 46 #[.pointer (some ⟨g, 0, none⟩)] w fun e w' => e = .returned (.int .u64 (nm bs p 2)) ∧ RdS w' g h cap ⟨bs, 0, p', 0, 0⟩ ∧ Only w g w' := by
  have h := rU2 g h cap _ w H
  have ht : ((⟨bs, 0, p, 0, 0⟩ : RS).take 2).2 = ⟨bs, 0, p', 0, 0⟩ := take_at (m := 2) hp he
  rw [got_at hp, ht] at h
  exact h
theorem q4 (g h cap : Nat) (bs : List Int) (p p' : Nat) (w : World) (H : RdS w g h cap ⟨bs, 0, p, 0, 0⟩) (hp : p + 4 ≤ bs.length) (he : p + 4 = p') :
    Calls Try.prog 47 #[.pointer (some ⟨g, 0, none⟩)] w fun e w' => e = .returned (.int .u64 (nm bs p 4)) ∧ RdS w' g h cap ⟨bs, 0, p', 0, 0⟩ ∧ Only w g w' := by
  have h := rU4 g h cap _ w H
  have ht : ((⟨bs, 0, p, 0, 0⟩ : RS).take 4).2 = ⟨bs, 0, p', 0, 0⟩ := take_at (m := 4) hp he
  rw [got_at hp, ht] at h
  exact h
theorem q6 (g h cap : Nat) (bs : List Int) (p p' : Nat) (w : World) (H : RdS w g h cap ⟨bs, 0, p, 0, 0⟩) (hp : p + 6 ≤ bs.length) (he : p + 6 = p') :
    Calls Try.prog 48 #[.pointer (some ⟨g, 0, none⟩)] w fun e w' => e = .returned (.int .u64 (nm bs p 6)) ∧ RdS w' g h cap ⟨bs, 0, p', 0, 0⟩ ∧ Only w g w' := by
  have h := rU6 g h cap _ w H
  have ht : ((⟨bs, 0, p, 0, 0⟩ : RS).take 6).2 = ⟨bs, 0, p', 0, 0⟩ := take_at (m := 6) hp he
  rw [got_at hp, ht] at h
  exact h
theorem q8 (g h cap : Nat) (bs : List Int) (p p' : Nat) (w : World) (H : RdS w g h cap ⟨bs, 0, p, 0, 0⟩) (hp : p + 8 ≤ bs.length) (he : p + 8 = p') :
    Calls Try.prog 91 #[.pointer (some ⟨g, 0, none⟩)] w fun e w' => e = .returned (.int .u64 (nm bs p 8)) ∧ RdS w' g h cap ⟨bs, 0, p', 0, 0⟩ ∧ Only w g w' := by
  have h := rU8 g h cap _ w H
  have ht : ((⟨bs, 0, p, 0, 0⟩ : RS).take 8).2 = ⟨bs, 0, p', 0, 0⟩ := take_at (m := 8) hp he
  rw [got_at hp, ht] at h
  exact h
theorem qB (g h cap : Nat) (bs : List Int) (p n p' : Nat) (w : World) (H : RdS w g h cap ⟨bs, 0, p, 0, 0⟩) (hp : p + n ≤ bs.length) (he : p + n = p') :
    Calls Try.prog 44 #[.pointer (some ⟨g, 0, none⟩), .int .i64 n] w fun e w' => (∃ v, e = .returned v) ∧ RdS w' g h cap ⟨bs, 0, p', 0, 0⟩ ∧ Only w g w' := by
  have h := rbytes g h cap _ w H n
  rw [take_at hp he] at h
  exact h.mono fun e w' ⟨⟨v, hv, _⟩, h2⟩ => ⟨⟨v, hv⟩, h2⟩

/-- A reader at work, a frame in a block of the call's own, and a block of zeros for the result. -/
structure RB (w0 : World) (g h cap : Nat) (s : RS) (B R : Nat) (x : FR) (W : World) : Prop where
  rd : RdS W g h cap s
  box : Has W B 32 x.cs
  zer : Has W R 32 fr0.cs
  gB : g ≠ B
  hB : h ≠ B
  gR : g ≠ R
  hR : h ≠ R
  BR : B ≠ R
  on : Only w0 g W
  nw : w0.heap.size ≤ B
  nr : w0.heap.size ≤ R
section
variable {w0 W W' : World} {g h cap B R : Nat} {s s' : RS} {x : FR}
theorem RB.call (H : RB w0 g h cap s B R x W) (r : RdS W' g h cap s') (o : Only W g W') : RB w0 g h cap s' B R x W' :=
  ⟨r, H.box.grown o (by rintro ⟨⟩; exact H.gB rfl), H.zer.grown o (by rintro ⟨⟩; exact H.gR rfl), H.gB, H.hB, H.gR, H.hR, H.BR, only_trans H.on o, H.nw, H.nr⟩
theorem RB.below (H : RB w0 g h cap s B R x W) (hb : Below W.heap.size W W') : RB w0 g h cap s B R x W' :=
  ⟨Rd.below H.rd hb, H.box.below hb, H.zer.below hb, H.gB, H.hB, H.gR, H.hR, H.BR, only_trans H.on (only_below hb g), H.nw, H.nr⟩
theorem RB.set (H : RB w0 g h cap s B R x W) (i : Nat) (u : Value) (x' : FR) (he : x.cs.setIfInBounds i u = x'.cs) : RB w0 g h cap s B R x' (W.setCell ⟨B, i, none⟩ u) :=
  ⟨Rd.grown H.rd (only_set (only_refl W B) (p := ⟨B, i, none⟩) (.inl rfl) u) (by rintro ⟨⟩; exact H.gB rfl) (by rintro ⟨⟩; exact H.hB rfl), he ▸ H.box.set_ i u, H.zer.grown (only_set (only_refl W B) (p := ⟨B, i, none⟩) (.inl rfl) u) (by rintro ⟨⟩; exact H.BR rfl), H.gB, H.hB, H.gR, H.hR, H.BR, only_set H.on (p := ⟨B, i, none⟩) (.inr H.nw) u, H.nw, H.nr⟩
theorem RB.end_ (H : RB w0 g h cap s B R x W) : RdS (W.setRow R x.cs) g h cap s ∧ Only w0 g (W.setRow R x.cs) := by
  have h1 : Only W R (W.setRow R x.cs) := Only.row _
  have hs := H.on.size
  exact ⟨Rd.grown H.rd h1 (by rintro ⟨⟩; exact H.gR rfl) (by rintro ⟨⟩; exact H.hR rfl), ⟨h1.os.trans H.on.os, h1.tape.trans H.on.tape, h1.output.trans H.on.output, Nat.le_trans H.on.size h1.size, fun i hi hne => (h1.block i (Nat.lt_of_lt_of_le hi hs) (by rintro ⟨⟩; have := H.nr; omega)).trans (H.on.block i hi hne)⟩⟩
end
theorem RdS.lts {w : World} {g h cap : Nat} {s : RS} (H : RdS w g h cap s) : g < w.heap.size ∧ h < w.heap.size := by
  refine ⟨H.blk.lt, ?_⟩
  obtain ⟨_, hh, _⟩ := H.row
  exact hh.lt
theorem setRow_heap (w : World) (g : Nat) (cs old : Array Value) (t : TypeId) (h : Has w g t old) : Has (w.setRow g cs) g t cs := by
  show (w.heap.modify g _)[g]? = _
  have hg : w.heap[g]? = some (.cells old t (0, 0)) := h
  obtain ⟨hlt, hk⟩ := Array.getElem?_eq_some_iff.1 hg
  rw [Array.getElem?_eq_getElem (by rw [Array.size_modify]; exact hlt), Array.getElem_modify_self, hk]

theorem set_s (x : FR) (v : Int) : x.cs.setIfInBounds 0 (.int .u64 v) = ({ x with s := v } : FR).cs := by simp only [FR.cs, List.setIfInBounds_toArray, List.set_cons_zero, List.set_cons_succ]
theorem set_d (x : FR) (v : Int) : x.cs.setIfInBounds 1 (.int .u64 v) = ({ x with d := v } : FR).cs := by simp only [FR.cs, List.setIfInBounds_toArray, List.set_cons_zero, List.set_cons_succ]
theorem set_k (x : FR) (v : Int) : x.cs.setIfInBounds 2 (.int .i64 v) = ({ x with k := v } : FR).cs := by simp only [FR.cs, List.setIfInBounds_toArray, List.set_cons_zero, List.set_cons_succ]
theorem set_op (x : FR) (v : Int) : x.cs.setIfInBounds 3 (.int .i64 v) = ({ x with op := v } : FR).cs := by simp only [FR.cs, List.setIfInBounds_toArray, List.set_cons_zero, List.set_cons_succ]
theorem set_sm (x : FR) (v : Int) : x.cs.setIfInBounds 4 (.int .u64 v) = ({ x with sm := v } : FR).cs := by simp only [FR.cs, List.setIfInBounds_toArray, List.set_cons_zero, List.set_cons_succ]
theorem set_si (x : FR) (v : Int) : x.cs.setIfInBounds 5 (.int .u32 v) = ({ x with si := v } : FR).cs := by simp only [FR.cs, List.setIfInBounds_toArray, List.set_cons_zero, List.set_cons_succ]
theorem set_tm (x : FR) (v : Int) : x.cs.setIfInBounds 6 (.int .u64 v) = ({ x with tm := v } : FR).cs := by simp only [FR.cs, List.setIfInBounds_toArray, List.set_cons_zero, List.set_cons_succ]
theorem set_ti (x : FR) (v : Int) : x.cs.setIfInBounds 7 (.int .u32 v) = ({ x with ti := v } : FR).cs := by simp only [FR.cs, List.setIfInBounds_toArray, List.set_cons_zero, List.set_cons_succ]
theorem set_hs (x : FR) (v : Int) : x.cs.setIfInBounds 8 (.int .u32 v) = ({ x with hs := v } : FR).cs := by simp only [FR.cs, List.setIfInBounds_toArray, List.set_cons_zero, List.set_cons_succ]
theorem set_hd (x : FR) (v : Int) : x.cs.setIfInBounds 9 (.int .u32 v) = ({ x with hd := v } : FR).cs := by simp only [FR.cs, List.setIfInBounds_toArray, List.set_cons_zero, List.set_cons_succ]
theorem set_tl (x : FR) (v : Int) : x.cs.setIfInBounds 10 (.int .i64 v) = ({ x with tl := v } : FR).cs := by simp only [FR.cs, List.setIfInBounds_toArray, List.set_cons_zero, List.set_cons_succ]
theorem set_pr (x : FR) (v : Int) : x.cs.setIfInBounds 11 (.int .i64 v) = ({ x with pr := v } : FR).cs := by simp only [FR.cs, List.setIfInBounds_toArray, List.set_cons_zero, List.set_cons_succ]
theorem set_sp (x : FR) (v : Int) : x.cs.setIfInBounds 12 (.int .i64 v) = ({ x with sp := v } : FR).cs := by simp only [FR.cs, List.setIfInBounds_toArray, List.set_cons_zero, List.set_cons_succ]
theorem set_dp (x : FR) (v : Int) : x.cs.setIfInBounds 13 (.int .i64 v) = ({ x with dp := v } : FR).cs := by simp only [FR.cs, List.setIfInBounds_toArray, List.set_cons_zero, List.set_cons_succ]
theorem set_da (x : FR) (v : Int) : x.cs.setIfInBounds 14 (.int .u64 v) = ({ x with da := v } : FR).cs := by simp only [FR.cs, List.setIfInBounds_toArray, List.set_cons_zero, List.set_cons_succ]

def startF (bs : List Int) (k : Int) : FR := ⟨nm bs 6 6, nm bs 0 6, k, 0, 0, 0, 0, 0, 0, 0, 0, 0, 0, 0, 0⟩
set_option maxHeartbeats 2000000 in
theorem start_any (g h cap : Nat) (bs : List Int) (hlen : 14 ≤ bs.length) (hby : ∀ v ∈ bs, 0 ≤ v ∧ v ≤ 255) (k : Int) (w : World) (H : RdS w g h cap ⟨bs, 0, 0, 0, 0⟩) :
    Calls Try.prog 90 #[.pointer (some ⟨g, 0, none⟩), .int .i64 k] w fun e w' => e = .returned (.agg (startF bs k).cs) ∧ RdS w' g h cap ⟨bs, 0, 14, 0, 0⟩ ∧ Only w g w' := by
  have HLen := Lib.hid hlen
  have HBy := Lib.hid hby
  have HW : Hid (RB w g h cap ⟨bs, 0, 0, 0, 0⟩ (w.heap.size + 1) w.heap.size (⟨0, 0, k, 0, 0, 0, 0, 0, 0, 0, 0, 0, 0, 0, 0⟩ : FR) ((w.alloc (.cells #[.int .u64 0, .int .u64 0, .int .i64 0, .int .i64 0, .int .u64 0, .int .u32 0, .int .u64 0, .int .u32 0, .int .u32 0, .int .u32 0, .int .i64 0, .int .i64 0, .int .i64 0, .int .i64 0, .int .u64 0] 32)).alloc (.cells #[.int .u64 0, .int .u64 0, .int .i64 k, .int .i64 0, .int .u64 0, .int .u32 0, .int .u64 0, .int .u32 0, .int .u32 0, .int .u32 0, .int .i64 0, .int .i64 0, .int .i64 0, .int .i64 0, .int .u64 0] 32))) := Lib.hid (by
    have hb : Below w.heap.size w ((w.alloc (.cells #[.int .u64 0, .int .u64 0, .int .i64 0, .int .i64 0, .int .u64 0, .int .u32 0, .int .u64 0, .int .u32 0, .int .u32 0, .int .u32 0, .int .i64 0, .int .i64 0, .int .i64 0, .int .i64 0, .int .u64 0] 32)).alloc (.cells #[.int .u64 0, .int .u64 0, .int .i64 k, .int .i64 0, .int .u64 0, .int .u32 0, .int .u64 0, .int .u32 0, .int .u32 0, .int .u32 0, .int .i64 0, .int .i64 0, .int .i64 0, .int .i64 0, .int .u64 0] 32)) := ((Below.refl _ w).alloc (Nat.le_refl _) _).alloc (by simp) _
    have hl := RdS.lts H
    refine ⟨Rd.below H hb, ?_, (Has.new w _ _).below ((Below.refl _ _).alloc (Nat.le_refl _) _), by omega, by omega, by omega, by omega, by omega, only_below hb g, by omega, Nat.le_refl _⟩
    have h1 := Has.new (w.alloc (.cells #[.int .u64 0, .int .u64 0, .int .i64 0, .int .i64 0, .int .u64 0, .int .u32 0, .int .u64 0, .int .u32 0, .int .u32 0, .int .u32 0, .int .i64 0, .int .i64 0, .int .i64 0, .int .i64 0, .int .u64 0] 32)) 32 (⟨0, 0, k, 0, 0, 0, 0, 0, 0, 0, 0, 0, 0, 0, 0⟩ : FR).cs
    rw [World.size_alloc] at h1
    exact h1)
  clear H hlen hby
  go_enter Try.func90, Try.ntmps90
  go_wp2_with fail
  refine (q6 g h cap bs 0 6 _ HW.out.rd (by have := HLen.out; omega) rfl).mono ?_
  rintro e1 w1 ⟨rfl, hr, ho⟩
  have HX := Lib.hid (HW.out.call hr ho)
  clear hr ho HW
  have c := HX.out.box.f1
  have f := HX.out.box.free 1
  have HW := Lib.hid (HX.out.set 1 (.int .u64 (nm bs 0 6)) _ (set_d _ _))
  go_wp2_with fail
  clear c f HX
  refine (q6 g h cap bs 6 12 _ HW.out.rd (by have := HLen.out; omega) rfl).mono ?_
  rintro e2 w2 ⟨rfl, hr, ho⟩
  have HX := Lib.hid (HW.out.call hr ho)
  clear hr ho HW
  have c := HX.out.box.f0
  have f := HX.out.box.free 0
  have HW := Lib.hid (HX.out.set 0 (.int .u64 (nm bs 6 6)) _ (set_s _ _))
  go_wp2_with fail
  clear c f HX
  refine (q2 g h cap bs 12 14 _ HW.out.rd (by have := HLen.out; omega) rfl).mono ?_
  rintro e3 w3 ⟨rfl, hr, ho⟩
  have HX := Lib.hid (HW.out.call hr ho)
  clear hr ho HW
  have HW := HX
  clear HX
  go_wp2_with (first
    | (refine wpList_load_row rfl 32 (.tmp 5) rfl (w.heap.size + 1) rfl 32 _ (0, 0) _ HW.out.box Try.underlying32 rfl (FR.fit _) ?_)
    | (refine wpList_store_row rfl 32 (.tmp 4) (.tmp 16) rfl w.heap.size _ rfl rfl 32 fr0.cs HW.out.zer (FR.fit _) rfl (FR.one _) ?_))
  have HE := Lib.hid (RB.end_ HW.out)
  exact bodyPost_ret (v := .agg (startF bs k).cs) (results_cell_row rfl _ _ w.heap.size 32 (startF bs k).cs (0, 0) _ rfl (setRow_heap _ _ _ _ _ HW.out.zer) Try.underlying32 rfl (FR.fit _)) rfl ⟨rfl, HE.out.1, HE.out.2⟩

theorem RB.mk1 {w w1 : World} {g h cap R : Nat} {s : RS} {x : FR} (H : RdS w1 g h cap s) (hR : g ≠ R) (hR2 : h ≠ R) (hz : Has w1 R 32 fr0.cs) (hl : Below w.heap.size w w1) (hr : w.heap.size ≤ R) : RB w g h cap s w1.heap.size R x (w1.alloc (.cells x.cs 32)) := by
  have hl2 := RdS.lts H
  have hb : Below w1.heap.size w1 (w1.alloc (.cells x.cs 32)) := (Below.refl _ w1).alloc (Nat.le_refl _) _
  have hlt := hz.lt
  exact ⟨Rd.below H hb, Has.new w1 _ _, hz.below hb, by omega, by omega, hR, hR2, by omega, only_below (hl.trans (hb.mono hl.size)) g, hl.size, hr⟩

end Go.Proofs.Ytgdfpmnbofnjfaa

namespace Go.Proofs.Ytgdfpmnbofnjfaa
open Go.RowKit Go.Shelf
set_option linter.unusedVariables false
set_option linter.unusedSimpArgs false
set_option maxRecDepth 100000

def dAF (bs : List Int) : FR := ⟨(nm bs 6 6), (nm bs 0 6), (1), (nm bs 20 2), (nm bs 22 6), (nm bs 28 4), (nm bs 32 6), (nm bs 38 4), 0, 0, 0, 0, 0, 0, (nm bs 42 8)⟩
set_option maxHeartbeats 2000000 in
theorem dA_any (bs : List Int) (hlen : bs.length = 50) (hby : ∀ v ∈ bs, 0 ≤ v ∧ v ≤ 255) (w : World) :
    Calls Try.prog 80 #[.agg (u8s bs).toArray] w fun e w' => e = .returned (.agg (dAF bs).cs) ∧ Below w.heap.size w w' := by
  obtain ⟨cs, hcs⟩ : ∃ cs, (u8s bs).toArray = cs := ⟨_, rfl⟩
  have HC := Lib.hid hcs
  rw [hcs]
  clear hcs
  have HLen := Lib.hid hlen
  have HBy := Lib.hid hby
  clear hlen hby
  have HB0 : Hid (Has ((w.alloc (.cells cs 115)).alloc (.cells #[.int .u64 0, .int .u64 0, .int .i64 0, .int .i64 0, .int .u64 0, .int .u32 0, .int .u64 0, .int .u32 0, .int .u32 0, .int .u32 0, .int .i64 0, .int .i64 0, .int .i64 0, .int .i64 0, .int .u64 0] 32)) w.heap.size 115 cs) := Lib.hid ((Has.new w _ _).below ((Below.refl _ _).alloc (Nat.le_refl _) _))
  have HZ0 : Hid (Has ((w.alloc (.cells cs 115)).alloc (.cells #[.int .u64 0, .int .u64 0, .int .i64 0, .int .i64 0, .int .u64 0, .int .u32 0, .int .u64 0, .int .u32 0, .int .u32 0, .int .u32 0, .int .i64 0, .int .i64 0, .int .i64 0, .int .i64 0, .int .u64 0] 32)) (w.heap.size + 1) 32 fr0.cs) := Lib.hid (by
    have h1 := Has.new (w.alloc (.cells cs 115)) 32 fr0.cs
    rw [World.size_alloc] at h1
    exact h1)
  have HL0 : Hid (Below w.heap.size w ((w.alloc (.cells cs 115)).alloc (.cells #[.int .u64 0, .int .u64 0, .int .i64 0, .int .i64 0, .int .u64 0, .int .u32 0, .int .u64 0, .int .u32 0, .int .u32 0, .int .u32 0, .int .i64 0, .int .i64 0, .int .i64 0, .int .i64 0, .int .u64 0] 32))) := Lib.hid (((Below.refl _ w).alloc (Nat.le_refl _) _).alloc (by simp) _)
  go_enter Try.func80, Try.ntmps80
  go_wp2_with fail
  refine (rnewA (.slice (some ⟨w.heap.size, 0, none⟩) 50 50) bs _ (by
    refine .inr ⟨_, 50, by rw [HLen.out], fun j u hu => ?_⟩
    have h2 : cs[j]? = some u := by rw [← HC.out, ← Array.getElem?_toList]; exact hu
    rw [Addr.add_mid, Nat.zero_add]
    exact (HB0.out.cell j).trans h2) (by rw [HLen.out]; decide) HBy.out).mono ?_
  rintro e w1 ⟨g, h, cap, rfl, hg, hh, hr, hb1⟩
  have HZ1 := Lib.hid (HZ0.out.below hb1)
  have HL1 := Lib.hid (HL0.out.trans (hb1.mono HL0.out.size))
  have HG : Hid ((w.heap.size + 1) < g ∧ (w.heap.size + 1) < h ∧ w.heap.size ≤ g) := Lib.hid (by
    have := HZ0.out.lt
    have := HL0.out.size
    exact ⟨by omega, by omega, by omega⟩)
  clear hb1 hg hh HZ0 HL0
  have HR := Lib.hid hr
  clear hr
  go_wp2_with fail
  refine (start_any g h cap bs (by have := HLen.out; omega) HBy.out 1 _ HR.out).mono ?_
  rintro e W3 ⟨rfl, hr3, ho3⟩
  rw [show (startF bs 1).cs = #[.int .u64 (nm bs 6 6), .int .u64 (nm bs 0 6), .int .i64 1, .int .i64 0, .int .u64 0, .int .u32 0, .int .u64 0, .int .u32 0, .int .u32 0, .int .u32 0, .int .i64 0, .int .i64 0, .int .i64 0, .int .i64 0, .int .u64 0] from rfl]
  have HZ3 := Lib.hid (HZ1.out.grown ho3 (by rintro ⟨⟩; exact Nat.lt_irrefl _ HG.out.1))
  have HL3 := Lib.hid (below_only HL1.out ho3 HG.out.2.2 HL1.out.size)
  have HW : Hid (RB w g h cap ⟨bs, 0, 14, 0, 0⟩ W3.heap.size (w.heap.size + 1) ⟨nm bs 6 6, nm bs 0 6, 1, 0, 0, 0, 0, 0, 0, 0, 0, 0, 0, 0, 0⟩ (W3.alloc (.cells #[.int .u64 (nm bs 6 6), .int .u64 (nm bs 0 6), .int .i64 1, .int .i64 0, .int .u64 0, .int .u32 0, .int .u64 0, .int .u32 0, .int .u32 0, .int .u32 0, .int .i64 0, .int .i64 0, .int .i64 0, .int .i64 0, .int .u64 0] 32))) := Lib.hid (RB.mk1 (x := startF bs 1) hr3 (by have := HG.out.1; omega) (by have := HG.out.2.1; omega) HZ3.out HL3.out (by omega))
  clear hr3 ho3 HZ3 HL3 HZ1 HL1 HR
  go_wp2_with fail
  refine (qB g h cap bs 14 6 20 _ HW.out.rd (by have := HLen.out; omega) rfl).mono ?_
  rintro e1 w1 ⟨⟨v1, rfl⟩, hr, ho⟩
  have HX := Lib.hid (HW.out.call hr ho)
  clear hr ho HW
  have HW := HX
  clear HX
  go_wp2_with fail
  refine (q2 g h cap bs 20 22 _ HW.out.rd (by have := HLen.out; omega) rfl).mono ?_
  rintro e2 w2 ⟨rfl, hr, ho⟩
  have hm := in2 (nm_bd HBy.out 20 2)
  have HX := Lib.hid (HW.out.call hr ho)
  clear hr ho HW
  have c := HX.out.box.f3
  have f := HX.out.box.free 3
  have HW := Lib.hid (HX.out.set 3 (.int .i64 (nm bs 20 2)) _ (set_op _ _))
  go_wp2_with fail
  clear c f HX hm
  refine (q6 g h cap bs 22 28 _ HW.out.rd (by have := HLen.out; omega) rfl).mono ?_
  rintro e3 w3 ⟨rfl, hr, ho⟩
  have HX := Lib.hid (HW.out.call hr ho)
  clear hr ho HW
  have c := HX.out.box.f4
  have f := HX.out.box.free 4
  have HW := Lib.hid (HX.out.set 4 (.int .u64 (nm bs 22 6)) _ (set_sm _ _))
  go_wp2_with fail
  clear c f HX
  refine (q4 g h cap bs 28 32 _ HW.out.rd (by have := HLen.out; omega) rfl).mono ?_
  rintro e4 w4 ⟨rfl, hr, ho⟩
  have hm := in4 (nm_bd HBy.out 28 4)
  have HX := Lib.hid (HW.out.call hr ho)
  clear hr ho HW
  have c := HX.out.box.f5
  have f := HX.out.box.free 5
  have HW := Lib.hid (HX.out.set 5 (.int .u32 (nm bs 28 4)) _ (set_si _ _))
  go_wp2_with fail
  clear c f HX hm
  refine (q6 g h cap bs 32 38 _ HW.out.rd (by have := HLen.out; omega) rfl).mono ?_
  rintro e5 w5 ⟨rfl, hr, ho⟩
  have HX := Lib.hid (HW.out.call hr ho)
  clear hr ho HW
  have c := HX.out.box.f6
  have f := HX.out.box.free 6
  have HW := Lib.hid (HX.out.set 6 (.int .u64 (nm bs 32 6)) _ (set_tm _ _))
  go_wp2_with fail
  clear c f HX
  refine (q4 g h cap bs 38 42 _ HW.out.rd (by have := HLen.out; omega) rfl).mono ?_
  rintro e6 w6 ⟨rfl, hr, ho⟩
  have hm := in4 (nm_bd HBy.out 38 4)
  have HX := Lib.hid (HW.out.call hr ho)
  clear hr ho HW
  have c := HX.out.box.f7
  have f := HX.out.box.free 7
  have HW := Lib.hid (HX.out.set 7 (.int .u32 (nm bs 38 4)) _ (set_ti _ _))
  go_wp2_with fail
  clear c f HX hm
  refine (q8 g h cap bs 42 50 _ HW.out.rd (by have := HLen.out; omega) rfl).mono ?_
  rintro e7 w7 ⟨rfl, hr, ho⟩
  have HX := Lib.hid (HW.out.call hr ho)
  clear hr ho HW
  have c := HX.out.box.f14
  have f := HX.out.box.free 14
  have HW := Lib.hid (HX.out.set 14 (.int .u64 (nm bs 42 8)) _ (set_da _ _))
  go_wp2_with (first
    | (refine wpList_load_row rfl 32 (.tmp 4) rfl W3.heap.size rfl 32 _ (0, 0) _ HW.out.box Try.underlying32 rfl (FR.fit _) ?_)
    | (refine wpList_store_row rfl 32 (.tmp 2) (.tmp 37) rfl (w.heap.size + 1) _ rfl rfl 32 fr0.cs HW.out.zer (FR.fit _) rfl (FR.one _) ?_))
  clear c f HX
  have HE := Lib.hid (RB.end_ HW.out)
  exact bodyPost_ret (v := .agg (dAF bs).cs) (results_cell_row rfl _ _ (w.heap.size + 1) 32 (dAF bs).cs (0, 0) _ rfl (setRow_heap _ _ _ _ _ HW.out.zer) Try.underlying32 rfl (FR.fit _)) rfl ⟨rfl, below_only (Below.refl _ w) HE.out.2 HG.out.2.2 (Nat.le_refl _)⟩

def dHtF (bs : List Int) : FR := ⟨(nm bs 6 6), (nm bs 0 6), (2), 0, 0, 0, 0, 0, (nm bs 26 4), (nm bs 30 4), (nm bs 22 1), (nm bs 23 1), (nm bs 34 2), (nm bs 36 2), (nm bs 42 8)⟩
set_option maxHeartbeats 2000000 in
theorem dHt_any (v : Value) (bs : List Int) (w : World) (hA : Arr w v bs) (hlen : bs.length = 50) (hby : ∀ v ∈ bs, 0 ≤ v ∧ v ≤ 255) (hp : pd (nm bs 23 1) = true) :
    Calls Try.prog 81 #[v] w fun e w' => e = .returned (.agg (dHtF bs).cs) ∧ Below w.heap.size w w' := by
  have HLen := Lib.hid hlen
  have HBy := Lib.hid hby
  clear hlen hby
  have HZ0 : Hid (Has (w.alloc (.cells #[.int .u64 0, .int .u64 0, .int .i64 0, .int .i64 0, .int .u64 0, .int .u32 0, .int .u64 0, .int .u32 0, .int .u32 0, .int .u32 0, .int .i64 0, .int .i64 0, .int .i64 0, .int .i64 0, .int .u64 0] 32)) w.heap.size 32 fr0.cs) := Lib.hid (Has.new w _ _)
  have HL0 : Hid (Below w.heap.size w (w.alloc (.cells #[.int .u64 0, .int .u64 0, .int .i64 0, .int .i64 0, .int .u64 0, .int .u32 0, .int .u64 0, .int .u32 0, .int .u32 0, .int .u32 0, .int .i64 0, .int .i64 0, .int .i64 0, .int .i64 0, .int .u64 0] 32))) := Lib.hid ((Below.refl _ w).alloc (Nat.le_refl _) _)
  obtain ⟨A, c, rfl⟩ := hA.form
  have HA := Lib.hid hA
  have HP := Lib.hid hp
  clear hA hp
  obtain ⟨ln, hln⟩ : ∃ ln, bs.length = ln := ⟨_, rfl⟩
  have HLn := Lib.hid hln
  rw [hln] at HA
  rw [hln]
  clear hln
  go_enter Try.func81, Try.ntmps81
  go_wp2_with fail
  refine (rnewA _ bs _ (HLn.out ▸ HA.out.below HL0.out) (by have := HLen.out; omega) HBy.out).mono ?_
  rintro e w1 ⟨g, h, cap, rfl, hg, hh, hr, hb1⟩
  have HZ1 := Lib.hid (HZ0.out.below hb1)
  have HL1 := Lib.hid (HL0.out.trans (hb1.mono HL0.out.size))
  have HG : Hid (w.heap.size < g ∧ w.heap.size < h ∧ w.heap.size ≤ g) := Lib.hid (by
    have := HZ0.out.lt
    have := HL0.out.size
    exact ⟨by omega, by omega, by omega⟩)
  clear hb1 hg hh HZ0 HL0
  have HR := Lib.hid hr
  clear hr
  go_wp2_with fail
  refine (start_any g h cap bs (by have := HLen.out; omega) HBy.out 2 _ HR.out).mono ?_
  rintro e W3 ⟨rfl, hr3, ho3⟩
  rw [show (startF bs 2).cs = #[.int .u64 (nm bs 6 6), .int .u64 (nm bs 0 6), .int .i64 2, .int .i64 0, .int .u64 0, .int .u32 0, .int .u64 0, .int .u32 0, .int .u32 0, .int .u32 0, .int .i64 0, .int .i64 0, .int .i64 0, .int .i64 0, .int .u64 0] from rfl]
  have HZ3 := Lib.hid (HZ1.out.grown ho3 (by rintro ⟨⟩; exact Nat.lt_irrefl _ HG.out.1))
  have HL3 := Lib.hid (below_only HL1.out ho3 HG.out.2.2 HL1.out.size)
  have HW : Hid (RB w g h cap ⟨bs, 0, 14, 0, 0⟩ W3.heap.size w.heap.size ⟨nm bs 6 6, nm bs 0 6, 2, 0, 0, 0, 0, 0, 0, 0, 0, 0, 0, 0, 0⟩ (W3.alloc (.cells #[.int .u64 (nm bs 6 6), .int .u64 (nm bs 0 6), .int .i64 2, .int .i64 0, .int .u64 0, .int .u32 0, .int .u64 0, .int .u32 0, .int .u32 0, .int .u32 0, .int .i64 0, .int .i64 0, .int .i64 0, .int .i64 0, .int .u64 0] 32))) := Lib.hid (RB.mk1 (x := startF bs 2) hr3 (by have := HG.out.1; omega) (by have := HG.out.2.1; omega) HZ3.out HL3.out (by omega))
  clear hr3 ho3 HZ3 HL3 HZ1 HL1 HR
  go_wp2_with fail
  refine (qB g h cap bs 14 8 22 _ HW.out.rd (by have := HLen.out; omega) rfl).mono ?_
  rintro e1 w1 ⟨⟨v1, rfl⟩, hr, ho⟩
  have HX := Lib.hid (HW.out.call hr ho)
  clear hr ho HW
  have HW := HX
  clear HX
  go_wp2_with fail
  refine (q1 g h cap bs 22 23 _ HW.out.rd (by have := HLen.out; omega) rfl).mono ?_
  rintro e2 w2 ⟨rfl, hr, ho⟩
  have hm := in1 (nm_bd HBy.out 22 1)
  have HX := Lib.hid (HW.out.call hr ho)
  clear hr ho HW
  have c := HX.out.box.f10
  have f := HX.out.box.free 10
  have HW := Lib.hid (HX.out.set 10 (.int .i64 (nm bs 22 1)) _ (set_tl _ _))
  go_wp2_with fail
  clear c f HX hm
  refine (q1 g h cap bs 23 24 _ HW.out.rd (by have := HLen.out; omega) rfl).mono ?_
  rintro e3 w3 ⟨rfl, hr, ho⟩
  have hm := in1 (nm_bd HBy.out 23 1)
  have HX := Lib.hid (HW.out.call hr ho)
  clear hr ho HW
  have c := HX.out.box.f11
  have f := HX.out.box.free 11
  have HW := Lib.hid (HX.out.set 11 (.int .i64 (nm bs 23 1)) _ (set_pr _ _))
  go_wp2_with fail
  clear c f HX hm
  refine (q2 g h cap bs 24 26 _ HW.out.rd (by have := HLen.out; omega) rfl).mono ?_
  rintro e4 w4 ⟨rfl, hr, ho⟩
  have HX := Lib.hid (HW.out.call hr ho)
  clear hr ho HW
  have HW := HX
  clear HX
  go_wp2_with fail
  refine (q4 g h cap bs 26 30 _ HW.out.rd (by have := HLen.out; omega) rfl).mono ?_
  rintro e5 w5 ⟨rfl, hr, ho⟩
  have hm := in4 (nm_bd HBy.out 26 4)
  have HX := Lib.hid (HW.out.call hr ho)
  clear hr ho HW
  have c := HX.out.box.f8
  have f := HX.out.box.free 8
  have HW := Lib.hid (HX.out.set 8 (.int .u32 (nm bs 26 4)) _ (set_hs _ _))
  go_wp2_with fail
  clear c f HX hm
  refine (q4 g h cap bs 30 34 _ HW.out.rd (by have := HLen.out; omega) rfl).mono ?_
  rintro e6 w6 ⟨rfl, hr, ho⟩
  have hm := in4 (nm_bd HBy.out 30 4)
  have HX := Lib.hid (HW.out.call hr ho)
  clear hr ho HW
  have c := HX.out.box.f9
  have f := HX.out.box.free 9
  have HW := Lib.hid (HX.out.set 9 (.int .u32 (nm bs 30 4)) _ (set_hd _ _))
  go_upto_region 9 with fail
  clear c f HX hm
  have cp := HW.out.box.f11
  dsimp only at cp
  go_wp2_with fail
  refine (ported_any _ _).mono ?_
  rintro e8 w8 ⟨rfl, rfl⟩
  rw [HP.out]
  clear cp
  go_wp2_with fail
  refine (q2 g h cap bs 34 36 _ HW.out.rd (by have := HLen.out; omega) rfl).mono ?_
  rintro e7 w7 ⟨rfl, hr, ho⟩
  have hm := in2 (nm_bd HBy.out 34 2)
  have HX := Lib.hid (HW.out.call hr ho)
  clear hr ho HW
  have c := HX.out.box.f12
  have f := HX.out.box.free 12
  have HW := Lib.hid (HX.out.set 12 (.int .i64 (nm bs 34 2)) _ (set_sp _ _))
  go_wp2_with fail
  clear c f HX hm
  refine (q2 g h cap bs 36 38 _ HW.out.rd (by have := HLen.out; omega) rfl).mono ?_
  rintro e8 w8 ⟨rfl, hr, ho⟩
  have hm := in2 (nm_bd HBy.out 36 2)
  have HX := Lib.hid (HW.out.call hr ho)
  clear hr ho HW
  have c := HX.out.box.f13
  have f := HX.out.box.free 13
  have HW := Lib.hid (HX.out.set 13 (.int .i64 (nm bs 36 2)) _ (set_dp _ _))
  go_wp2_with fail
  clear c f HX hm
  refine (q4 g h cap bs 38 42 _ HW.out.rd (by have := HLen.out; omega) rfl).mono ?_
  rintro e9 w9 ⟨rfl, hr, ho⟩
  have HX := Lib.hid (HW.out.call hr ho)
  clear hr ho HW
  have HW := HX
  clear HX
  go_wp2_with fail
  refine (q8 g h cap bs 42 50 _ HW.out.rd (by have := HLen.out; omega) rfl).mono ?_
  rintro e10 w10 ⟨rfl, hr, ho⟩
  have HX := Lib.hid (HW.out.call hr ho)
  clear hr ho HW
  have c := HX.out.box.f14
  have f := HX.out.box.free 14
  have HW := Lib.hid (HX.out.set 14 (.int .u64 (nm bs 42 8)) _ (set_da _ _))
  go_wp2_with (first
    | (refine wpList_load_row rfl 32 (.tmp 4) rfl W3.heap.size rfl 32 _ (0, 0) _ HW.out.box Try.underlying32 rfl (FR.fit _) ?_)
    | (refine wpList_store_row rfl 32 (.tmp 2) (.tmp 52) rfl w.heap.size _ rfl rfl 32 fr0.cs HW.out.zer (FR.fit _) rfl (FR.one _) ?_))
  clear c f HX
  have HE := Lib.hid (RB.end_ HW.out)
  exact bodyPost_ret (v := .agg (dHtF bs).cs) (results_cell_row rfl _ _ w.heap.size 32 (dHtF bs).cs (0, 0) _ rfl (setRow_heap _ _ _ _ _ HW.out.zer) Try.underlying32 rfl (FR.fit _)) rfl ⟨rfl, below_only (Below.refl _ w) HE.out.2 HG.out.2.2 (Nat.le_refl _)⟩

def dHfF (bs : List Int) : FR := ⟨(nm bs 6 6), (nm bs 0 6), (2), 0, 0, 0, 0, 0, (nm bs 26 4), (nm bs 30 4), (nm bs 22 1), (nm bs 23 1), 0, 0, (nm bs 34 8)⟩
set_option maxHeartbeats 2000000 in
theorem dHf_any (v : Value) (bs : List Int) (w : World) (hA : Arr w v bs) (hlen : bs.length = 42) (hby : ∀ v ∈ bs, 0 ≤ v ∧ v ≤ 255) (hp : pd (nm bs 23 1) = false) :
    Calls Try.prog 81 #[v] w fun e w' => e = .returned (.agg (dHfF bs).cs) ∧ Below w.heap.size w w' := by
  have HLen := Lib.hid hlen
  have HBy := Lib.hid hby
  clear hlen hby
  have HZ0 : Hid (Has (w.alloc (.cells #[.int .u64 0, .int .u64 0, .int .i64 0, .int .i64 0, .int .u64 0, .int .u32 0, .int .u64 0, .int .u32 0, .int .u32 0, .int .u32 0, .int .i64 0, .int .i64 0, .int .i64 0, .int .i64 0, .int .u64 0] 32)) w.heap.size 32 fr0.cs) := Lib.hid (Has.new w _ _)
  have HL0 : Hid (Below w.heap.size w (w.alloc (.cells #[.int .u64 0, .int .u64 0, .int .i64 0, .int .i64 0, .int .u64 0, .int .u32 0, .int .u64 0, .int .u32 0, .int .u32 0, .int .u32 0, .int .i64 0, .int .i64 0, .int .i64 0, .int .i64 0, .int .u64 0] 32))) := Lib.hid ((Below.refl _ w).alloc (Nat.le_refl _) _)
  obtain ⟨A, c, rfl⟩ := hA.form
  have HA := Lib.hid hA
  have HP := Lib.hid hp
  clear hA hp
  obtain ⟨ln, hln⟩ : ∃ ln, bs.length = ln := ⟨_, rfl⟩
  have HLn := Lib.hid hln
  rw [hln] at HA
  rw [hln]
  clear hln
  go_enter Try.func81, Try.ntmps81
  go_wp2_with fail
  refine (rnewA _ bs _ (HLn.out ▸ HA.out.below HL0.out) (by have := HLen.out; omega) HBy.out).mono ?_
  rintro e w1 ⟨g, h, cap, rfl, hg, hh, hr, hb1⟩
  have HZ1 := Lib.hid (HZ0.out.below hb1)
  have HL1 := Lib.hid (HL0.out.trans (hb1.mono HL0.out.size))
  have HG : Hid (w.heap.size < g ∧ w.heap.size < h ∧ w.heap.size ≤ g) := Lib.hid (by
    have := HZ0.out.lt
    have := HL0.out.size
    exact ⟨by omega, by omega, by omega⟩)
  clear hb1 hg hh HZ0 HL0
  have HR := Lib.hid hr
  clear hr
  go_wp2_with fail
  refine (start_any g h cap bs (by have := HLen.out; omega) HBy.out 2 _ HR.out).mono ?_
  rintro e W3 ⟨rfl, hr3, ho3⟩
  rw [show (startF bs 2).cs = #[.int .u64 (nm bs 6 6), .int .u64 (nm bs 0 6), .int .i64 2, .int .i64 0, .int .u64 0, .int .u32 0, .int .u64 0, .int .u32 0, .int .u32 0, .int .u32 0, .int .i64 0, .int .i64 0, .int .i64 0, .int .i64 0, .int .u64 0] from rfl]
  have HZ3 := Lib.hid (HZ1.out.grown ho3 (by rintro ⟨⟩; exact Nat.lt_irrefl _ HG.out.1))
  have HL3 := Lib.hid (below_only HL1.out ho3 HG.out.2.2 HL1.out.size)
  have HW : Hid (RB w g h cap ⟨bs, 0, 14, 0, 0⟩ W3.heap.size w.heap.size ⟨nm bs 6 6, nm bs 0 6, 2, 0, 0, 0, 0, 0, 0, 0, 0, 0, 0, 0, 0⟩ (W3.alloc (.cells #[.int .u64 (nm bs 6 6), .int .u64 (nm bs 0 6), .int .i64 2, .int .i64 0, .int .u64 0, .int .u32 0, .int .u64 0, .int .u32 0, .int .u32 0, .int .u32 0, .int .i64 0, .int .i64 0, .int .i64 0, .int .i64 0, .int .u64 0] 32))) := Lib.hid (RB.mk1 (x := startF bs 2) hr3 (by have := HG.out.1; omega) (by have := HG.out.2.1; omega) HZ3.out HL3.out (by omega))
  clear hr3 ho3 HZ3 HL3 HZ1 HL1 HR
  go_wp2_with fail
  refine (qB g h cap bs 14 8 22 _ HW.out.rd (by have := HLen.out; omega) rfl).mono ?_
  rintro e1 w1 ⟨⟨v1, rfl⟩, hr, ho⟩
  have HX := Lib.hid (HW.out.call hr ho)
  clear hr ho HW
  have HW := HX
  clear HX
  go_wp2_with fail
  refine (q1 g h cap bs 22 23 _ HW.out.rd (by have := HLen.out; omega) rfl).mono ?_
  rintro e2 w2 ⟨rfl, hr, ho⟩
  have hm := in1 (nm_bd HBy.out 22 1)
  have HX := Lib.hid (HW.out.call hr ho)
  clear hr ho HW
  have c := HX.out.box.f10
  have f := HX.out.box.free 10
  have HW := Lib.hid (HX.out.set 10 (.int .i64 (nm bs 22 1)) _ (set_tl _ _))
  go_wp2_with fail
  clear c f HX hm
  refine (q1 g h cap bs 23 24 _ HW.out.rd (by have := HLen.out; omega) rfl).mono ?_
  rintro e3 w3 ⟨rfl, hr, ho⟩
  have hm := in1 (nm_bd HBy.out 23 1)
  have HX := Lib.hid (HW.out.call hr ho)
  clear hr ho HW
  have c := HX.out.box.f11
  have f := HX.out.box.free 11
  have HW := Lib.hid (HX.out.set 11 (.int .i64 (nm bs 23 1)) _ (set_pr _ _))
  go_wp2_with fail
  clear c f HX hm
  refine (q2 g h cap bs 24 26 _ HW.out.rd (by have := HLen.out; omega) rfl).mono ?_
  rintro e4 w4 ⟨rfl, hr, ho⟩
  have HX := Lib.hid (HW.out.call hr ho)
  clear hr ho HW
  have HW := HX
  clear HX
  go_wp2_with fail
  refine (q4 g h cap bs 26 30 _ HW.out.rd (by have := HLen.out; omega) rfl).mono ?_
  rintro e5 w5 ⟨rfl, hr, ho⟩
  have hm := in4 (nm_bd HBy.out 26 4)
  have HX := Lib.hid (HW.out.call hr ho)
  clear hr ho HW
  have c := HX.out.box.f8
  have f := HX.out.box.free 8
  have HW := Lib.hid (HX.out.set 8 (.int .u32 (nm bs 26 4)) _ (set_hs _ _))
  go_wp2_with fail
  clear c f HX hm
  refine (q4 g h cap bs 30 34 _ HW.out.rd (by have := HLen.out; omega) rfl).mono ?_
  rintro e6 w6 ⟨rfl, hr, ho⟩
  have hm := in4 (nm_bd HBy.out 30 4)
  have HX := Lib.hid (HW.out.call hr ho)
  clear hr ho HW
  have c := HX.out.box.f9
  have f := HX.out.box.free 9
  have HW := Lib.hid (HX.out.set 9 (.int .u32 (nm bs 30 4)) _ (set_hd _ _))
  go_upto_region 9 with fail
  clear c f HX hm
  have cp := HW.out.box.f11
  dsimp only at cp
  go_wp2_with fail
  refine (ported_any _ _).mono ?_
  rintro e8 w8 ⟨rfl, rfl⟩
  rw [HP.out]
  clear cp
  go_wp2_with fail
  refine (q8 g h cap bs 34 42 _ HW.out.rd (by have := HLen.out; omega) rfl).mono ?_
  rintro e7 w7 ⟨rfl, hr, ho⟩
  have HX := Lib.hid (HW.out.call hr ho)
  clear hr ho HW
  have c := HX.out.box.f14
  have f := HX.out.box.free 14
  have HW := Lib.hid (HX.out.set 14 (.int .u64 (nm bs 34 8)) _ (set_da _ _))
  go_wp2_with (first
    | (refine wpList_load_row rfl 32 (.tmp 4) rfl W3.heap.size rfl 32 _ (0, 0) _ HW.out.box Try.underlying32 rfl (FR.fit _) ?_)
    | (refine wpList_store_row rfl 32 (.tmp 2) (.tmp 52) rfl w.heap.size _ rfl rfl 32 fr0.cs HW.out.zer (FR.fit _) rfl (FR.one _) ?_))
  clear c f HX
  have HE := Lib.hid (RB.end_ HW.out)
  exact bodyPost_ret (v := .agg (dHfF bs).cs) (results_cell_row rfl _ _ w.heap.size 32 (dHfF bs).cs (0, 0) _ rfl (setRow_heap _ _ _ _ _ HW.out.zer) Try.underlying32 rfl (FR.fit _)) rfl ⟨rfl, below_only (Below.refl _ w) HE.out.2 HG.out.2.2 (Nat.le_refl _)⟩

def dDF (bs : List Int) : FR := ⟨(nm bs 6 6), (nm bs 0 6), (0), 0, 0, 0, 0, 0, 0, 0, 0, 0, 0, 0, (nm bs 14 8)⟩
set_option maxHeartbeats 2000000 in
theorem dD_any (bs : List Int) (hlen : bs.length = 22) (hby : ∀ v ∈ bs, 0 ≤ v ∧ v ≤ 255) (w : World) :
    Calls Try.prog 82 #[.agg (u8s bs).toArray] w fun e w' => e = .returned (.agg (dDF bs).cs) ∧ Below w.heap.size w w' := by
  obtain ⟨cs, hcs⟩ : ∃ cs, (u8s bs).toArray = cs := ⟨_, rfl⟩
  have HC := Lib.hid hcs
  rw [hcs]
  clear hcs
  have HLen := Lib.hid hlen
  have HBy := Lib.hid hby
  clear hlen hby
  have HB0 : Hid (Has ((w.alloc (.cells cs 117)).alloc (.cells #[.int .u64 0, .int .u64 0, .int .i64 0, .int .i64 0, .int .u64 0, .int .u32 0, .int .u64 0, .int .u32 0, .int .u32 0, .int .u32 0, .int .i64 0, .int .i64 0, .int .i64 0, .int .i64 0, .int .u64 0] 32)) w.heap.size 117 cs) := Lib.hid ((Has.new w _ _).below ((Below.refl _ _).alloc (Nat.le_refl _) _))
  have HZ0 : Hid (Has ((w.alloc (.cells cs 117)).alloc (.cells #[.int .u64 0, .int .u64 0, .int .i64 0, .int .i64 0, .int .u64 0, .int .u32 0, .int .u64 0, .int .u32 0, .int .u32 0, .int .u32 0, .int .i64 0, .int .i64 0, .int .i64 0, .int .i64 0, .int .u64 0] 32)) (w.heap.size + 1) 32 fr0.cs) := Lib.hid (by
    have h1 := Has.new (w.alloc (.cells cs 117)) 32 fr0.cs
    rw [World.size_alloc] at h1
    exact h1)
  have HL0 : Hid (Below w.heap.size w ((w.alloc (.cells cs 117)).alloc (.cells #[.int .u64 0, .int .u64 0, .int .i64 0, .int .i64 0, .int .u64 0, .int .u32 0, .int .u64 0, .int .u32 0, .int .u32 0, .int .u32 0, .int .i64 0, .int .i64 0, .int .i64 0, .int .i64 0, .int .u64 0] 32))) := Lib.hid (((Below.refl _ w).alloc (Nat.le_refl _) _).alloc (by simp) _)
  go_enter Try.func82, Try.ntmps82
  go_wp2_with fail
  refine (rnewA (.slice (some ⟨w.heap.size, 0, none⟩) 22 22) bs _ (by
    refine .inr ⟨_, 22, by rw [HLen.out], fun j u hu => ?_⟩
    have h2 : cs[j]? = some u := by rw [← HC.out, ← Array.getElem?_toList]; exact hu
    rw [Addr.add_mid, Nat.zero_add]
    exact (HB0.out.cell j).trans h2) (by rw [HLen.out]; decide) HBy.out).mono ?_
  rintro e w1 ⟨g, h, cap, rfl, hg, hh, hr, hb1⟩
  have HZ1 := Lib.hid (HZ0.out.below hb1)
  have HL1 := Lib.hid (HL0.out.trans (hb1.mono HL0.out.size))
  have HG : Hid ((w.heap.size + 1) < g ∧ (w.heap.size + 1) < h ∧ w.heap.size ≤ g) := Lib.hid (by
    have := HZ0.out.lt
    have := HL0.out.size
    exact ⟨by omega, by omega, by omega⟩)
  clear hb1 hg hh HZ0 HL0
  have HR := Lib.hid hr
  clear hr
  go_wp2_with fail
  refine (start_any g h cap bs (by have := HLen.out; omega) HBy.out 0 _ HR.out).mono ?_
  rintro e W3 ⟨rfl, hr3, ho3⟩
  rw [show (startF bs 0).cs = #[.int .u64 (nm bs 6 6), .int .u64 (nm bs 0 6), .int .i64 0, .int .i64 0, .int .u64 0, .int .u32 0, .int .u64 0, .int .u32 0, .int .u32 0, .int .u32 0, .int .i64 0, .int .i64 0, .int .i64 0, .int .i64 0, .int .u64 0] from rfl]
  have HZ3 := Lib.hid (HZ1.out.grown ho3 (by rintro ⟨⟩; exact Nat.lt_irrefl _ HG.out.1))
  have HL3 := Lib.hid (below_only HL1.out ho3 HG.out.2.2 HL1.out.size)
  have HW : Hid (RB w g h cap ⟨bs, 0, 14, 0, 0⟩ W3.heap.size (w.heap.size + 1) ⟨nm bs 6 6, nm bs 0 6, 0, 0, 0, 0, 0, 0, 0, 0, 0, 0, 0, 0, 0⟩ (W3.alloc (.cells #[.int .u64 (nm bs 6 6), .int .u64 (nm bs 0 6), .int .i64 0, .int .i64 0, .int .u64 0, .int .u32 0, .int .u64 0, .int .u32 0, .int .u32 0, .int .u32 0, .int .i64 0, .int .i64 0, .int .i64 0, .int .i64 0, .int .u64 0] 32))) := Lib.hid (RB.mk1 (x := startF bs 0) hr3 (by have := HG.out.1; omega) (by have := HG.out.2.1; omega) HZ3.out HL3.out (by omega))
  clear hr3 ho3 HZ3 HL3 HZ1 HL1 HR
  go_wp2_with fail
  refine (q8 g h cap bs 14 22 _ HW.out.rd (by have := HLen.out; omega) rfl).mono ?_
  rintro e1 w1 ⟨rfl, hr, ho⟩
  have HX := Lib.hid (HW.out.call hr ho)
  clear hr ho HW
  have c := HX.out.box.f14
  have f := HX.out.box.free 14
  have HW := Lib.hid (HX.out.set 14 (.int .u64 (nm bs 14 8)) _ (set_da _ _))
  go_wp2_with (first
    | (refine wpList_load_row rfl 32 (.tmp 4) rfl W3.heap.size rfl 32 _ (0, 0) _ HW.out.box Try.underlying32 rfl (FR.fit _) ?_)
    | (refine wpList_store_row rfl 32 (.tmp 2) (.tmp 12) rfl (w.heap.size + 1) _ rfl rfl 32 fr0.cs HW.out.zer (FR.fit _) rfl (FR.one _) ?_))
  clear c f HX
  have HE := Lib.hid (RB.end_ HW.out)
  exact bodyPost_ret (v := .agg (dDF bs).cs) (results_cell_row rfl _ _ (w.heap.size + 1) 32 (dDF bs).cs (0, 0) _ rfl (setRow_heap _ _ _ _ _ HW.out.zer) Try.underlying32 rfl (FR.fit _)) rfl ⟨rfl, below_only (Below.refl _ w) HE.out.2 HG.out.2.2 (Nat.le_refl _)⟩

end Go.Proofs.Ytgdfpmnbofnjfaa

namespace Go.Proofs.Ytgdfpmnbofnjfaa
open Go.RowKit Go.Shelf
set_option linter.unusedVariables false
set_option linter.unusedSimpArgs false
set_option maxRecDepth 100000

theorem or_i64 (x y : Int) (hx0 : 0 ≤ x) (hx1 : x ≤ 255) (hy0 : 0 ≤ y) (hy1 : y ≤ 255) : bits BinOp.or .i64 (x * 256) y = x * 256 + y := by
  obtain ⟨m, rfl⟩ := Int.eq_ofNat_of_zero_le hx0
  obtain ⟨c, rfl⟩ := Int.eq_ofNat_of_zero_le hy0
  have e1 : BitVec.ofInt 64 ((m : Int) * 256) = BitVec.ofNat 64 (m * 256) := by apply BitVec.eq_of_toNat_eq; simp; omega
  have e2 : BitVec.ofInt 64 (c : Int) = BitVec.ofNat 64 c := by apply BitVec.eq_of_toNat_eq; simp
  have e3 : (BitVec.ofNat 64 (m * 256) ||| BitVec.ofNat 64 c).toNat = m * 256 + c := by
    rw [BitVec.toNat_or, BitVec.toNat_ofNat, BitVec.toNat_ofNat, Nat.mod_eq_of_lt (by omega), Nat.mod_eq_of_lt (by omega)]
    have := Nat.shiftLeft_add_eq_or_of_lt (i := 8) (b := c) (by omega) m
    rw [Nat.shiftLeft_eq] at this
    exact this.symm
  show IntKind.i64.wrap ((BitVec.ofInt 64 ((m : Int) * 256) ||| BitVec.ofInt 64 (c : Int)).toNat : Int) = _
  rw [e1, e2, e3]
  exact IntWalk.i64_in _ (by omega)
theorem nm_two {bs : List Int} {p : Nat} (h : p + 1 < bs.length) : nm bs p 2 = bs[p] * 256 + bs[p + 1] := by
  unfold nm
  rw [List.drop_eq_getElem_cons (by omega : p < bs.length), List.drop_eq_getElem_cons (by omega : p + 1 < bs.length)]
  simp only [List.take_succ_cons, List.take_zero, num, List.foldl_cons, List.foldl_nil]
  omega
theorem nm_one {bs : List Int} {p : Nat} (h : p < bs.length) : nm bs p 1 = bs[p] := by
  unfold nm
  rw [List.drop_eq_getElem_cons h]
  simp only [List.take_succ_cons, List.take_zero, num, List.foldl_cons, List.foldl_nil]
  omega
theorem below_drewN (w : World) (n : Nat) : Below w.heap.size w (w.drewN n) := ⟨rfl, rfl, rfl, Nat.le_refl _, fun _ _ => rfl⟩

/-- The type that the bytes say. -/
def cod (bs : List Int) : Int := nm bs 12 2

theorem codeOf_any (v : Value) (bs : List Int) (w : World) (hA : Arr w v bs) (hl : 14 ≤ bs.length) (hby : ∀ v ∈ bs, 0 ≤ v ∧ v ≤ 255) :
    Calls Try.prog 78 #[v] w fun e w' => e = .returned (.int .i64 (cod bs)) ∧ Below w.heap.size w w' := by
  rcases hA with ⟨_, h⟩ | ⟨ad, c, rfl, h2⟩
  · rw [h] at hl; simp at hl
  obtain ⟨b, o, rfl, hs⟩ := h2.plain (by omega)
  have h12 := hs 12 (by omega)
  have h13 := hs 13 (by omega)
  obtain ⟨hx0, hx1⟩ := hby bs[12] (List.getElem_mem _)
  obtain ⟨hy0, hy1⟩ := hby bs[13] (List.getElem_mem _)
  have hc : cod bs = bs[12] * 256 + bs[13] := nm_two (p := 12) (by omega)
  obtain ⟨x, hx⟩ : ∃ x, bs[12] = x := ⟨_, rfl⟩
  obtain ⟨y, hy⟩ : ∃ y, bs[13] = y := ⟨_, rfl⟩
  rw [hx] at h12 hx0 hx1 hc
  rw [hy] at h13 hy0 hy1 hc
  have hor := or_i64 x y hx0 hx1 hy0 hy1
  rw [hc]
  obtain ⟨n, hn⟩ : ∃ n, bs.length = n := ⟨_, rfl⟩
  rw [hn] at hl ⊢
  have e1 : (12 : Int) < (n : Int) := by omega
  have e2 : (13 : Int) < (n : Int) := by omega
  clear hn hx hy hc h2 hs hby
  go_enter Try.func78, Try.ntmps78
  go_wp2
  go_quiet (fail)
  go_wp2
  go_ret
  exact ⟨rfl, below_drewN w _⟩

/-- The size that the bytes say, or why there is none. -/
def szP (bs : List Int) : Int × Int × Int :=
  if bs.length < 14 then (0, 4, bs.length) else if cod bs = 34997 then (22, 0, 0) else if cod bs = 2054 then (50, 0, 0)
  else if cod bs = 2048 then (if bs.length < 34 then (0, 4, bs.length) else if pd (nm bs 23 1) then (50, 0, 0) else (42, 0, 0)) else (0, 6, 12)

theorem size_results {W : World} {B : Nat} {z er i : Int} (tmps : Array Value) (h2 : tmps[2]?.getD undef = .int .i64 z) (h3 : tmps[3]?.getD undef = .pointer (some ⟨B, 0, none⟩)) (q : Has W B 37 #[.int .i64 er, .int .i64 i]) :
    (results Try.f66 tmps).run Try.prog W = .ok (.tuple #[.int .i64 z, .agg #[.int .i64 er, .int .i64 i]]) W := by
  have c30 : W.cell? ⟨B, 0, none⟩ = some (.int .i64 er) := q.cell 0
  have c31 : W.cell? ⟨B, 1, none⟩ = some (.int .i64 i) := q.cell 1
  simp [results, Try.f66, go_sem, h2, h3, c30, c31]

theorem size_short (v : Value) (bs : List Int) (w : World) (hA : Arr w v bs) (hl : bs.length < 14) :
    Calls Try.prog 66 #[v] w fun e w' => e = .returned (.tuple #[.int .i64 0, .agg #[.int .i64 4, .int .i64 bs.length]]) ∧ Below w.heap.size w w' := by
  obtain ⟨A, c, rfl⟩ := hA.form
  obtain ⟨n, hn⟩ : ∃ n, bs.length = n := ⟨_, rfl⟩
  rw [hn] at hl ⊢
  have e1 : (n : Int) < 14 := by omega
  clear hn hA
  have HQ : Hid (Has ((w.alloc (.cells #[.int .i64 4, .int .i64 n] 37)).alloc (.cells #[.int .i64 4, .int .i64 n] 37)).drew w.heap.size 37 #[.int .i64 4, .int .i64 n]) := Lib.hid ((Has.new w _ _).below ((Below.refl _ _).alloc (Nat.le_refl _) _).drew)
  have HB : Hid (Below w.heap.size w ((w.alloc (.cells #[.int .i64 4, .int .i64 n] 37)).alloc (.cells #[.int .i64 4, .int .i64 n] 37)).drew) := Lib.hid (((Below.refl _ w).alloc (Nat.le_refl _) _).alloc (by simp) _).drew
  go_enter Try.func66, Try.ntmps66
  go_wp2
  go_region
  go_wp2
  exact bodyPost_ret (v := .tuple #[.int .i64 0, .agg #[.int .i64 4, .int .i64 n]]) (size_results _ rfl rfl HQ.out) rfl ⟨rfl, HB.out⟩

set_option maxHeartbeats 1000000 in
theorem size_data (v : Value) (bs : List Int) (w : World) (hA : Arr w v bs) (hl : 14 ≤ bs.length) (hby : ∀ v ∈ bs, 0 ≤ v ∧ v ≤ 255) (hk : cod bs = 34997) :
    Calls Try.prog 66 #[v] w fun e w' => e = .returned (.tuple #[.int .i64 22, .agg #[.int .i64 0, .int .i64 0]]) ∧ Below w.heap.size w w' := by
  rcases hA with ⟨_, h⟩ | ⟨ad, c, rfl, h2⟩
  · rw [h] at hl; simp at hl
  obtain ⟨b, o, rfl, hs⟩ := h2.plain (by omega)
  have hA : Arr w (.slice (some ⟨b, o, none⟩) bs.length c) bs := .inr ⟨_, c, rfl, h2⟩
  have HS := Lib.hid hs
  have HLt := Lib.hid (cell_block (hs 0 (by omega)))
  obtain ⟨n, hn⟩ : ∃ n, bs.length = n := ⟨_, rfl⟩
  obtain ⟨k, hkk⟩ : ∃ k, cod bs = k := ⟨_, rfl⟩
  have HC : Hid (∀ W, Below w.heap.size w W → Calls Try.prog 78 #[.slice (some ⟨b, o, none⟩) n c] W fun e w' => e = .returned (.int .i64 k) ∧ Below W.heap.size W w') := Lib.hid (fun W hb => hkk ▸ hn ▸ codeOf_any _ bs W (hA.below hb) hl hby)
  rw [hkk] at hk
  rw [hn] at hl ⊢
  subst hk
  clear hn hkk hs h2 hA hby
  have HB0 : Hid (Below w.heap.size w ((w.alloc (.cells #[.int .i64 0, .int .i64 0] 37)).alloc (.cells #[.int .i64 4, .int .i64 n] 37))) := Lib.hid (((Below.refl _ w).alloc (Nat.le_refl _) _).alloc (by simp) _)
  have HQ0 : Hid (Has ((w.alloc (.cells #[.int .i64 0, .int .i64 0] 37)).alloc (.cells #[.int .i64 4, .int .i64 n] 37)) w.heap.size 37 #[.int .i64 0, .int .i64 0]) := Lib.hid ((Has.new w _ _).below ((Below.refl _ _).alloc (Nat.le_refl _) _))
  have HR0 : Hid (Has ((w.alloc (.cells #[.int .i64 0, .int .i64 0] 37)).alloc (.cells #[.int .i64 4, .int .i64 n] 37)) (w.heap.size + 1) 37 #[.int .i64 4, .int .i64 n]) := Lib.hid (by
    have h1 := Has.new (w.alloc (.cells #[.int .i64 0, .int .i64 0] 37)) 37 #[.int .i64 4, .int .i64 n]
    rw [World.size_alloc] at h1
    exact h1)
  go_enter Try.func66, Try.ntmps66
  go_wp2_with fail
  refine (HC.out _ HB0.out).mono ?_
  rintro e w1 ⟨rfl, hb⟩
  have HQ1 := Lib.hid (HQ0.out.below hb)
  have HR1 := Lib.hid (HR0.out.below hb)
  have HB1 := Lib.hid (HB0.out.trans (hb.mono HB0.out.size))
  have q0 := HQ1.out.cell 0
  have q1 := HQ1.out.cell 1
  have f0 := HQ1.out.free 0
  have f1 := HQ1.out.free 1
  have r0 := HR1.out.cell 0
  have r1 := HR1.out.cell 1
  simp only [List.getElem?_toArray, List.getElem?_cons_zero, List.getElem?_cons_succ] at q0 q1 r0 r1
  clear hb HQ0 HR0 HB0
  go_wp2_with fail
  exact bodyPost_ret (v := .tuple #[.int .i64 22, .agg #[.int .i64 0, .int .i64 0]]) (size_results _ rfl rfl ((HQ1.out.set_ 0 (.int .i64 0)).set_ 1 (.int .i64 0))) rfl ⟨rfl, (HB1.out.setCell (p := ⟨w.heap.size, 0, none⟩) (Nat.le_refl _) _).setCell (p := ⟨w.heap.size, 1, none⟩) (Nat.le_refl _) _⟩

set_option maxHeartbeats 1000000 in
theorem size_arp (v : Value) (bs : List Int) (w : World) (hA : Arr w v bs) (hl : 14 ≤ bs.length) (hby : ∀ v ∈ bs, 0 ≤ v ∧ v ≤ 255) (hk : cod bs = 2054) :
    Calls Try.prog 66 #[v] w fun e w' => e = .returned (.tuple #[.int .i64 50, .agg #[.int .i64 0, .int .i64 0]]) ∧ Below w.heap.size w w' := by
  rcases hA with ⟨_, h⟩ | ⟨ad, c, rfl, h2⟩
  · rw [h] at hl; simp at hl
  obtain ⟨b, o, rfl, hs⟩ := h2.plain (by omega)
  have hA : Arr w (.slice (some ⟨b, o, none⟩) bs.length c) bs := .inr ⟨_, c, rfl, h2⟩
  have HS := Lib.hid hs
  have HLt := Lib.hid (cell_block (hs 0 (by omega)))
  obtain ⟨n, hn⟩ : ∃ n, bs.length = n := ⟨_, rfl⟩
  obtain ⟨k, hkk⟩ : ∃ k, cod bs = k := ⟨_, rfl⟩
  have HC : Hid (∀ W, Below w.heap.size w W → Calls Try.prog 78 #[.slice (some ⟨b, o, none⟩) n c] W fun e w' => e = .returned (.int .i64 k) ∧ Below W.heap.size W w') := Lib.hid (fun W hb => hkk ▸ hn ▸ codeOf_any _ bs W (hA.below hb) hl hby)
  rw [hkk] at hk
  rw [hn] at hl ⊢
  subst hk
  clear hn hkk hs h2 hA hby
  have HB0 : Hid (Below w.heap.size w ((w.alloc (.cells #[.int .i64 0, .int .i64 0] 37)).alloc (.cells #[.int .i64 4, .int .i64 n] 37))) := Lib.hid (((Below.refl _ w).alloc (Nat.le_refl _) _).alloc (by simp) _)
  have HQ0 : Hid (Has ((w.alloc (.cells #[.int .i64 0, .int .i64 0] 37)).alloc (.cells #[.int .i64 4, .int .i64 n] 37)) w.heap.size 37 #[.int .i64 0, .int .i64 0]) := Lib.hid ((Has.new w _ _).below ((Below.refl _ _).alloc (Nat.le_refl _) _))
  have HR0 : Hid (Has ((w.alloc (.cells #[.int .i64 0, .int .i64 0] 37)).alloc (.cells #[.int .i64 4, .int .i64 n] 37)) (w.heap.size + 1) 37 #[.int .i64 4, .int .i64 n]) := Lib.hid (by
    have h1 := Has.new (w.alloc (.cells #[.int .i64 0, .int .i64 0] 37)) 37 #[.int .i64 4, .int .i64 n]
    rw [World.size_alloc] at h1
    exact h1)
  go_enter Try.func66, Try.ntmps66
  go_wp2_with fail
  refine (HC.out _ HB0.out).mono ?_
  rintro e w1 ⟨rfl, hb⟩
  have HQ1 := Lib.hid (HQ0.out.below hb)
  have HR1 := Lib.hid (HR0.out.below hb)
  have HB1 := Lib.hid (HB0.out.trans (hb.mono HB0.out.size))
  have q0 := HQ1.out.cell 0
  have q1 := HQ1.out.cell 1
  have f0 := HQ1.out.free 0
  have f1 := HQ1.out.free 1
  have r0 := HR1.out.cell 0
  have r1 := HR1.out.cell 1
  simp only [List.getElem?_toArray, List.getElem?_cons_zero, List.getElem?_cons_succ] at q0 q1 r0 r1
  clear hb HQ0 HR0 HB0
  go_wp2_with fail
  exact bodyPost_ret (v := .tuple #[.int .i64 50, .agg #[.int .i64 0, .int .i64 0]]) (size_results _ rfl rfl ((HQ1.out.set_ 0 (.int .i64 0)).set_ 1 (.int .i64 0))) rfl ⟨rfl, (HB1.out.setCell (p := ⟨w.heap.size, 0, none⟩) (Nat.le_refl _) _).setCell (p := ⟨w.heap.size, 1, none⟩) (Nat.le_refl _) _⟩

set_option maxHeartbeats 1000000 in
theorem size_ips (v : Value) (bs : List Int) (w : World) (hA : Arr w v bs) (hl : 14 ≤ bs.length) (hby : ∀ v ∈ bs, 0 ≤ v ∧ v ≤ 255) (hk : cod bs = 2048) (hm : bs.length < 34) :
    Calls Try.prog 66 #[v] w fun e w' => e = .returned (.tuple #[.int .i64 0, .agg #[.int .i64 4, .int .i64 bs.length]]) ∧ Below w.heap.size w w' := by
  rcases hA with ⟨_, h⟩ | ⟨ad, c, rfl, h2⟩
  · rw [h] at hl; simp at hl
  obtain ⟨b, o, rfl, hs⟩ := h2.plain (by omega)
  have hA : Arr w (.slice (some ⟨b, o, none⟩) bs.length c) bs := .inr ⟨_, c, rfl, h2⟩
  have HS := Lib.hid hs
  have HLt := Lib.hid (cell_block (hs 0 (by omega)))
  obtain ⟨n, hn⟩ : ∃ n, bs.length = n := ⟨_, rfl⟩
  obtain ⟨k, hkk⟩ : ∃ k, cod bs = k := ⟨_, rfl⟩
  have HC : Hid (∀ W, Below w.heap.size w W → Calls Try.prog 78 #[.slice (some ⟨b, o, none⟩) n c] W fun e w' => e = .returned (.int .i64 k) ∧ Below W.heap.size W w') := Lib.hid (fun W hb => hkk ▸ hn ▸ codeOf_any _ bs W (hA.below hb) hl hby)
  rw [hkk] at hk
  rw [hn] at hl hm ⊢
  subst hk
  clear hn hkk hs h2 hA hby
  have HB0 : Hid (Below w.heap.size w ((w.alloc (.cells #[.int .i64 0, .int .i64 0] 37)).alloc (.cells #[.int .i64 4, .int .i64 n] 37))) := Lib.hid (((Below.refl _ w).alloc (Nat.le_refl _) _).alloc (by simp) _)
  have HQ0 : Hid (Has ((w.alloc (.cells #[.int .i64 0, .int .i64 0] 37)).alloc (.cells #[.int .i64 4, .int .i64 n] 37)) w.heap.size 37 #[.int .i64 0, .int .i64 0]) := Lib.hid ((Has.new w _ _).below ((Below.refl _ _).alloc (Nat.le_refl _) _))
  have HR0 : Hid (Has ((w.alloc (.cells #[.int .i64 0, .int .i64 0] 37)).alloc (.cells #[.int .i64 4, .int .i64 n] 37)) (w.heap.size + 1) 37 #[.int .i64 4, .int .i64 n]) := Lib.hid (by
    have h1 := Has.new (w.alloc (.cells #[.int .i64 0, .int .i64 0] 37)) 37 #[.int .i64 4, .int .i64 n]
    rw [World.size_alloc] at h1
    exact h1)
  go_enter Try.func66, Try.ntmps66
  go_wp2_with fail
  refine (HC.out _ HB0.out).mono ?_
  rintro e w1 ⟨rfl, hb⟩
  have HQ1 := Lib.hid (HQ0.out.below hb)
  have HR1 := Lib.hid (HR0.out.below hb)
  have HB1 := Lib.hid (HB0.out.trans (hb.mono HB0.out.size))
  have q0 := HQ1.out.cell 0
  have q1 := HQ1.out.cell 1
  have f0 := HQ1.out.free 0
  have f1 := HQ1.out.free 1
  have r0 := HR1.out.cell 0
  have r1 := HR1.out.cell 1
  simp only [List.getElem?_toArray, List.getElem?_cons_zero, List.getElem?_cons_succ] at q0 q1 r0 r1
  clear hb HQ0 HR0 HB0
  go_wp2_with fail
  go_region
  go_wp2_with fail
  exact bodyPost_ret (v := .tuple #[.int .i64 0, .agg #[.int .i64 4, .int .i64 n]]) (size_results _ rfl rfl ((HQ1.out.set_ 0 (.int .i64 4)).set_ 1 (.int .i64 n))) rfl ⟨rfl, ((HB1.out.setCell (p := ⟨w.heap.size, 0, none⟩) (Nat.le_refl _) _).setCell (p := ⟨w.heap.size, 1, none⟩) (Nat.le_refl _) _).drew⟩

set_option maxHeartbeats 1000000 in
theorem size_ipt (v : Value) (bs : List Int) (w : World) (hA : Arr w v bs) (hl : 14 ≤ bs.length) (hby : ∀ v ∈ bs, 0 ≤ v ∧ v ≤ 255) (hk : cod bs = 2048) (hm : 34 ≤ bs.length) (hp : pd (nm bs 23 1) = true) :
    Calls Try.prog 66 #[v] w fun e w' => e = .returned (.tuple #[.int .i64 50, .agg #[.int .i64 0, .int .i64 0]]) ∧ Below w.heap.size w w' := by
  rcases hA with ⟨_, h⟩ | ⟨ad, c, rfl, h2⟩
  · rw [h] at hl; simp at hl
  obtain ⟨b, o, rfl, hs⟩ := h2.plain (by omega)
  have hA : Arr w (.slice (some ⟨b, o, none⟩) bs.length c) bs := .inr ⟨_, c, rfl, h2⟩
  have HS := Lib.hid hs
  have HLt := Lib.hid (cell_block (hs 0 (by omega)))
  obtain ⟨n, hn⟩ : ∃ n, bs.length = n := ⟨_, rfl⟩
  obtain ⟨k, hkk⟩ : ∃ k, cod bs = k := ⟨_, rfl⟩
  have HC : Hid (∀ W, Below w.heap.size w W → Calls Try.prog 78 #[.slice (some ⟨b, o, none⟩) n c] W fun e w' => e = .returned (.int .i64 k) ∧ Below W.heap.size W w') := Lib.hid (fun W hb => hkk ▸ hn ▸ codeOf_any _ bs W (hA.below hb) hl hby)
  have hby23 := hby bs[23] (List.getElem_mem _)
  have h23 := hs 23 (by omega)
  have hp1 : pd bs[23] = true := by rw [← nm_one (by omega)]; exact hp
  obtain ⟨y, hy⟩ : ∃ y, bs[23] = y := ⟨_, rfl⟩
  rw [hy] at h23 hp1 hby23
  obtain ⟨hy0, hy1⟩ := hby23
  have HP := Lib.hid hp1
  have H23 := Lib.hid h23
  clear h23 hp1 hy hp
  rw [hkk] at hk
  rw [hn] at hl hm ⊢
  subst hk
  clear hn hkk hs h2 hA hby
  have HB0 : Hid (Below w.heap.size w ((w.alloc (.cells #[.int .i64 0, .int .i64 0] 37)).alloc (.cells #[.int .i64 4, .int .i64 n] 37))) := Lib.hid (((Below.refl _ w).alloc (Nat.le_refl _) _).alloc (by simp) _)
  have HQ0 : Hid (Has ((w.alloc (.cells #[.int .i64 0, .int .i64 0] 37)).alloc (.cells #[.int .i64 4, .int .i64 n] 37)) w.heap.size 37 #[.int .i64 0, .int .i64 0]) := Lib.hid ((Has.new w _ _).below ((Below.refl _ _).alloc (Nat.le_refl _) _))
  have HR0 : Hid (Has ((w.alloc (.cells #[.int .i64 0, .int .i64 0] 37)).alloc (.cells #[.int .i64 4, .int .i64 n] 37)) (w.heap.size + 1) 37 #[.int .i64 4, .int .i64 n]) := Lib.hid (by
    have h1 := Has.new (w.alloc (.cells #[.int .i64 0, .int .i64 0] 37)) 37 #[.int .i64 4, .int .i64 n]
    rw [World.size_alloc] at h1
    exact h1)
  go_enter Try.func66, Try.ntmps66
  go_wp2_with fail
  refine (HC.out _ HB0.out).mono ?_
  rintro e w1 ⟨rfl, hb⟩
  have HQ1 := Lib.hid (HQ0.out.below hb)
  have HR1 := Lib.hid (HR0.out.below hb)
  have HB1 := Lib.hid (HB0.out.trans (hb.mono HB0.out.size))
  have q0 := HQ1.out.cell 0
  have q1 := HQ1.out.cell 1
  have f0 := HQ1.out.free 0
  have f1 := HQ1.out.free 1
  have r0 := HR1.out.cell 0
  have r1 := HR1.out.cell 1
  simp only [List.getElem?_toArray, List.getElem?_cons_zero, List.getElem?_cons_succ] at q0 q1 r0 r1
  clear hb HQ0 HR0 HB0
  have h23 := (HB1.out.cell (p := ⟨b, o + 23, none⟩) HLt.out).trans H23.out
  go_wp2_with (first | (go_at_call 79; refine (ported_any _ _).mono ?_; rintro e w9 ⟨rfl, rfl⟩; rw [HP.out]))
  exact bodyPost_ret (v := .tuple #[.int .i64 50, .agg #[.int .i64 0, .int .i64 0]]) (size_results _ rfl rfl ((HQ1.out.set_ 0 (.int .i64 0)).set_ 1 (.int .i64 0))) rfl ⟨rfl, (HB1.out.setCell (p := ⟨w.heap.size, 0, none⟩) (Nat.le_refl _) _).setCell (p := ⟨w.heap.size, 1, none⟩) (Nat.le_refl _) _⟩

set_option maxHeartbeats 1000000 in
theorem size_ipf (v : Value) (bs : List Int) (w : World) (hA : Arr w v bs) (hl : 14 ≤ bs.length) (hby : ∀ v ∈ bs, 0 ≤ v ∧ v ≤ 255) (hk : cod bs = 2048) (hm : 34 ≤ bs.length) (hp : pd (nm bs 23 1) = false) :
    Calls Try.prog 66 #[v] w fun e w' => e = .returned (.tuple #[.int .i64 42, .agg #[.int .i64 0, .int .i64 0]]) ∧ Below w.heap.size w w' := by
  rcases hA with ⟨_, h⟩ | ⟨ad, c, rfl, h2⟩
  · rw [h] at hl; simp at hl
  obtain ⟨b, o, rfl, hs⟩ := h2.plain (by omega)
  have hA : Arr w (.slice (some ⟨b, o, none⟩) bs.length c) bs := .inr ⟨_, c, rfl, h2⟩
  have HS := Lib.hid hs
  have HLt := Lib.hid (cell_block (hs 0 (by omega)))
  obtain ⟨n, hn⟩ : ∃ n, bs.length = n := ⟨_, rfl⟩
  obtain ⟨k, hkk⟩ : ∃ k, cod bs = k := ⟨_, rfl⟩
  have HC : Hid (∀ W, Below w.heap.size w W → Calls Try.prog 78 #[.slice (some ⟨b, o, none⟩) n c] W fun e w' => e = .returned (.int .i64 k) ∧ Below W.heap.size W w') := Lib.hid (fun W hb => hkk ▸ hn ▸ codeOf_any _ bs W (hA.below hb) hl hby)
  have hby23 := hby bs[23] (List.getElem_mem _)
  have h23 := hs 23 (by omega)
  have hp1 : pd bs[23] = false := by rw [← nm_one (by omega)]; exact hp
  obtain ⟨y, hy⟩ : ∃ y, bs[23] = y := ⟨_, rfl⟩
  rw [hy] at h23 hp1 hby23
  obtain ⟨hy0, hy1⟩ := hby23
  have HP := Lib.hid hp1
  have H23 := Lib.hid h23
  clear h23 hp1 hy hp
  rw [hkk] at hk
  rw [hn] at hl hm ⊢
  subst hk
  clear hn hkk hs h2 hA hby
  have HB0 : Hid (Below w.heap.size w ((w.alloc (.cells #[.int .i64 0, .int .i64 0] 37)).alloc (.cells #[.int .i64 4, .int .i64 n] 37))) := Lib.hid (((Below.refl _ w).alloc (Nat.le_refl _) _).alloc (by simp) _)
  have HQ0 : Hid (Has ((w.alloc (.cells #[.int .i64 0, .int .i64 0] 37)).alloc (.cells #[.int .i64 4, .int .i64 n] 37)) w.heap.size 37 #[.int .i64 0, .int .i64 0]) := Lib.hid ((Has.new w _ _).below ((Below.refl _ _).alloc (Nat.le_refl _) _))
  have HR0 : Hid (Has ((w.alloc (.cells #[.int .i64 0, .int .i64 0] 37)).alloc (.cells #[.int .i64 4, .int .i64 n] 37)) (w.heap.size + 1) 37 #[.int .i64 4, .int .i64 n]) := Lib.hid (by
    have h1 := Has.new (w.alloc (.cells #[.int .i64 0, .int .i64 0] 37)) 37 #[.int .i64 4, .int .i64 n]
    rw [World.size_alloc] at h1
    exact h1)
  go_enter Try.func66, Try.ntmps66
  go_wp2_with fail
  refine (HC.out _ HB0.out).mono ?_
  rintro e w1 ⟨rfl, hb⟩
  have HQ1 := Lib.hid (HQ0.out.below hb)
  have HR1 := Lib.hid (HR0.out.below hb)
  have HB1 := Lib.hid (HB0.out.trans (hb.mono HB0.out.size))
  have q0 := HQ1.out.cell 0
  have q1 := HQ1.out.cell 1
  have f0 := HQ1.out.free 0
  have f1 := HQ1.out.free 1
  have r0 := HR1.out.cell 0
  have r1 := HR1.out.cell 1
  simp only [List.getElem?_toArray, List.getElem?_cons_zero, List.getElem?_cons_succ] at q0 q1 r0 r1
  clear hb HQ0 HR0 HB0
  have h23 := (HB1.out.cell (p := ⟨b, o + 23, none⟩) HLt.out).trans H23.out
  go_wp2_with (first | (go_at_call 79; refine (ported_any _ _).mono ?_; rintro e w9 ⟨rfl, rfl⟩; rw [HP.out]))
  exact bodyPost_ret (v := .tuple #[.int .i64 42, .agg #[.int .i64 0, .int .i64 0]]) (size_results _ rfl rfl ((HQ1.out.set_ 0 (.int .i64 0)).set_ 1 (.int .i64 0))) rfl ⟨rfl, (HB1.out.setCell (p := ⟨w.heap.size, 0, none⟩) (Nat.le_refl _) _).setCell (p := ⟨w.heap.size, 1, none⟩) (Nat.le_refl _) _⟩

set_option maxHeartbeats 1000000 in
theorem size_none (v : Value) (bs : List Int) (w : World) (hA : Arr w v bs) (hl : 14 ≤ bs.length) (hby : ∀ v ∈ bs, 0 ≤ v ∧ v ≤ 255) (hk : cod bs ≠ 34997 ∧ cod bs ≠ 2054 ∧ cod bs ≠ 2048) :
    Calls Try.prog 66 #[v] w fun e w' => e = .returned (.tuple #[.int .i64 0, .agg #[.int .i64 6, .int .i64 12]]) ∧ Below w.heap.size w w' := by
  rcases hA with ⟨_, h⟩ | ⟨ad, c, rfl, h2⟩
  · rw [h] at hl; simp at hl
  obtain ⟨b, o, rfl, hs⟩ := h2.plain (by omega)
  have hA : Arr w (.slice (some ⟨b, o, none⟩) bs.length c) bs := .inr ⟨_, c, rfl, h2⟩
  have HS := Lib.hid hs
  have HLt := Lib.hid (cell_block (hs 0 (by omega)))
  obtain ⟨n, hn⟩ : ∃ n, bs.length = n := ⟨_, rfl⟩
  obtain ⟨k, hkk⟩ : ∃ k, cod bs = k := ⟨_, rfl⟩
  have HC : Hid (∀ W, Below w.heap.size w W → Calls Try.prog 78 #[.slice (some ⟨b, o, none⟩) n c] W fun e w' => e = .returned (.int .i64 k) ∧ Below W.heap.size W w') := Lib.hid (fun W hb => hkk ▸ hn ▸ codeOf_any _ bs W (hA.below hb) hl hby)
  rw [hkk] at hk
  rw [hn] at hl ⊢
  obtain ⟨k1, k2, k3⟩ := hk
  clear hn hkk hs h2 hA hby
  have HB0 : Hid (Below w.heap.size w ((w.alloc (.cells #[.int .i64 0, .int .i64 0] 37)).alloc (.cells #[.int .i64 4, .int .i64 n] 37))) := Lib.hid (((Below.refl _ w).alloc (Nat.le_refl _) _).alloc (by simp) _)
  have HQ0 : Hid (Has ((w.alloc (.cells #[.int .i64 0, .int .i64 0] 37)).alloc (.cells #[.int .i64 4, .int .i64 n] 37)) w.heap.size 37 #[.int .i64 0, .int .i64 0]) := Lib.hid ((Has.new w _ _).below ((Below.refl _ _).alloc (Nat.le_refl _) _))
  have HR0 : Hid (Has ((w.alloc (.cells #[.int .i64 0, .int .i64 0] 37)).alloc (.cells #[.int .i64 4, .int .i64 n] 37)) (w.heap.size + 1) 37 #[.int .i64 4, .int .i64 n]) := Lib.hid (by
    have h1 := Has.new (w.alloc (.cells #[.int .i64 0, .int .i64 0] 37)) 37 #[.int .i64 4, .int .i64 n]
    rw [World.size_alloc] at h1
    exact h1)
  go_enter Try.func66, Try.ntmps66
  go_wp2_with fail
  refine (HC.out _ HB0.out).mono ?_
  rintro e w1 ⟨rfl, hb⟩
  have HQ1 := Lib.hid (HQ0.out.below hb)
  have HR1 := Lib.hid (HR0.out.below hb)
  have HB1 := Lib.hid (HB0.out.trans (hb.mono HB0.out.size))
  have q0 := HQ1.out.cell 0
  have q1 := HQ1.out.cell 1
  have f0 := HQ1.out.free 0
  have f1 := HQ1.out.free 1
  have r0 := HR1.out.cell 0
  have r1 := HR1.out.cell 1
  simp only [List.getElem?_toArray, List.getElem?_cons_zero, List.getElem?_cons_succ] at q0 q1 r0 r1
  clear hb HQ0 HR0 HB0
  go_wp2_with fail
  exact bodyPost_ret (v := .tuple #[.int .i64 0, .agg #[.int .i64 6, .int .i64 12]]) (size_results _ rfl rfl ((HQ1.out.set_ 0 (.int .i64 6)).set_ 1 (.int .i64 12))) rfl ⟨rfl, (HB1.out.setCell (p := ⟨w.heap.size, 0, none⟩) (Nat.le_refl _) _).setCell (p := ⟨w.heap.size, 1, none⟩) (Nat.le_refl _) _⟩

theorem size_any (v : Value) (bs : List Int) (w : World) (hA : Arr w v bs) (hby : ∀ v ∈ bs, 0 ≤ v ∧ v ≤ 255) :
    Calls Try.prog 66 #[v] w fun e w' => e = .returned (.tuple #[.int .i64 (szP bs).1, .agg #[.int .i64 (szP bs).2.1, .int .i64 (szP bs).2.2]]) ∧ Below w.heap.size w w' := by
  unfold szP
  by_cases h1 : bs.length < 14
  · rw [if_pos h1]; exact size_short v bs w hA h1
  rw [if_neg h1]
  have hl : 14 ≤ bs.length := by omega
  by_cases h2 : cod bs = 34997
  · rw [if_pos h2]; exact size_data v bs w hA hl hby h2
  rw [if_neg h2]
  by_cases h3 : cod bs = 2054
  · rw [if_pos h3]; exact size_arp v bs w hA hl hby h3
  rw [if_neg h3]
  by_cases h4 : cod bs = 2048
  · rw [if_pos h4]
    by_cases h5 : bs.length < 34
    · rw [if_pos h5]; exact size_ips v bs w hA hl hby h4 h5
    rw [if_neg h5]
    cases hp : pd (nm bs 23 1)
    · exact size_ipf v bs w hA hl hby h4 (by omega) hp
    · exact size_ipt v bs w hA hl hby h4 (by omega) hp
  rw [if_neg h4]
  exact size_none v bs w hA hl hby ⟨h2, h3, h4⟩

end Go.Proofs.Ytgdfpmnbofnjfaa

namespace Go.Proofs.Ytgdfpmnbofnjfaa
open Go.RowKit Go.Shelf
set_option linter.unusedVariables false
set_option linter.unusedSimpArgs false
set_option maxRecDepth 100000

theorem ofnat_inj : ∀ (xs ys : List Int), (∀ v ∈ xs, 0 ≤ v ∧ v ≤ 255) → (∀ v ∈ ys, 0 ≤ v ∧ v ≤ 255) → (xs.map fun n => UInt8.ofNat n.toNat) = (ys.map fun n => UInt8.ofNat n.toNat) → xs = ys
  | [], [], _, _, _ => rfl
  | [], _ :: _, _, _, h => by simp at h
  | _ :: _, [], _, _, h => by simp at h
  | x :: xs, y :: ys, hx, hy, h => by
    rw [List.map_cons, List.map_cons] at h
    injection h with h1 h2
    have e : x = y := by
      have b1 := hx x (by simp)
      have b2 := hy y (by simp)
      have h3 := congrArg UInt8.toNat h1
      simp at h3
      omega
    rw [e, ofnat_inj xs ys (fun v hv => hx v (by simp [hv])) (fun v hv => hy v (by simp [hv])) h2]
theorem str_inj {xs ys : List Int} (hx : ∀ v ∈ xs, 0 ≤ v ∧ v ≤ 255) (hy : ∀ v ∈ ys, 0 ≤ v ∧ v ≤ 255) (h : strOfNums xs = strOfNums ys) : xs = ys :=
  ofnat_inj xs ys hx hy (by rw [← strOfNums_data, ← strOfNums_data, h])

theorem arr_string {w : World} {v : Value} {xs : List Int} (h : Arr w v xs) (hn : 0 < xs.length) : (convert 40 9 v).run Try.prog w = .ok (.string (strOfNums xs)) w := by
  rcases h with ⟨rfl, rfl⟩ | ⟨ad, c, rfl, hc⟩
  · simp at hn
  · obtain ⟨b, o, rfl, hs⟩ := hc.plain hn
    exact run_convert_bytes_arg w 40 5 Try.underlying40 Try.underlying5 b o xs.length c xs rfl (fun i hi => by
      rw [hs i hi]
      simp [List.getD, hi]) 9 Try.underlying9

theorem equal_any (v1 v2 : Value) (xs ys : List Int) (w : World) (h1 : Arr w v1 xs) (h2 : Arr w v2 ys) (n1 : 0 < xs.length) (n2 : 0 < ys.length) (hx : ∀ v ∈ xs, 0 ≤ v ∧ v ≤ 255) (hy : ∀ v ∈ ys, 0 ≤ v ∧ v ≤ 255) :
    Calls Try.prog 26 #[v1, v2] w fun e w' => e = .returned (.bool (decide (xs = ys))) ∧ w = w' := by
  have c1 := arr_string h1 n1
  have c2 := arr_string h2 n2
  have hb : ((strOfNums xs).toList == (strOfNums ys).toList) = decide (xs = ys) := by
    rw [ByteArray.toList_eq, ByteArray.toList_eq, strOfNums_data, strOfNums_data]
    by_cases h : xs = ys
    · rw [h]; simp
    · have h' : ¬ (xs.map fun n => UInt8.ofNat n.toNat) = (ys.map fun n => UInt8.ofNat n.toNat) := fun e => h (ofnat_inj xs ys hx hy e)
      rw [decide_eq_false h]
      exact beq_eq_false_iff_ne.2 h'
  obtain ⟨b, hbb⟩ : ∃ b, decide (xs = ys) = b := ⟨_, rfl⟩
  rw [hbb] at hb ⊢
  clear hbb
  obtain ⟨A1, k1, rfl⟩ := h1.form
  obtain ⟨A2, k2, rfl⟩ := h2.form
  clear h1 h2 hx hy n1 n2
  generalize strOfNums xs = s1 at *
  generalize strOfNums ys = s2 at *
  go_enter Try.func26, Try.ntmps26
  go_wp2
  go_ret
  exact ⟨rfl, rfl⟩

section
variable {P : Program} {ops : Array Oper} {o : Oper} {a : Act} {w : World} {K : Act → World → Prop} {Q : Exit → Act → World → Prop} {E : Prop}
theorem stepStoreRow (hgd : o.guard = none) (ty : TypeId) (x y : Operand) (ho : o.op = .store ty x y)
    (g : Nat) (cells : Array Value) (hx : a.eval x = .pointer (some ⟨g, 0, none⟩)) (hy : a.eval y = .agg cells)
    (t : TypeId) (old : Array Value) (hg : w.heap[g]? = some (.cells old t (0, 0))) (hi : (P.info? ty).map (·.size) = some cells.size)
    (hold : old.size = cells.size) (h1 : cells.all (·.oneCell') = true)
    (h : K (a.put o.dst undef) (w.setRow g cells)) : if Region.wanted o (yielded ops a.tmps) = true then Oper.wp P o a w K Q else E := by
  have hw : Region.wanted o (yielded ops a.tmps) = true := by simp [Region.wanted, hgd]
  rw [if_pos hw]
  exact wp_store_row ty x y ho g cells hx hy t old hg hi hold h1 h
end
theorem setRow_below {n g : Nat} {a w : World} {cs : Array Value} (h : Below n a w) (hg : n ≤ g) (hn : n ≤ w.heap.size) : Below n a (w.setRow g cs) := below_only h (Only.row _) hg hn
theorem fit50 : (Try.prog.info? 115).map (·.size) = some 50 := by kernel_rfl
theorem fit22 : (Try.prog.info? 117).map (·.size) = some 22 := by kernel_rfl
theorem arr50 (b o c : Nat) (w : World) : (Instr.arrayAt 115 (.slice (some ⟨b, o, none⟩) 50 c)).run Try.prog w = .ok (.pointer (some ⟨b, o, none⟩)) w := by kernel_rfl
theorem arr22 (b o c : Nat) (w : World) : (Instr.arrayAt 117 (.slice (some ⟨b, o, none⟩) 22 c)).run Try.prog w = .ok (.pointer (some ⟨b, o, none⟩)) w := by kernel_rfl
/-- The frame that the bytes say. -/
def dcP (bs : List Int) : FR := if cod bs = 2054 then dAF bs else if cod bs = 2048 then (if pd (nm bs 23 1) then dHtF bs else dHfF bs) else dDF bs

set_option maxHeartbeats 1000000 in
theorem dec_a (v : Value) (bs : List Int) (w : World) (hA : Arr w v bs) (hl : bs.length = 50) (hby : ∀ v ∈ bs, 0 ≤ v ∧ v ≤ 255) (hk : cod bs = 2054) :
    Calls Try.prog 67 #[v] w fun e w' => e = .returned (.agg (dcP bs).cs) ∧ Below w.heap.size w w' := by
  rcases hA with ⟨_, h⟩ | ⟨ad, c, rfl, h2⟩
  · rw [h] at hl; simp at hl
  obtain ⟨b, o, rfl, hs⟩ := h2.plain (by omega)
  have hA : Arr w (.slice (some ⟨b, o, none⟩) bs.length c) bs := .inr ⟨_, c, rfl, h2⟩
  have HS := Lib.hid hs
  have HLt := Lib.hid (cell_block (hs 0 (by omega)))
  have HC : Hid (∀ W, Below w.heap.size w W → Calls Try.prog 78 #[.slice (some ⟨b, o, none⟩) 50 c] W fun e w' => e = .returned (.int .i64 2054) ∧ Below W.heap.size W w') := Lib.hid (fun W hb => hk ▸ hl ▸ codeOf_any _ bs W (hA.below hb) (by omega) hby)
  have HD : Hid (∀ W, Calls Try.prog 80 #[.agg (u8s bs).toArray] W fun e w' => e = .returned (.agg (dAF bs).cs) ∧ Below W.heap.size W w') := Lib.hid (fun W => dA_any bs hl hby W)
  have HE : Hid (dAF bs = dcP bs) := Lib.hid (by unfold dcP; rw [if_pos hk])
  have HLen := Lib.hid hl
  rw [hl]
  clear hk hl hs h2 hA hby
  have HB0 : Hid (Below w.heap.size w (w.alloc (.cells #[.int .u64 0, .int .u64 0, .int .i64 0, .int .i64 0, .int .u64 0, .int .u32 0, .int .u64 0, .int .u32 0, .int .u32 0, .int .u32 0, .int .i64 0, .int .i64 0, .int .i64 0, .int .i64 0, .int .u64 0] 32))) := Lib.hid ((Below.refl _ w).alloc (Nat.le_refl _) _)
  have HZ0 : Hid (Has (w.alloc (.cells #[.int .u64 0, .int .u64 0, .int .i64 0, .int .i64 0, .int .u64 0, .int .u32 0, .int .u64 0, .int .u32 0, .int .u32 0, .int .u32 0, .int .i64 0, .int .i64 0, .int .i64 0, .int .i64 0, .int .u64 0] 32)) w.heap.size 32 fr0.cs) := Lib.hid (Has.new w _ _)
  go_enter Try.func67, Try.ntmps67
  go_wp2_with fail
  refine (HC.out _ HB0.out).mono ?_
  rintro e w1 ⟨rfl, hb⟩
  have HZ1 := Lib.hid (HZ0.out.below hb)
  have HB1 := Lib.hid (HB0.out.trans (hb.mono HB0.out.size))
  clear hb HZ0 HB0
  have HRg : Hid (w1.rangeAt b o (u8s bs)) := Lib.hid (fun j u hu => by
    have h9 := Sl.at_ (HS.out) j u hu
    rw [Addr.add_mid] at h9
    exact (HB1.out.cell (p := ⟨b, o + j, none⟩) HLt.out).trans h9)
  have HFt : Hid ((Try.prog.info? 115).map (·.size) = some (u8s bs).length) := Lib.hid (by rw [List.length_map, HLen.out]; exact fit50)
  have harr := arr50 b o c
  go_wp2_with (refine wpList_load_mid rfl 115 (.tmp 8) rfl b o rfl (u8s bs) _ HRg.out Try.underlying115 rfl HFt.out ?_)
  refine (HD.out _).mono ?_
  rintro e w2 ⟨rfl, hb⟩
  have HZ2 := Lib.hid (HZ1.out.below hb)
  have HB2 := Lib.hid (HB1.out.trans (hb.mono HB1.out.size))
  rw [HE.out]
  obtain ⟨x, hx⟩ : ∃ x, dcP bs = x := ⟨_, rfl⟩
  rw [hx]
  have HX := Lib.hid hx
  clear hb HZ1 HB1 hx
  go_wp2_with (refine wpList_store_row rfl 32 (.tmp 2) (.tmp 10) rfl w.heap.size x.cs rfl rfl 32 fr0.cs HZ2.out x.fit rfl x.one ?_)
  exact bodyPost_ret (v := .agg x.cs) (results_cell_row rfl _ _ w.heap.size 32 x.cs (0, 0) _ rfl (setRow_heap _ _ _ _ _ HZ2.out) Try.underlying32 rfl x.fit) rfl ⟨by rw [HX.out], setRow_below HB2.out (Nat.le_refl _) HB2.out.size⟩

set_option maxHeartbeats 1000000 in
theorem dec_d (v : Value) (bs : List Int) (w : World) (hA : Arr w v bs) (hl : bs.length = 22) (hby : ∀ v ∈ bs, 0 ≤ v ∧ v ≤ 255) (hk : cod bs = 34997) :
    Calls Try.prog 67 #[v] w fun e w' => e = .returned (.agg (dcP bs).cs) ∧ Below w.heap.size w w' := by
  rcases hA with ⟨_, h⟩ | ⟨ad, c, rfl, h2⟩
  · rw [h] at hl; simp at hl
  obtain ⟨b, o, rfl, hs⟩ := h2.plain (by omega)
  have hA : Arr w (.slice (some ⟨b, o, none⟩) bs.length c) bs := .inr ⟨_, c, rfl, h2⟩
  have HS := Lib.hid hs
  have HLt := Lib.hid (cell_block (hs 0 (by omega)))
  have HC : Hid (∀ W, Below w.heap.size w W → Calls Try.prog 78 #[.slice (some ⟨b, o, none⟩) 22 c] W fun e w' => e = .returned (.int .i64 34997) ∧ Below W.heap.size W w') := Lib.hid (fun W hb => hk ▸ hl ▸ codeOf_any _ bs W (hA.below hb) (by omega) hby)
  have HD : Hid (∀ W, Calls Try.prog 82 #[.agg (u8s bs).toArray] W fun e w' => e = .returned (.agg (dDF bs).cs) ∧ Below W.heap.size W w') := Lib.hid (fun W => dD_any bs hl hby W)
  have HE : Hid (dDF bs = dcP bs) := Lib.hid (by unfold dcP; rw [if_neg (by omega), if_neg (by omega)])
  have HLen := Lib.hid hl
  rw [hl]
  clear hk hl hs h2 hA hby
  have HB0 : Hid (Below w.heap.size w (w.alloc (.cells #[.int .u64 0, .int .u64 0, .int .i64 0, .int .i64 0, .int .u64 0, .int .u32 0, .int .u64 0, .int .u32 0, .int .u32 0, .int .u32 0, .int .i64 0, .int .i64 0, .int .i64 0, .int .i64 0, .int .u64 0] 32))) := Lib.hid ((Below.refl _ w).alloc (Nat.le_refl _) _)
  have HZ0 : Hid (Has (w.alloc (.cells #[.int .u64 0, .int .u64 0, .int .i64 0, .int .i64 0, .int .u64 0, .int .u32 0, .int .u64 0, .int .u32 0, .int .u32 0, .int .u32 0, .int .i64 0, .int .i64 0, .int .i64 0, .int .i64 0, .int .u64 0] 32)) w.heap.size 32 fr0.cs) := Lib.hid (Has.new w _ _)
  go_enter Try.func67, Try.ntmps67
  go_wp2_with fail
  refine (HC.out _ HB0.out).mono ?_
  rintro e w1 ⟨rfl, hb⟩
  have HZ1 := Lib.hid (HZ0.out.below hb)
  have HB1 := Lib.hid (HB0.out.trans (hb.mono HB0.out.size))
  clear hb HZ0 HB0
  have HRg : Hid (w1.rangeAt b o (u8s bs)) := Lib.hid (fun j u hu => by
    have h9 := Sl.at_ (HS.out) j u hu
    rw [Addr.add_mid] at h9
    exact (HB1.out.cell (p := ⟨b, o + j, none⟩) HLt.out).trans h9)
  have HFt : Hid ((Try.prog.info? 117).map (·.size) = some (u8s bs).length) := Lib.hid (by rw [List.length_map, HLen.out]; exact fit22)
  have harr := arr22 b o c
  go_wp2_with (refine wpList_load_mid rfl 117 (.tmp 16) rfl b o rfl (u8s bs) _ HRg.out Try.underlying117 rfl HFt.out ?_)
  refine (HD.out _).mono ?_
  rintro e w2 ⟨rfl, hb⟩
  have HZ2 := Lib.hid (HZ1.out.below hb)
  have HB2 := Lib.hid (HB1.out.trans (hb.mono HB1.out.size))
  rw [HE.out]
  obtain ⟨x, hx⟩ : ∃ x, dcP bs = x := ⟨_, rfl⟩
  rw [hx]
  have HX := Lib.hid hx
  clear hb HZ1 HB1 hx
  go_wp2_with (refine wpList_store_row rfl 32 (.tmp 2) (.tmp 18) rfl w.heap.size x.cs rfl rfl 32 fr0.cs HZ2.out x.fit rfl x.one ?_)
  exact bodyPost_ret (v := .agg x.cs) (results_cell_row rfl _ _ w.heap.size 32 x.cs (0, 0) _ rfl (setRow_heap _ _ _ _ _ HZ2.out) Try.underlying32 rfl x.fit) rfl ⟨by rw [HX.out], setRow_below HB2.out (Nat.le_refl _) HB2.out.size⟩

set_option maxHeartbeats 1000000 in
theorem dec_ht (v : Value) (bs : List Int) (w : World) (hA : Arr w v bs) (hl : bs.length = 50) (hby : ∀ v ∈ bs, 0 ≤ v ∧ v ≤ 255) (hk : cod bs = 2048) (hp : pd (nm bs 23 1) = true) :
    Calls Try.prog 67 #[v] w fun e w' => e = .returned (.agg (dcP bs).cs) ∧ Below w.heap.size w w' := by
  rcases hA with ⟨_, h⟩ | ⟨ad, c, rfl, h2⟩
  · rw [h] at hl; simp at hl
  obtain ⟨b, o, rfl, hs⟩ := h2.plain (by omega)
  have hA : Arr w (.slice (some ⟨b, o, none⟩) bs.length c) bs := .inr ⟨_, c, rfl, h2⟩
  have HS := Lib.hid hs
  have HLt := Lib.hid (cell_block (hs 0 (by omega)))
  have HC : Hid (∀ W, Below w.heap.size w W → Calls Try.prog 78 #[.slice (some ⟨b, o, none⟩) 50 c] W fun e w' => e = .returned (.int .i64 2048) ∧ Below W.heap.size W w') := Lib.hid (fun W hb => hk ▸ hl ▸ codeOf_any _ bs W (hA.below hb) (by omega) hby)
  have HD : Hid (∀ W, Below w.heap.size w W → Calls Try.prog 81 #[.slice (some ⟨b, o, none⟩) 50 c] W fun e w' => e = .returned (.agg (dHtF bs).cs) ∧ Below W.heap.size W w') := Lib.hid (fun W hb => hl ▸ dHt_any _ bs W (hA.below hb) hl hby hp)
  have HE : Hid (dHtF bs = dcP bs) := Lib.hid (by unfold dcP; rw [if_neg (by omega), if_pos hk, if_pos hp])
  have HLen := Lib.hid hl
  rw [hl]
  clear hk hl hs h2 hA hby hp
  have HB0 : Hid (Below w.heap.size w (w.alloc (.cells #[.int .u64 0, .int .u64 0, .int .i64 0, .int .i64 0, .int .u64 0, .int .u32 0, .int .u64 0, .int .u32 0, .int .u32 0, .int .u32 0, .int .i64 0, .int .i64 0, .int .i64 0, .int .i64 0, .int .u64 0] 32))) := Lib.hid ((Below.refl _ w).alloc (Nat.le_refl _) _)
  have HZ0 : Hid (Has (w.alloc (.cells #[.int .u64 0, .int .u64 0, .int .i64 0, .int .i64 0, .int .u64 0, .int .u32 0, .int .u64 0, .int .u32 0, .int .u32 0, .int .u32 0, .int .i64 0, .int .i64 0, .int .i64 0, .int .i64 0, .int .u64 0] 32)) w.heap.size 32 fr0.cs) := Lib.hid (Has.new w _ _)
  go_enter Try.func67, Try.ntmps67
  go_wp2_with fail
  refine (HC.out _ HB0.out).mono ?_
  rintro e w1 ⟨rfl, hb⟩
  have HZ1 := Lib.hid (HZ0.out.below hb)
  have HB1 := Lib.hid (HB0.out.trans (hb.mono HB0.out.size))
  clear hb HZ0 HB0
  go_wp2_with fail
  refine (HD.out _ HB1.out).mono ?_
  rintro e w2 ⟨rfl, hb⟩
  have HZ2 := Lib.hid (HZ1.out.below hb)
  have HB2 := Lib.hid (HB1.out.trans (hb.mono HB1.out.size))
  rw [HE.out]
  obtain ⟨x, hx⟩ : ∃ x, dcP bs = x := ⟨_, rfl⟩
  rw [hx]
  have HX := Lib.hid hx
  clear hb HZ1 HB1 hx
  go_wp2_with (refine wpList_store_row rfl 32 (.tmp 2) (.tmp 14) rfl w.heap.size x.cs rfl rfl 32 fr0.cs HZ2.out x.fit rfl x.one ?_)
  exact bodyPost_ret (v := .agg x.cs) (results_cell_row rfl _ _ w.heap.size 32 x.cs (0, 0) _ rfl (setRow_heap _ _ _ _ _ HZ2.out) Try.underlying32 rfl x.fit) rfl ⟨by rw [HX.out], setRow_below HB2.out (Nat.le_refl _) HB2.out.size⟩

set_option maxHeartbeats 1000000 in
theorem dec_hf (v : Value) (bs : List Int) (w : World) (hA : Arr w v bs) (hl : bs.length = 42) (hby : ∀ v ∈ bs, 0 ≤ v ∧ v ≤ 255) (hk : cod bs = 2048) (hp : pd (nm bs 23 1) = false) :
    Calls Try.prog 67 #[v] w fun e w' => e = .returned (.agg (dcP bs).cs) ∧ Below w.heap.size w w' := by
  rcases hA with ⟨_, h⟩ | ⟨ad, c, rfl, h2⟩
  · rw [h] at hl; simp at hl
  obtain ⟨b, o, rfl, hs⟩ := h2.plain (by omega)
  have hA : Arr w (.slice (some ⟨b, o, none⟩) bs.length c) bs := .inr ⟨_, c, rfl, h2⟩
  have HS := Lib.hid hs
  have HLt := Lib.hid (cell_block (hs 0 (by omega)))
  have HC : Hid (∀ W, Below w.heap.size w W → Calls Try.prog 78 #[.slice (some ⟨b, o, none⟩) 42 c] W fun e w' => e = .returned (.int .i64 2048) ∧ Below W.heap.size W w') := Lib.hid (fun W hb => hk ▸ hl ▸ codeOf_any _ bs W (hA.below hb) (by omega) hby)
  have HD : Hid (∀ W, Below w.heap.size w W → Calls Try.prog 81 #[.slice (some ⟨b, o, none⟩) 42 c] W fun e w' => e = .returned (.agg (dHfF bs).cs) ∧ Below W.heap.size W w') := Lib.hid (fun W hb => hl ▸ dHf_any _ bs W (hA.below hb) hl hby hp)
  have HE : Hid (dHfF bs = dcP bs) := Lib.hid (by unfold dcP; rw [if_neg (by omega), if_pos hk, if_neg (by rw [hp]; decide)])
  have HLen := Lib.hid hl
  rw [hl]
  clear hk hl hs h2 hA hby hp
  have HB0 : Hid (Below w.heap.size w (w.alloc (.cells #[.int .u64 0, .int .u64 0, .int .i64 0, .int .i64 0, .int .u64 0, .int .u32 0, .int .u64 0, .int .u32 0, .int .u32 0, .int .u32 0, .int .i64 0, .int .i64 0, .int .i64 0, .int .i64 0, .int .u64 0] 32))) := Lib.hid ((Below.refl _ w).alloc (Nat.le_refl _) _)
  have HZ0 : Hid (Has (w.alloc (.cells #[.int .u64 0, .int .u64 0, .int .i64 0, .int .i64 0, .int .u64 0, .int .u32 0, .int .u64 0, .int .u32 0, .int .u32 0, .int .u32 0, .int .i64 0, .int .i64 0, .int .i64 0, .int .i64 0, .int .u64 0] 32)) w.heap.size 32 fr0.cs) := Lib.hid (Has.new w _ _)
  go_enter Try.func67, Try.ntmps67
  go_wp2_with fail
  refine (HC.out _ HB0.out).mono ?_
  rintro e w1 ⟨rfl, hb⟩
  have HZ1 := Lib.hid (HZ0.out.below hb)
  have HB1 := Lib.hid (HB0.out.trans (hb.mono HB0.out.size))
  clear hb HZ0 HB0
  go_wp2_with fail
  refine (HD.out _ HB1.out).mono ?_
  rintro e w2 ⟨rfl, hb⟩
  have HZ2 := Lib.hid (HZ1.out.below hb)
  have HB2 := Lib.hid (HB1.out.trans (hb.mono HB1.out.size))
  rw [HE.out]
  obtain ⟨x, hx⟩ : ∃ x, dcP bs = x := ⟨_, rfl⟩
  rw [hx]
  have HX := Lib.hid hx
  clear hb HZ1 HB1 hx
  go_wp2_with (refine wpList_store_row rfl 32 (.tmp 2) (.tmp 14) rfl w.heap.size x.cs rfl rfl 32 fr0.cs HZ2.out x.fit rfl x.one ?_)
  exact bodyPost_ret (v := .agg x.cs) (results_cell_row rfl _ _ w.heap.size 32 x.cs (0, 0) _ rfl (setRow_heap _ _ _ _ _ HZ2.out) Try.underlying32 rfl x.fit) rfl ⟨by rw [HX.out], setRow_below HB2.out (Nat.le_refl _) HB2.out.size⟩

end Go.Proofs.Ytgdfpmnbofnjfaa
