/- Packets: frames read; written by gen_pkr.py. -/
import Derived.Test.YtgdfpmnbofnjfaaPkF
namespace Go.Proofs.Ytgdfpmnbofnjfaa
open Go.RowKit Go.Shelf
set_option linter.unusedVariables false
set_option linter.unusedSimpArgs false
set_option maxRecDepth 100000

/-- A number of so many bytes, at a place. -/
def nm (bs : List Int) (p m : Nat) : Int := num ((bs.drop p).take m)
theorem nm_bd {bs : List Int} (hb : ∀ v ∈ bs, 0 ≤ v ∧ v ≤ 255) (p m : Nat) : 0 ≤ nm bs p m ∧ nm bs p m < 256 ^ m := by
  have h := num_bound ((bs.drop p).take m) (fun v hv => hb v (List.mem_of_mem_drop (List.mem_of_mem_take hv)))
  have hl : ((bs.drop p).take m).length ≤ m := by simp; omega
  have := pow_mono m hl
  unfold nm
  omega
theorem got_at {bs : List Int} {p m : Nat} (h : p + m ≤ bs.length) : (⟨bs, 0, p, 0, 0⟩ : RS).got m = nm bs p m := by
  unfold RS.got
  rw [take_c m rfl (by show m ≤ 0 + bs.length - p; omega)]
  rfl
theorem take_at {bs : List Int} {p m p' : Nat} (h : p + m ≤ bs.length) (he : p + m = p') : ((⟨bs, 0, p, 0, 0⟩ : RS).take m).2 = ⟨bs, 0, p', 0, 0⟩ := by
  rw [take_c m rfl (by show m ≤ 0 + bs.length - p; omega), he]
theorem in2 {v : Int} (h : 0 ≤ v ∧ v < 256 ^ 2) : IntKind.i64.wrap v = v := IntWalk.i64_in _ (by omega)
theorem in1 {v : Int} (h : 0 ≤ v ∧ v < 256 ^ 1) : IntKind.i64.wrap v = v := IntWalk.i64_in _ (by omega)
theorem in4 {v : Int} (h : 0 ≤ v ∧ v < 256 ^ 4) : IntKind.u32.wrap v = v := by
  have e : IntKind.u32.wrap v = v % 4294967296 := by rfl
  rw [e]; omega

theorem q1 (g h cap : Nat) (bs : List Int) (p p' : Nat) (w : World) (H : RdS w g h cap ⟨bs, 0, p, 0, 0⟩) (hp : p + 1 ≤ bs.length) (he : p + 1 = p') :
    Calls Try.prog 45 #[.pointer (some ⟨g, 0, none⟩)] w fun e w' => e = .returned (.int .u64 (nm bs p 1)) ∧ RdS w' g h cap ⟨bs, 0, p', 0, 0⟩ ∧ Only w g w' := by
  have h := rU1 g h cap _ w H
  have ht : ((⟨bs, 0, p, 0, 0⟩ : RS).take 1).2 = ⟨bs, 0, p', 0, 0⟩ := take_at (m := 1) hp he
  rw [got_at hp, ht] at h
  exact h
theorem q2 (g h cap : Nat) (bs : List Int) (p p' : Nat) (w : World) (H : RdS w g h cap ⟨bs, 0, p, 0, 0⟩) (hp : p + 2 ≤ bs.length) (he : p + 2 = p') :
    Calls Try.prog 46 #[.pointer (some ⟨g, 0, none⟩)] w fun e w' => e = .returned (.int .u64 (nm bs p 2)) ∧ RdS w' g h cap ⟨bs, 0, p', 0, 0⟩ ∧ Only w g w' := by
  have h := rU2 g h cap _ w H
  have ht : ((⟨bs, 0, p, 0, 0⟩ : RS).take 2).2 = ⟨bs, 0, p', 0, 0⟩ := take_at (m := 2) hp he
  rw [got_at hp, ht] at h
  exact h
theorem q4 (g h cap : Nat) (bs : List Int) (p p' : Nat) (w : World) (H : RdS w g h cap ⟨bs, 0, p, 0, 0⟩) (hp : p + 4 ≤ bs.length) (he : p + 4 = p') :
    Calls Try.prog 47 #[.pointer (some ⟨g, 0, none⟩)] w fun e w' => e = .returned (.int .u64 (nm bs p 4)) ∧ RdS w' g h cap ⟨bs, 0, p', 0, 0⟩ ∧ Only w g w' := by
  have h := rU4 g h cap _ w H
  have ht : ((⟨bs, 0, p, 0, 0⟩ : RS).take 4).2 = ⟨bs, 0, p', 0, 0⟩ := take_at (m := 4) hp he
  rw [got_at hp, ht] at h
  exact h
theorem q6 (g h cap : Nat) (bs : List Int) (p p' : Nat) (w : World) (H : RdS w g h cap ⟨bs, 0, p, 0, 0⟩) (hp : p + 6 ≤ bs.length) (he : p + 6 = p') :
    Calls Try.prog 48 #[.pointer (some ⟨g, 0, none⟩)] w fun e w' => e = .returned (.int .u64 (nm bs p 6)) ∧ RdS w' g h cap ⟨bs, 0, p', 0, 0⟩ ∧ Only w g w' := by
  have h := rU6 g h cap _ w H
  have ht : ((⟨bs, 0, p, 0, 0⟩ : RS).take 6).2 = ⟨bs, 0, p', 0, 0⟩ := take_at (m := 6) hp he
  rw [got_at hp, ht] at h
  exact h
theorem q8 (g h cap : Nat) (bs : List Int) (p p' : Nat) (w : World) (H : RdS w g h cap ⟨bs, 0, p, 0, 0⟩) (hp : p + 8 ≤ bs.length) (he : p + 8 = p') :
    Calls Try.prog 91 #[.pointer (some ⟨g, 0, none⟩)] w fun e w' => e = .returned (.int .u64 (nm bs p 8)) ∧ RdS w' g h cap ⟨bs, 0, p', 0, 0⟩ ∧ Only w g w' := by
  have h := rU8 g h cap _ w H
  have ht : ((⟨bs, 0, p, 0, 0⟩ : RS).take 8).2 = ⟨bs, 0, p', 0, 0⟩ := take_at (m := 8) hp he
  rw [got_at hp, ht] at h
  exact h
theorem qB (g h cap : Nat) (bs : List Int) (p n p' : Nat) (w : World) (H : RdS w g h cap ⟨bs, 0, p, 0, 0⟩) (hp : p + n ≤ bs.length) (he : p + n = p') :
    Calls Try.prog 44 #[.pointer (some ⟨g, 0, none⟩), .int .i64 n] w fun e w' => (∃ v, e = .returned v) ∧ RdS w' g h cap ⟨bs, 0, p', 0, 0⟩ ∧ Only w g w' := by
  have h := rbytes g h cap _ w H n
  rw [take_at hp he] at h
  exact h.mono fun e w' ⟨⟨v, hv, _⟩, h2⟩ => ⟨⟨v, hv⟩, h2⟩

/-- A reader at work, a frame in a block of the call's own, and a block of zeros for the result. -/
structure RB (w0 : World) (g h cap : Nat) (s : RS) (B R : Nat) (x : FR) (W : World) : Prop where
  rd : RdS W g h cap s
  box : Has W B 32 x.cs
  zer : Has W R 32 fr0.cs
  gB : g ≠ B
  hB : h ≠ B
  gR : g ≠ R
  hR : h ≠ R
  BR : B ≠ R
  on : Only w0 g W
  nw : w0.heap.size ≤ B
  nr : w0.heap.size ≤ R
section
variable {w0 W W' : World} {g h cap B R : Nat} {s s' : RS} {x : FR}
theorem RB.call (H : RB w0 g h cap s B R x W) (r : RdS W' g h cap s') (o : Only W g W') : RB w0 g h cap s' B R x W' :=
  ⟨r, H.box.grown o (by rintro ⟨⟩; exact H.gB rfl), H.zer.grown o (by rintro ⟨⟩; exact H.gR rfl), H.gB, H.hB, H.gR, H.hR, H.BR, only_trans H.on o, H.nw, H.nr⟩
theorem RB.below (H : RB w0 g h cap s B R x W) (hb : Below W.heap.size W W') : RB w0 g h cap s B R x W' :=
  ⟨Rd.below H.rd hb, H.box.below hb, H.zer.below hb, H.gB, H.hB, H.gR, H.hR, H.BR, only_trans H.on (only_below hb g), H.nw, H.nr⟩
theorem RB.set (H : RB w0 g h cap s B R x W) (i : Nat) (u : Value) (x' : FR) (he : x.cs.setIfInBounds i u = x'.cs) : RB w0 g h cap s B R x' (W.setCell ⟨B, i, none⟩ u) :=
  ⟨Rd.grown H.rd (only_set (only_refl W B) (p := ⟨B, i, none⟩) (.inl rfl) u) (by rintro ⟨⟩; exact H.gB rfl) (by rintro ⟨⟩; exact H.hB rfl), he ▸ H.box.set_ i u, H.zer.grown (only_set (only_refl W B) (p := ⟨B, i, none⟩) (.inl rfl) u) (by rintro ⟨⟩; exact H.BR rfl), H.gB, H.hB, H.gR, H.hR, H.BR, only_set H.on (p := ⟨B, i, none⟩) (.inr H.nw) u, H.nw, H.nr⟩
theorem RB.end_ (H : RB w0 g h cap s B R x W) : RdS (W.setRow R x.cs) g h cap s ∧ Only w0 g (W.setRow R x.cs) := by
  have h1 : Only W R (W.setRow R x.cs) := Only.row _
  have hs := H.on.size
  exact ⟨Rd.grown H.rd h1 (by rintro ⟨⟩; exact H.gR rfl) (by rintro ⟨⟩; exact H.hR rfl), ⟨h1.os.trans H.on.os, h1.tape.trans H.on.tape, h1.output.trans H.on.output, Nat.le_trans H.on.size h1.size, fun i hi hne => (h1.block i (Nat.lt_of_lt_of_le hi hs) (by rintro ⟨⟩; have := H.nr; omega)).trans (H.on.block i hi hne)⟩⟩
end
theorem RdS.lts {w : World} {g h cap : Nat} {s : RS} (H : RdS w g h cap s) : g < w.heap.size ∧ h < w.heap.size := by
  refine ⟨H.blk.lt, ?_⟩
  obtain ⟨_, hh, _⟩ := H.row
  exact hh.lt
theorem setRow_heap (w : World) (g : Nat) (cs old : Array Value) (t : TypeId) (h : Has w g t old) : Has (w.setRow g cs) g t cs := by
  show (w.heap.modify g _)[g]? = _
  have hg : w.heap[g]? = some (.cells old t (0, 0)) := h
  obtain ⟨hlt, hk⟩ := Array.getElem?_eq_some_iff.1 hg
  rw [Array.getElem?_eq_getElem (by rw [Array.size_modify]; exact hlt), Array.getElem_modify_self, hk]

theorem set_s (x : FR) (v : Int) : x.cs.setIfInBounds 0 (.int .u64 v) = ({ x with s := v } : FR).cs := by simp only [FR.cs, List.setIfInBounds_toArray, List.set_cons_zero, List.set_cons_succ]
theorem set_d (x : FR) (v : Int) : x.cs.setIfInBounds 1 (.int .u64 v) = ({ x with d := v } : FR).cs := by simp only [FR.cs, List.setIfInBounds_toArray, List.set_cons_zero, List.set_cons_succ]
theorem set_k (x : FR) (v : Int) : x.cs.setIfInBounds 2 (.int .i64 v) = ({ x with k := v } : FR).cs := by simp only [FR.cs, List.setIfInBounds_toArray, List.set_cons_zero, List.set_cons_succ]
theorem set_op (x : FR) (v : Int) : x.cs.setIfInBounds 3 (.int .i64 v) = ({ x with op := v } : FR).cs := by simp only [FR.cs, List.setIfInBounds_toArray, List.set_cons_zero, List.set_cons_succ]
theorem set_sm (x : FR) (v : Int) : x.cs.setIfInBounds 4 (.int .u64 v) = ({ x with sm := v } : FR).cs := by simp only [FR.cs, List.setIfInBounds_toArray, List.set_cons_zero, List.set_cons_succ]
theorem set_si (x : FR) (v : Int) : x.cs.setIfInBounds 5 (.int .u32 v) = ({ x with si := v } : FR).cs := by simp only [FR.cs, List.setIfInBounds_toArray, List.set_cons_zero, List.set_cons_succ]
theorem set_tm (x : FR) (v : Int) : x.cs.setIfInBounds 6 (.int .u64 v) = ({ x with tm := v } : FR).cs := by simp only [FR.cs, List.setIfInBounds_toArray, List.set_cons_zero, List.set_cons_succ]
theorem set_ti (x : FR) (v : Int) : x.cs.setIfInBounds 7 (.int .u32 v) = ({ x with ti := v } : FR).cs := by simp only [FR.cs, List.setIfInBounds_toArray, List.set_cons_zero, List.set_cons_succ]
theorem set_hs (x : FR) (v : Int) : x.cs.setIfInBounds 8 (.int .u32 v) = ({ x with hs := v } : FR).cs := by simp only [FR.cs, List.setIfInBounds_toArray, List.set_cons_zero, List.set_cons_succ]
theorem set_hd (x : FR) (v : Int) : x.cs.setIfInBounds 9 (.int .u32 v) = ({ x with hd := v } : FR).cs := by simp only [FR.cs, List.setIfInBounds_toArray, List.set_cons_zero, List.set_cons_succ]
theorem set_tl (x : FR) (v : Int) : x.cs.setIfInBounds 10 (.int .i64 v) = ({ x with tl := v } : FR).cs := by simp only [FR.cs, List.setIfInBounds_toArray, List.set_cons_zero, List.set_cons_succ]
theorem set_pr (x : FR) (v : Int) : x.cs.setIfInBounds 11 (.int .i64 v) = ({ x with pr := v } : FR).cs := by simp only [FR.cs, List.setIfInBounds_toArray, List.set_cons_zero, List.set_cons_succ]
theorem set_sp (x : FR) (v : Int) : x.cs.setIfInBounds 12 (.int .i64 v) = ({ x with sp := v } : FR).cs := by simp only [FR.cs, List.setIfInBounds_toArray, List.set_cons_zero, List.set_cons_succ]
theorem set_dp (x : FR) (v : Int) : x.cs.setIfInBounds 13 (.int .i64 v) = ({ x with dp := v } : FR).cs := by simp only [FR.cs, List.setIfInBounds_toArray, List.set_cons_zero, List.set_cons_succ]
theorem set_da (x : FR) (v : Int) : x.cs.setIfInBounds 14 (.int .u64 v) = ({ x with da := v } : FR).cs := by simp only [FR.cs, List.setIfInBounds_toArray, List.set_cons_zero, List.set_cons_succ]

def startF (bs : List Int) (k : Int) : FR := ⟨nm bs 6 6, nm bs 0 6, k, 0, 0, 0, 0, 0, 0, 0, 0, 0, 0, 0, 0⟩
set_option maxHeartbeats 2000000 in
theorem start_any (g h cap : Nat) (bs : List Int) (hlen : 14 ≤ bs.length) (hby : ∀ v ∈ bs, 0 ≤ v ∧ v ≤ 255) (k : Int) (w : World) (H : RdS w g h cap ⟨bs, 0, 0, 0, 0⟩) :
    Calls Try.prog 90 #[.pointer (some ⟨g, 0, none⟩), .int .i64 k] w fun e w' => e = .returned (.agg (startF bs k).cs) ∧ RdS w' g h cap ⟨bs, 0, 14, 0, 0⟩ ∧ Only w g w' := by
  have HLen := Lib.hid hlen
  have HBy := Lib.hid hby
  have HW : Hid (RB w g h cap ⟨bs, 0, 0, 0, 0⟩ (w.heap.size + 1) w.heap.size (⟨0, 0, k, 0, 0, 0, 0, 0, 0, 0, 0, 0, 0, 0, 0⟩ : FR) ((w.alloc (.cells #[.int .u64 0, .int .u64 0, .int .i64 0, .int .i64 0, .int .u64 0, .int .u32 0, .int .u64 0, .int .u32 0, .int .u32 0, .int .u32 0, .int .i64 0, .int .i64 0, .int .i64 0, .int .i64 0, .int .u64 0] 32)).alloc (.cells #[.int .u64 0, .int .u64 0, .int .i64 k, .int .i64 0, .int .u64 0, .int .u32 0, .int .u64 0, .int .u32 0, .int .u32 0, .int .u32 0, .int .i64 0, .int .i64 0, .int .i64 0, .int .i64 0, .int .u64 0] 32))) := Lib.hid (by
    have hb : Below w.heap.size w ((w.alloc (.cells #[.int .u64 0, .int .u64 0, .int .i64 0, .int .i64 0, .int .u64 0, .int .u32 0, .int .u64 0, .int .u32 0, .int .u32 0, .int .u32 0, .int .i64 0, .int .i64 0, .int .i64 0, .int .i64 0, .int .u64 0] 32)).alloc (.cells #[.int .u64 0, .int .u64 0, .int .i64 k, .int .i64 0, .int .u64 0, .int .u32 0, .int .u64 0, .int .u32 0, .int .u32 0, .int .u32 0, .int .i64 0, .int .i64 0, .int .i64 0, .int .i64 0, .int .u64 0] 32)) := ((Below.refl _ w).alloc (Nat.le_refl _) _).alloc (by simp) _
    have hl := RdS.lts H
    refine ⟨Rd.below H hb, ?_, (Has.new w _ _).below ((Below.refl _ _).alloc (Nat.le_refl _) _), by omega, by omega, by omega, by omega, by omega, only_below hb g, by omega, Nat.le_refl _⟩
    have h1 := Has.new (w.alloc (.cells #[.int .u64 0, .int .u64 0, .int .i64 0, .int .i64 0, .int .u64 0, .int .u32 0, .int .u64 0, .int .u32 0, .int .u32 0, .int .u32 0, .int .i64 0, .int .i64 0, .int .i64 0, .int .i64 0, .int .u64 0] 32)) 32 (⟨0, 0, k, 0, 0, 0, 0, 0, 0, 0, 0, 0, 0, 0, 0⟩ : FR).cs
    rw [World.size_alloc] at h1
    exact h1)
  clear H hlen hby
  go_enter Try.func90, Try.ntmps90
  go_wp2_with fail
  refine (q6 g h cap bs 0 6 _ HW.out.rd (by have := HLen.out; omega) rfl).mono ?_
  rintro e1 w1 ⟨rfl, hr, ho⟩
  have HX := Lib.hid (HW.out.call hr ho)
  clear hr ho HW
  have c := HX.out.box.f1
  have f := HX.out.box.free 1
  have HW := Lib.hid (HX.out.set 1 (.int .u64 (nm bs 0 6)) _ (set_d _ _))
  go_wp2_with fail
  clear c f HX
  refine (q6 g h cap bs 6 12 _ HW.out.rd (by have := HLen.out; omega) rfl).mono ?_
  rintro e2 w2 ⟨rfl, hr, ho⟩
  have HX := Lib.hid (HW.out.call hr ho)
  clear hr ho HW
  have c := HX.out.box.f0
  have f := HX.out.box.free 0
  have HW := Lib.hid (HX.out.set 0 (.int .u64 (nm bs 6 6)) _ (set_s _ _))
  go_wp2_with fail
  clear c f HX
  refine (q2 g h cap bs 12 14 _ HW.out.rd (by have := HLen.out; omega) rfl).mono ?_
  rintro e3 w3 ⟨rfl, hr, ho⟩
  have HX := Lib.hid (HW.out.call hr ho)
  clear hr ho HW
  have HW := HX
  clear HX
  go_wp2_with (first
    | (refine wpList_load_row rfl 32 (.tmp 5) rfl (w.heap.size + 1) rfl 32 _ (0, 0) _ HW.out.box Try.underlying32 rfl (FR.fit _) ?_)
    | (refine wpList_store_row rfl 32 (.tmp 4) (.tmp 16) rfl w.heap.size _ rfl rfl 32 fr0.cs HW.out.zer (FR.fit _) rfl (FR.one _) ?_))
  have HE := Lib.hid (RB.end_ HW.out)
  exact bodyPost_ret (v := .agg (startF bs k).cs) (results_cell_row rfl _ _ w.heap.size 32 (startF bs k).cs (0, 0) _ rfl (setRow_heap _ _ _ _ _ HW.out.zer) Try.underlying32 rfl (FR.fit _)) rfl ⟨rfl, HE.out.1, HE.out.2⟩

theorem RB.mk1 {w w1 : World} {g h cap R : Nat} {s : RS} {x : FR} (H : RdS w1 g h cap s) (hR : g ≠ R) (hR2 : h ≠ R) (hz : Has w1 R 32 fr0.cs) (hl : Below w.heap.size w w1) (hr : w.heap.size ≤ R) : RB w g h cap s w1.heap.size R x (w1.alloc (.cells x.cs 32)) := by
  have hl2 := RdS.lts H
  have hb : Below w1.heap.size w1 (w1.alloc (.cells x.cs 32)) := (Below.refl _ w1).alloc (Nat.le_refl _) _
  have hlt := hz.lt
  exact ⟨Rd.below H hb, Has.new w1 _ _, hz.below hb, by omega, by omega, hR, hR2, by omega, only_below (hl.trans (hb.mono hl.size)) g, hl.size, hr⟩

end Go.Proofs.Ytgdfpmnbofnjfaa
