/- The contract of ParsePrefix. -/
import Derived.Test.YtlmgbnpimmjijaaDoorParseIP
import Derived.Test.YtlmgbnpimmjijaaDoorNumInt
import Derived.Test.YtlmgbnpimmjijaaDoorPre
namespace Go.Proofs.YtlmgbnpimmjijaaDoor
open Go.RowKit

/-- The package-level notation of lengths. -/
def GlobLen (w : World) : Prop := w.cell? ⟨1, 0, none⟩ = some (.int .i64 10) ∧ w.cell? ⟨1, 1, none⟩ = some (.int .i64 1) ∧ w.cell? ⟨1, 2, none⟩ = some (.int .i64 2) ∧
  w.cell? ⟨1, 3, none⟩ = some (.bool false) ∧ w.cell? ⟨1, 4, none⟩ = some (.int .i64 32)

theorem GlobIP.keep {w w' : World} (h : GlobIP w) (hb : Below w.heap.size w w') : GlobIP w' := by
  obtain ⟨g0, g1, g2, g3, g4, m, hm⟩ := h
  have q0 := World.block_lt_of_cell? w _ g0
  have q1 := World.block_lt_of_cell? w _ hm
  exact ⟨(hb.cell (p := ⟨0, 0, none⟩) q0).trans g0, (hb.cell (p := ⟨0, 1, none⟩) q0).trans g1, (hb.cell (p := ⟨0, 2, none⟩) q0).trans g2,
    (hb.cell (p := ⟨0, 3, none⟩) q0).trans g3, (hb.cell (p := ⟨0, 4, none⟩) q0).trans g4, m, (hb.cell (p := ⟨3, 0, none⟩) q1).trans hm⟩

theorem GlobLen.keep {w w' : World} (h : GlobLen w) (hb : Below w.heap.size w w') : GlobLen w' := by
  obtain ⟨g0, g1, g2, g3, g4⟩ := h
  have q0 := World.block_lt_of_cell? w _ g0
  exact ⟨(hb.cell (p := ⟨1, 0, none⟩) q0).trans g0, (hb.cell (p := ⟨1, 1, none⟩) q0).trans g1, (hb.cell (p := ⟨1, 2, none⟩) q0).trans g2,
    (hb.cell (p := ⟨1, 3, none⟩) q0).trans g3, (hb.cell (p := ⟨1, 4, none⟩) q0).trans g4⟩

/-- What ParsePrefix answers: the address, the length and the fault. -/
def pfxOf (l : List UInt8) : Int × Int × Int :=
  match nums decN [46] 4 [] (Lib.cut l [47]).1 true, nums lenN [47] 1 [] (Lib.cut l [47]).2.1 true with
  | some xs, some ys => if cl (joined xs) (joined ys) = joined xs then (joined xs, joined ys, 0) else (0, 0, 3)
  | _, _ => (0, 0, 19)

theorem newer1 {W W' : World} {a b : Int} (h : G (W.alloc (pfxb a b)) W') :
    W'.cell? ⟨W.heap.size, 0, none⟩ = some (.int .u32 a) ∧ W'.cell? ⟨W.heap.size, 1, none⟩ = some (.int .i64 b) ∧ W.heap.size < W'.heap.size := by
  have hs := h.below.size
  simp at hs
  refine ⟨?_, ?_, hs⟩ <;> (rw [h.cells _ _ (by simp)]; simp [go_sem])

theorem below_drewN0 {B : Nat} {a w : World} (h : Below B a w) (n : Nat) : Below B a (w.drewN n) := ⟨h.os, h.tape, h.output, h.size, h.block⟩

/-- The result's two cells, later. -/
theorem result2 {w W : World} (h : Below (w.heap.size + 1) (w.alloc (pfxb 0 0)) W) : W.cell? ⟨w.heap.size, 0, none⟩ = some (.int .u32 0) ∧ W.cell? ⟨w.heap.size, 1, none⟩ = some (.int .i64 0) ∧ W.frozen? ⟨w.heap.size, 0, none⟩ = false ∧ W.frozen? ⟨w.heap.size, 1, none⟩ = false ∧ w.heap.size < W.heap.size := by
  have hs := h.size
  simp at hs
  exact ⟨(h.cell (p := ⟨w.heap.size, 0, none⟩) (by simp)).trans (by simp [go_sem]), (h.cell (p := ⟨w.heap.size, 1, none⟩) (by simp)).trans (by simp [go_sem]),
    (h.frozen (p := ⟨w.heap.size, 0, none⟩) (by simp)).trans (by simp [go_sem]), (h.frozen (p := ⟨w.heap.size, 1, none⟩) (by simp)).trans (by simp [go_sem]), hs⟩

theorem sz1 {w W : World} (h : Below (w.heap.size + 1) (w.alloc (pfxb 0 0)) W) : w.heap.size + 1 ≤ W.heap.size := by
  have hs := h.size
  simpa using hs

theorem result_back {w W : World} (h : Below (w.heap.size + 1) (w.alloc (pfxb 0 0)) W) : Below w.heap.size w W := ((Below.refl _ w).alloc (Nat.le_refl _) _).trans (h.mono (by omega))

set_option maxHeartbeats 1000000 in
set_option maxRecDepth 100000 in
theorem parsePfx_nn (l p r : List UInt8) (mo : Bool) (hs : l.length ≤ 200) (hx : nums decN [46] 4 [] p true = none) (b : Bool) (hy : (nums lenN [47] 1 [] r true).isSome = b) (w : World) (hg : GlobIP w) (hl : GlobLen w) (hc : Lib.cut l [47] = (p, r, mo)) :
    Calls Tryd.prog 12 #[.string ⟨l.toArray⟩] w fun e w' => e = .returned (.tuple #[pfx 0 0, .int .i64 19]) ∧ Below w.heap.size w w' := by
  have HX := Lib.hid hx
  have HY := Lib.hid hy
  clear hx hy
  obtain ⟨hpl, hrl⟩ := cut_length hc
  have hpl2 : p.length ≤ 200 := by omega
  have hrl2 : r.length ≤ 200 := by omega
  clear hpl hrl
  have HC := Lib.hid hc
  have HB0 : Below (w.heap.size + 1) (w.alloc (pfxb 0 0)) (w.alloc (pfxb 0 0)) := Below.refl _ _
  have hg1 := hg.keep (result_back HB0)
  obtain ⟨_, _, _, _, _, m, hm⟩ := hg1
  have HG := Lib.hid hg
  have HL := Lib.hid hl
  clear hg hl hc
  go_enter Tryd.func12, Tryd.ntmps12
  go_wp2_with fail
  refine (cut_b l [47] p r mo HC.out hs m _ hm).mono ?_
  rintro e w1 ⟨rfl, nq, rfl⟩
  clear hm
  have HB := below_drewN0 HB0 nq
  clear HB0
  go_wp2_with fail
  refine (parseIP_no p hpl2 _ (HG.out.keep (result_back HB)) HX.out).mono ?_
  rintro e w2 ⟨rfl, hb2⟩
  have HB2 := HB.trans (hb2.mono (sz1 HB))
  clear hb2 HB
  obtain ⟨l0, l1, l2, l3, l4⟩ := HL.out.keep (result_back HB2)
  obtain ⟨_, _, _, _, _, m2, hm2⟩ := HG.out.keep (result_back HB2)
  obtain ⟨r0, r1, f0, f1, rs⟩ := result2 HB2
  go_wp2_with fail
  refine (numbersInt_b r hrl2 m2 _ hm2).mono ?_
  rintro e w3 ⟨v, he, hb3, ho⟩
  have HB3 := HB2.trans (hb3.mono (sz1 HB2))
  clear r0 r1 f0 f1 rs l0 l1 l2 l3 l4 hm2
  obtain ⟨r0, r1, f0, f1, rs⟩ := result2 HB3
  rw [HY.out] at he
  subst he
  clear ho
  go_wp2_with fail
  refine bodyPost_ret (v := .tuple #[pfx 0 0, .int .i64 19]) (by simp [results, Tryd.results12, go_sem, r0, r1]) rfl ⟨rfl, ?_⟩
  exact ((result_back HB3).setCell (p := ⟨w.heap.size, 0, none⟩) (Nat.le_refl _) _).setCell (p := ⟨w.heap.size, 1, none⟩) (Nat.le_refl _) _

set_option maxHeartbeats 1000000 in
set_option maxRecDepth 100000 in
theorem parsePfx_yn (l p r : List UInt8) (mo : Bool) (hs : l.length ≤ 200) (xs : List Int) (hx : nums decN [46] 4 [] p true = some xs) (hy : nums lenN [47] 1 [] r true = none) (w : World) (hg : GlobIP w) (hl : GlobLen w) (hc : Lib.cut l [47] = (p, r, mo)) :
    Calls Tryd.prog 12 #[.string ⟨l.toArray⟩] w fun e w' => e = .returned (.tuple #[pfx 0 0, .int .i64 19]) ∧ Below w.heap.size w w' := by
  have HX := Lib.hid hx
  have HY := Lib.hid hy
  clear hx hy
  obtain ⟨hpl, hrl⟩ := cut_length hc
  have hpl2 : p.length ≤ 200 := by omega
  have hrl2 : r.length ≤ 200 := by omega
  clear hpl hrl
  have HC := Lib.hid hc
  have HB0 : Below (w.heap.size + 1) (w.alloc (pfxb 0 0)) (w.alloc (pfxb 0 0)) := Below.refl _ _
  have hg1 := hg.keep (result_back HB0)
  obtain ⟨_, _, _, _, _, m, hm⟩ := hg1
  have HG := Lib.hid hg
  have HL := Lib.hid hl
  clear hg hl hc
  go_enter Tryd.func12, Tryd.ntmps12
  go_wp2_with fail
  refine (cut_b l [47] p r mo HC.out hs m _ hm).mono ?_
  rintro e w1 ⟨rfl, nq, rfl⟩
  clear hm
  have HB := below_drewN0 HB0 nq
  clear HB0
  go_wp2_with fail
  refine (parseIP_yes p hpl2 xs _ (HG.out.keep (result_back HB)) HX.out).mono ?_
  rintro e w2 ⟨rfl, hb2⟩
  have HB2 := HB.trans (hb2.mono (sz1 HB))
  clear hb2 HB
  obtain ⟨l0, l1, l2, l3, l4⟩ := HL.out.keep (result_back HB2)
  obtain ⟨_, _, _, _, _, m2, hm2⟩ := HG.out.keep (result_back HB2)
  obtain ⟨r0, r1, f0, f1, rs⟩ := result2 HB2
  go_wp2_with fail
  refine (numbersInt_b r hrl2 m2 _ hm2).mono ?_
  rintro e w3 ⟨v, he, hb3, ho⟩
  have HB3 := HB2.trans (hb3.mono (sz1 HB2))
  clear r0 r1 f0 f1 rs l0 l1 l2 l3 l4 hm2
  obtain ⟨r0, r1, f0, f1, rs⟩ := result2 HB3
  rw [HY.out] at he
  subst he
  clear ho
  go_wp2_with fail
  refine bodyPost_ret (v := .tuple #[pfx 0 0, .int .i64 19]) (by simp [results, Tryd.results12, go_sem, r0, r1]) rfl ⟨rfl, ?_⟩
  exact ((result_back HB3).setCell (p := ⟨w.heap.size, 0, none⟩) (Nat.le_refl _) _).setCell (p := ⟨w.heap.size, 1, none⟩) (Nat.le_refl _) _

set_option maxHeartbeats 1000000 in
set_option maxRecDepth 100000 in
theorem parsePfx_yy (l p r : List UInt8) (mo : Bool) (hs : l.length ≤ 200) (xs : List Int) (y : Int) (hx : nums decN [46] 4 [] p true = some xs) (hy : nums lenN [47] 1 [] r true = some [y]) (hcl : (cl (joined xs) y == joined xs) = true) (w : World) (hg : GlobIP w) (hl : GlobLen w) (hc : Lib.cut l [47] = (p, r, mo)) :
    Calls Tryd.prog 12 #[.string ⟨l.toArray⟩] w fun e w' => e = .returned (.tuple #[pfx (joined xs) y, .int .i64 0]) ∧ Below w.heap.size w w' := by
  have hv : vld y = true := by
    have h := (nums_ok (n := lenN) (by decide) _ _ _ _ _ _ hy (fun x hx => by cases hx)).2 y (by simp)
    exact vld_iff.2 h
  have HV := Lib.hid hv
  have HX := Lib.hid hx
  have HY := Lib.hid hy
  clear hx hy hv
  obtain ⟨hpl, hrl⟩ := cut_length hc
  have hpl2 : p.length ≤ 200 := by omega
  have hrl2 : r.length ≤ 200 := by omega
  clear hpl hrl
  have HC := Lib.hid hc
  have HB0 : Below (w.heap.size + 1) (w.alloc (pfxb 0 0)) (w.alloc (pfxb 0 0)) := Below.refl _ _
  have hg1 := hg.keep (result_back HB0)
  obtain ⟨_, _, _, _, _, m, hm⟩ := hg1
  have HG := Lib.hid hg
  have HL := Lib.hid hl
  clear hg hl hc
  go_enter Tryd.func12, Tryd.ntmps12
  go_wp2_with fail
  refine (cut_b l [47] p r mo HC.out hs m _ hm).mono ?_
  rintro e w1 ⟨rfl, nq, rfl⟩
  clear hm
  have HB := below_drewN0 HB0 nq
  clear HB0
  go_wp2_with fail
  refine (parseIP_yes p hpl2 xs _ (HG.out.keep (result_back HB)) HX.out).mono ?_
  rintro e w2 ⟨rfl, hb2⟩
  have HB2 := HB.trans (hb2.mono (sz1 HB))
  clear hb2 HB
  obtain ⟨l0, l1, l2, l3, l4⟩ := HL.out.keep (result_back HB2)
  obtain ⟨_, _, _, _, _, m2, hm2⟩ := HG.out.keep (result_back HB2)
  obtain ⟨r0, r1, f0, f1, rs⟩ := result2 HB2
  go_wp2_with fail
  refine (numbersInt_b r hrl2 m2 _ hm2).mono ?_
  rintro e w3 ⟨v, he, hb3, ho⟩
  have HB3 := HB2.trans (hb3.mono (sz1 HB2))
  clear r0 r1 f0 f1 rs l0 l1 l2 l3 l4 hm2
  obtain ⟨r0, r1, f0, f1, rs⟩ := result2 HB3
  rw [HY.out] at he
  subst he
  have hown := ho _ HY.out
  obtain ⟨bk, cap, rfl⟩ := ownsRow_succ hown
  have k0 : w3.cell? ⟨bk, 0, none⟩ = some (.int .i64 y) := by rw [hown.cellAt 0 (by simp)]; rfl
  clear hown ho
  go_wp2_with fail
  refine (clean_yes (joined xs) y HV.out _).mono ?_
  rintro e w4 ⟨rfl, hg4⟩
  obtain ⟨x0, x1, xsz⟩ := newer1 hg4
  have HB4 := (HB3.alloc (sz1 HB3) _).trans (hg4.below.mono (by have := sz1 HB3; simp; omega))
  clear r0 r1 f0 f1 rs
  obtain ⟨r0, r1, f0, f1, rs⟩ := result2 HB4
  clear hg4
  go_wp2_with fail
  refine bodyPost_ret (v := .tuple #[pfx (joined xs) y, .int .i64 0]) (by simp [results, Tryd.results12, go_sem, r0, r1, rs]) rfl ⟨rfl, ?_⟩
  exact (((result_back HB4).setCell (p := ⟨w.heap.size, 0, none⟩) (Nat.le_refl _) _).setCell (p := ⟨w.heap.size, 1, none⟩) (Nat.le_refl _) _).alloc (by have := (result_back HB4).size; simpa [World.setCell] using this) _

set_option maxHeartbeats 1000000 in
set_option maxRecDepth 100000 in
theorem parsePfx_form (l p r : List UInt8) (mo : Bool) (hs : l.length ≤ 200) (xs : List Int) (y : Int) (hx : nums decN [46] 4 [] p true = some xs) (hy : nums lenN [47] 1 [] r true = some [y]) (hcl : (cl (joined xs) y == joined xs) = false) (w : World) (hg : GlobIP w) (hl : GlobLen w) (hc : Lib.cut l [47] = (p, r, mo)) :
    Calls Tryd.prog 12 #[.string ⟨l.toArray⟩] w fun e w' => e = .returned (.tuple #[pfx 0 0, .int .i64 3]) ∧ Below w.heap.size w w' := by
  have hv : vld y = true := by
    have h := (nums_ok (n := lenN) (by decide) _ _ _ _ _ _ hy (fun x hx => by cases hx)).2 y (by simp)
    exact vld_iff.2 h
  have HV := Lib.hid hv
  have HX := Lib.hid hx
  have HY := Lib.hid hy
  clear hx hy hv
  obtain ⟨hpl, hrl⟩ := cut_length hc
  have hpl2 : p.length ≤ 200 := by omega
  have hrl2 : r.length ≤ 200 := by omega
  clear hpl hrl
  have HC := Lib.hid hc
  have HB0 : Below (w.heap.size + 1) (w.alloc (pfxb 0 0)) (w.alloc (pfxb 0 0)) := Below.refl _ _
  have hg1 := hg.keep (result_back HB0)
  obtain ⟨_, _, _, _, _, m, hm⟩ := hg1
  have HG := Lib.hid hg
  have HL := Lib.hid hl
  clear hg hl hc
  go_enter Tryd.func12, Tryd.ntmps12
  go_wp2_with fail
  refine (cut_b l [47] p r mo HC.out hs m _ hm).mono ?_
  rintro e w1 ⟨rfl, nq, rfl⟩
  clear hm
  have HB := below_drewN0 HB0 nq
  clear HB0
  go_wp2_with fail
  refine (parseIP_yes p hpl2 xs _ (HG.out.keep (result_back HB)) HX.out).mono ?_
  rintro e w2 ⟨rfl, hb2⟩
  have HB2 := HB.trans (hb2.mono (sz1 HB))
  clear hb2 HB
  obtain ⟨l0, l1, l2, l3, l4⟩ := HL.out.keep (result_back HB2)
  obtain ⟨_, _, _, _, _, m2, hm2⟩ := HG.out.keep (result_back HB2)
  obtain ⟨r0, r1, f0, f1, rs⟩ := result2 HB2
  go_wp2_with fail
  refine (numbersInt_b r hrl2 m2 _ hm2).mono ?_
  rintro e w3 ⟨v, he, hb3, ho⟩
  have HB3 := HB2.trans (hb3.mono (sz1 HB2))
  clear r0 r1 f0 f1 rs l0 l1 l2 l3 l4 hm2
  obtain ⟨r0, r1, f0, f1, rs⟩ := result2 HB3
  rw [HY.out] at he
  subst he
  have hown := ho _ HY.out
  obtain ⟨bk, cap, rfl⟩ := ownsRow_succ hown
  have k0 : w3.cell? ⟨bk, 0, none⟩ = some (.int .i64 y) := by rw [hown.cellAt 0 (by simp)]; rfl
  clear hown ho
  go_wp2_with fail
  refine (clean_yes (joined xs) y HV.out _).mono ?_
  rintro e w4 ⟨rfl, hg4⟩
  obtain ⟨x0, x1, xsz⟩ := newer1 hg4
  have HB4 := (HB3.alloc (sz1 HB3) _).trans (hg4.below.mono (by have := sz1 HB3; simp; omega))
  clear r0 r1 f0 f1 rs
  obtain ⟨r0, r1, f0, f1, rs⟩ := result2 HB4
  clear hg4
  go_wp2_with fail
  refine bodyPost_ret (v := .tuple #[pfx 0 0, .int .i64 3]) (by simp [results, Tryd.results12, go_sem, r0, r1, rs]) rfl ⟨rfl, ?_⟩
  exact (((result_back HB4).setCell (p := ⟨w.heap.size, 0, none⟩) (Nat.le_refl _) _).setCell (p := ⟨w.heap.size, 1, none⟩) (Nat.le_refl _) _).alloc (by have := (result_back HB4).size; simpa [World.setCell] using this) _

end Go.Proofs.YtlmgbnpimmjijaaDoor
