/- Packets that carry frames: the document's Read; written by gen_vyd.py. -/
import Derived.Test.YtgdfpmnbofnjfaaZVyB
import Derived.Test.YtgdfpmnbofnjfaaZVxM
import Derived.Test.YtgdfpmnbofnjfaaZPkR9
namespace Go.Proofs.Ytgdfpmnbofnjfaa
open Go.RowKit Go.Shelf
set_option linter.unusedVariables false
set_option linter.unusedSimpArgs false
set_option maxRecDepth 100000

theorem rvread_results {w W : World} {x : VP} {er i : Int} (tmps : Array Value) (h2 : tmps[2]?.getD undef = .pointer (some ⟨w.heap.size, 0, none⟩)) (h3 : tmps[3]?.getD undef = .pointer (some ⟨w.heap.size + 1, 0, none⟩)) (q : VRW w x er i W) :
    (results Try.f21 tmps).run Try.prog W = .ok (.tuple #[.agg x.cs, .agg #[.int .i64 er, .int .i64 i]]) W := by
  have hl := run_loadVar_row W w.heap.size 34 34 x.cs (0, 0) _ q.zer Try.underlying34 rfl x.fit
  have hl2 := run_loadVar_row W (w.heap.size + 1) 37 37 #[.int .i64 er, .int .i64 i] (0, 0) _ q.flt Try.underlying37 rfl ft_fit
  simp [results, Try.f21, asAddr, Result.andThen, h2, h3, hl, hl2]
theorem in3u {v : Int} (h : 0 ≤ v ∧ v < 256 ^ 3) : IntKind.u32.wrap v = v := IntWalk.u32_in _ (by omega)

set_option maxHeartbeats 2000000 in
theorem rvread_s (A : Option Addr) (c : Nat) (bs : List Int) (w : World) (hl : bs.length < 36) :
    Calls Try.prog 21 #[.slice A bs.length c] w (VReads w bs) := by
  obtain ⟨n, hn⟩ : ∃ n, bs.length = n := ⟨_, rfl⟩
  have HF : Hid (vread bs = (vp0, 4, (n : Int))) := Lib.hid (by unfold vread; rw [if_pos hl, hn])
  rw [hn] at hl ⊢
  clear hn
  have e1 : (n : Int) < 36 := by omega
  obtain ⟨W2, hW2⟩ : ∃ W2, ((w.alloc (.cells #[.int .u32 0, .int .u32 0, .int .i64 0, .int .i64 0, .int .u32 0, .int .u32 0, .int .u64 0, .int .u64 0, .int .i64 0, .int .i64 0, .int .u64 0, .int .u32 0, .int .u64 0, .int .u32 0, .int .u32 0, .int .u32 0, .int .i64 0, .int .i64 0, .int .i64 0, .int .i64 0, .int .u64 0] 34)).alloc (.cells #[.int .i64 0, .int .i64 0] 37)) = W2 := ⟨_, rfl⟩
  have HW : Hid (VRW w vp0 0 0 W2) := Lib.hid (hW2 ▸ VRW.start w)
  go_enter Try.func21, Try.ntmps21
  go_upto_region 1 with fail
  try rw [hW2]
  clear hW2
  go_wp2_with (refine wpList_store_row rfl 34 (.tmp 2) (.tmp 13) rfl w.heap.size vp0.cs rfl rfl 34 vp0.cs HW.out.zer (VP.fit vp0) rfl (VP.one vp0) ?_; have HW5 := Lib.hid (HW.out.row vp0); generalize W2.setRow w.heap.size vp0.cs = W5 at HW5 ⊢; have q0 := HW5.out.flt.cell 0; have q1 := HW5.out.flt.cell 1; have p0 := HW5.out.flt.free 0; have p1 := HW5.out.flt.free 1; simp only [List.getElem?_toArray, List.getElem?_cons_zero, List.getElem?_cons_succ] at q0 q1)
  have HE := Lib.hid (HW5.out.set 4 (n : Int))
  exact bodyPost_ret (v := .tuple #[.agg vp0.cs, .agg #[.int .i64 4, .int .i64 (n : Int)]]) (rvread_results _ rfl rfl HE.out) rfl ⟨by rw [HF.out], HE.out.lo⟩


set_option maxHeartbeats 8000000 in
theorem rvread_proto (b o c : Nat) (bs : List Int) (w : World) (hs : Sl w b o bs) (hl : 36 ≤ bs.length) (hm : bs.length ≤ 1000) (hby : ∀ v ∈ bs, 0 ≤ v ∧ v ≤ 255) (hcap : bs.length ≤ c) (h17 : nm bs 9 1 ≠ 17) :
    Calls Try.prog 21 #[.slice (some ⟨b, o, none⟩) bs.length c] w (VReads w bs) := by
  have hblt := cell_block (hs 0 (by omega))
  have hblt' : b < w.heap.size := hblt
  have HSl : Hid (∀ W, Below w.heap.size w W → Sl W b o bs) := Lib.hid (fun W hb j hj => (hb.cell (p := ⟨b, o + j, none⟩) hblt).trans (hs j hj))
  have h9 := hs 9 (by omega)
  have hb9 := hby bs[9] (List.getElem_mem _)
  have hn9 : nm bs 9 1 = bs[9] := nm_one (by omega)
  have HF : Hid (vread bs = (vp0, 6, 9)) := Lib.hid (by unfold vread; rw [if_neg (show ¬ bs.length < 36 by omega), if_pos h17])
  obtain ⟨n, hn⟩ : ∃ n, bs.length = n := ⟨_, rfl⟩
  obtain ⟨y9, hy9⟩ : ∃ y, bs[9] = y := ⟨_, rfl⟩
  rw [hy9] at h9 hb9 hn9
  rw [hn9] at h17
  have HC := Lib.hid h9
  have e2 : (y9 == 17) = false := by simpa using h17
  rw [hn] at hl hcap ⊢
  have e1 : ¬ ((n : Int) < 36) := by omega
  have e3 : (9 : Int) < (n : Int) := by omega
  clear hs hby h9 hn9 hy9 hn
  obtain ⟨W2, hW2⟩ : ∃ W2, ((w.alloc (.cells #[.int .u32 0, .int .u32 0, .int .i64 0, .int .i64 0, .int .u32 0, .int .u32 0, .int .u64 0, .int .u64 0, .int .i64 0, .int .i64 0, .int .u64 0, .int .u32 0, .int .u64 0, .int .u32 0, .int .u32 0, .int .u32 0, .int .i64 0, .int .i64 0, .int .i64 0, .int .i64 0, .int .u64 0] 34)).alloc (.cells #[.int .i64 0, .int .i64 0] 37)) = W2 := ⟨_, rfl⟩
  have HW : Hid (VRW w vp0 0 0 W2) := Lib.hid (hW2 ▸ VRW.start w)
  go_enter Try.func21, Try.ntmps21
  go_upto_region 1 with fail
  try rw [hW2]
  clear hW2
  have c9 := (HW.out.lo.cell (p := ⟨b, o + 9, none⟩) hblt').trans HC.out
  go_wp2_with (refine wpList_store_row rfl 34 (.tmp 2) (.tmp 22) rfl w.heap.size vp0.cs rfl rfl 34 vp0.cs HW.out.zer (VP.fit vp0) rfl (VP.one vp0) ?_; have HW5 := Lib.hid (HW.out.row vp0); generalize W2.setRow w.heap.size vp0.cs = W5 at HW5 ⊢; have q0 := HW5.out.flt.cell 0; have q1 := HW5.out.flt.cell 1; have p0 := HW5.out.flt.free 0; have p1 := HW5.out.flt.free 1; simp only [List.getElem?_toArray, List.getElem?_cons_zero, List.getElem?_cons_succ] at q0 q1)
  have HE := Lib.hid (HW5.out.set 6 9)
  exact bodyPost_ret (v := .tuple #[.agg vp0.cs, .agg #[.int .i64 6, .int .i64 9]]) (rvread_results _ rfl rfl HE.out) rfl ⟨by rw [HF.out], HE.out.lo⟩


set_option maxHeartbeats 8000000 in
theorem rvread_port (b o c : Nat) (bs : List Int) (w : World) (hs : Sl w b o bs) (hl : 36 ≤ bs.length) (hm : bs.length ≤ 1000) (hby : ∀ v ∈ bs, 0 ≤ v ∧ v ≤ 255) (hcap : bs.length ≤ c) (h17 : nm bs 9 1 = 17) (h47 : nm bs 22 2 ≠ 4789) :
    Calls Try.prog 21 #[.slice (some ⟨b, o, none⟩) bs.length c] w (VReads w bs) := by
  have hblt := cell_block (hs 0 (by omega))
  have hblt' : b < w.heap.size := hblt
  have HSl : Hid (∀ W, Below w.heap.size w W → Sl W b o bs) := Lib.hid (fun W hb j hj => (hb.cell (p := ⟨b, o + j, none⟩) hblt).trans (hs j hj))
  have h9 := hs 9 (by omega)
  have hb9 := hby bs[9] (List.getElem_mem _)
  have hn9 : nm bs 9 1 = bs[9] := nm_one (by omega)
  have HF : Hid (vread bs = (vp0, 6, 22)) := Lib.hid (by unfold vread; rw [if_neg (show ¬ bs.length < 36 by omega), if_neg (by rw [h17]; simp), if_pos h47])
  obtain ⟨n, hn⟩ : ∃ n, bs.length = n := ⟨_, rfl⟩
  obtain ⟨t22, ht22⟩ : ∃ t, nm bs 22 2 = t := ⟨_, rfl⟩
  have h9c : w.cell? ⟨b, o + 9, none⟩ = some (.int .u8 17) := by rw [h9, ← hn9, h17]
  have HC := Lib.hid h9c
  clear h9 h9c hb9
  have HT22 : Hid (∀ W, Below w.heap.size w W → Calls Try.prog 39 #[.slice (some ⟨b, o, none⟩) n c, .int .i64 22, .int .i64 2] W fun e w' => e = .returned (.int .u64 t22) ∧ W = w') := Lib.hid (fun W hb => by
    have h := rtake_any b o c n bs hn 22 2 (by decide) (by decide) (by omega) (by omega) hby W (HSl.out W hb)
    rw [ht22] at h
    exact h)
  rw [ht22] at h47
  have e2 : (t22 == 4789) = false := by simpa using h47
  rw [hn] at hl hcap ⊢
  have e1 : ¬ ((n : Int) < 36) := by omega
  have e3 : (9 : Int) < (n : Int) := by omega
  clear hs hby hn9 ht22 hn
  obtain ⟨W2, hW2⟩ : ∃ W2, ((w.alloc (.cells #[.int .u32 0, .int .u32 0, .int .i64 0, .int .i64 0, .int .u32 0, .int .u32 0, .int .u64 0, .int .u64 0, .int .i64 0, .int .i64 0, .int .u64 0, .int .u32 0, .int .u64 0, .int .u32 0, .int .u32 0, .int .u32 0, .int .i64 0, .int .i64 0, .int .i64 0, .int .i64 0, .int .u64 0] 34)).alloc (.cells #[.int .i64 0, .int .i64 0] 37)) = W2 := ⟨_, rfl⟩
  have HW : Hid (VRW w vp0 0 0 W2) := Lib.hid (hW2 ▸ VRW.start w)
  go_enter Try.func21, Try.ntmps21
  go_upto_region 1 with fail
  try rw [hW2]
  clear hW2
  have c9 := (HW.out.lo.cell (p := ⟨b, o + 9, none⟩) hblt').trans HC.out
  go_wp2_with fail
  refine (HT22.out _ HW.out.lo).mono ?_
  rintro e wt22 ⟨rfl, rfl⟩
  go_wp2_with (refine wpList_store_row rfl 34 (.tmp 2) (.tmp 28) rfl w.heap.size vp0.cs rfl rfl 34 vp0.cs HW.out.zer (VP.fit vp0) rfl (VP.one vp0) ?_; have HW5 := Lib.hid (HW.out.row vp0); generalize W2.setRow w.heap.size vp0.cs = W5 at HW5 ⊢; have q0 := HW5.out.flt.cell 0; have q1 := HW5.out.flt.cell 1; have p0 := HW5.out.flt.free 0; have p1 := HW5.out.flt.free 1; simp only [List.getElem?_toArray, List.getElem?_cons_zero, List.getElem?_cons_succ] at q0 q1)
  have HE := Lib.hid (HW5.out.set 6 22)
  exact bodyPost_ret (v := .tuple #[.agg vp0.cs, .agg #[.int .i64 6, .int .i64 22]]) (rvread_results _ rfl rfl HE.out) rfl ⟨by rw [HF.out], HE.out.lo⟩


end Go.Proofs.Ytgdfpmnbofnjfaa
