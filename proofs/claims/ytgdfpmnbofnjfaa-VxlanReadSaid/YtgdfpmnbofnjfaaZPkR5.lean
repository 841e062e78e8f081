/- Packets: the document's Read; written by gen_pkr5.py. -/
import Derived.Test.YtgdfpmnbofnjfaaZPq
import Derived.Test.YtgdfpmnbofnjfaaZPl
namespace Go.Proofs.Ytgdfpmnbofnjfaa
open Go.RowKit Go.Shelf
set_option linter.unusedVariables false
set_option linter.unusedSimpArgs false
set_option maxRecDepth 100000

theorem rread_results {w W : World} {x : FR} {er i : Int} (tmps : Array Value) (h2 : tmps[2]?.getD undef = .pointer (some ⟨w.heap.size, 0, none⟩)) (h3 : tmps[3]?.getD undef = .pointer (some ⟨w.heap.size + 1, 0, none⟩)) (q : RW w x er i W) :
    (results Try.f40 tmps).run Try.prog W = .ok (.tuple #[.agg x.cs, .agg #[.int .i64 er, .int .i64 i]]) W := by
  have hl := run_loadVar_row W w.heap.size 32 32 x.cs (0, 0) _ q.zer Try.underlying32 rfl x.fit
  have hl2 := run_loadVar_row W (w.heap.size + 1) 37 37 #[.int .i64 er, .int .i64 i] (0, 0) _ q.flt Try.underlying37 rfl ft_fit
  simp [results, Try.f40, asAddr, Result.andThen, h2, h3, hl, hl2]

set_option maxHeartbeats 2000000 in
theorem rread_s14 (A : Option Addr) (c : Nat) (bs : List Int) (w : World) (hl : bs.length < 14) :
    Calls Try.prog 40 #[.slice A bs.length c] w (ReadsTo w bs) := by
  obtain ⟨n, hn⟩ : ∃ n, bs.length = n := ⟨_, rfl⟩
  have HF : Hid (fread bs = (fr0, 4, (n : Int))) := Lib.hid (by unfold fread szP; rw [if_pos hl, if_pos (show (4 : Int) ≠ 0 by decide), hn])
  rw [hn] at hl ⊢
  clear hn
  have e1 : (n : Int) < 14 := by omega
  obtain ⟨W2, hW2⟩ : ∃ W2, ((w.alloc (.cells #[.int .u64 0, .int .u64 0, .int .i64 0, .int .i64 0, .int .u64 0, .int .u32 0, .int .u64 0, .int .u32 0, .int .u32 0, .int .u32 0, .int .i64 0, .int .i64 0, .int .i64 0, .int .i64 0, .int .u64 0] 32)).alloc (.cells #[.int .i64 0, .int .i64 0] 37)) = W2 := ⟨_, rfl⟩
  have HW : Hid (RW w fr0 0 0 W2) := Lib.hid (hW2 ▸ RW.start w)
  have HB2 : Hid (Below w.heap.size w W2) := Lib.hid HW.out.lo
  have HB3 : Hid (∀ ob, Below w.heap.size w (W2.alloc ob)) := Lib.hid (fun ob => HB2.out.alloc HB2.out.size ob)
  go_enter Try.func40, Try.ntmps40
  go_upto_region 1 with fail
  try rw [hW2]
  clear hW2
  go_wp2_with (refine wpList_store_row rfl 32 (.tmp 2) (.tmp 11) rfl w.heap.size fr0.cs rfl rfl 32 fr0.cs HW.out.zer (FR.fit fr0) rfl (FR.one fr0) ?_; have HW5 := Lib.hid (HW.out.row fr0); generalize W2.setRow w.heap.size fr0.cs = W5 at HW5 ⊢; have q0 := HW5.out.flt.cell 0; have q1 := HW5.out.flt.cell 1; have p0 := HW5.out.flt.free 0; have p1 := HW5.out.flt.free 1; simp only [List.getElem?_toArray, List.getElem?_cons_zero, List.getElem?_cons_succ] at q0 q1)
  have HE := Lib.hid (HW5.out.set 4 (n : Int))
  exact bodyPost_ret (v := .tuple #[.agg fr0.cs, .agg #[.int .i64 4, .int .i64 n]]) (rread_results _ rfl rfl HE.out) rfl ⟨by rw [HF.out], HE.out.lo⟩

set_option maxHeartbeats 8000000 in
theorem rread_none (b o c : Nat) (bs : List Int) (w : World) (hs : Sl w b o bs) (hl : 14 ≤ bs.length) (hm : bs.length ≤ 1000) (hby : ∀ v ∈ bs, 0 ≤ v ∧ v ≤ 255) (hk : cod bs ≠ 34997 ∧ cod bs ≠ 2054 ∧ cod bs ≠ 2048) :
    Calls Try.prog 40 #[.slice (some ⟨b, o, none⟩) bs.length c] w (ReadsTo w bs) := by
  have hblt := cell_block (hs 0 (by omega))
  have hblt' : b < w.heap.size := hblt
  have HSl : Hid (∀ W, Below w.heap.size w W → Sl W b o bs) := Lib.hid (fun W hb j hj => (hb.cell (p := ⟨b, o + j, none⟩) hblt).trans (hs j hj))
  obtain ⟨n, hn⟩ : ∃ n, bs.length = n := ⟨_, rfl⟩
  have hsz : szP bs = (0, 6, 12) := by unfold szP; rw [if_neg (show ¬ bs.length < 14 by omega), if_neg hk.1, if_neg hk.2.1, if_neg hk.2.2]
  have HF : Hid (fread bs = (fr0, 6, 12)) := Lib.hid (by unfold fread; rw [hsz, if_pos (show (6 : Int) ≠ 0 by decide)])
  clear hsz
  obtain ⟨t0, ht0⟩ : ∃ t, nm bs 0 6 = t := ⟨_, rfl⟩
  obtain ⟨t6, ht6⟩ : ∃ t, nm bs 6 6 = t := ⟨_, rfl⟩
  obtain ⟨t12, ht12⟩ : ∃ t, nm bs 12 2 = t := ⟨_, rfl⟩
  have HT0 : Hid (∀ W, Below w.heap.size w W → Calls Try.prog 39 #[.slice (some ⟨b, o, none⟩) n c, .int .i64 0, .int .i64 6] W fun e w' => e = .returned (.int .u64 t0) ∧ W = w') := Lib.hid (fun W hb => by
    have h := rtake_any b o c n bs hn 0 6 (by decide) (by decide) (by omega) (by omega) hby W (HSl.out W hb)
    rw [ht0] at h
    exact h)
  have HT6 : Hid (∀ W, Below w.heap.size w W → Calls Try.prog 39 #[.slice (some ⟨b, o, none⟩) n c, .int .i64 6, .int .i64 6] W fun e w' => e = .returned (.int .u64 t6) ∧ W = w') := Lib.hid (fun W hb => by
    have h := rtake_any b o c n bs hn 6 6 (by decide) (by decide) (by omega) (by omega) hby W (HSl.out W hb)
    rw [ht6] at h
    exact h)
  have HT12 : Hid (∀ W, Below w.heap.size w W → Calls Try.prog 39 #[.slice (some ⟨b, o, none⟩) n c, .int .i64 12, .int .i64 2] W fun e w' => e = .returned (.int .u64 t12) ∧ W = w') := Lib.hid (fun W hb => by
    have h := rtake_any b o c n bs hn 12 2 (by decide) (by decide) (by omega) (by omega) hby W (HSl.out W hb)
    rw [ht12] at h
    exact h)
  unfold cod at hk
  rw [ht12] at hk
  obtain ⟨k1, k2, k3⟩ := hk
  rw [hn] at hl ⊢
  have e1 : ¬ ((n : Int) < 14) := by omega
  have e2 : (t12 == 34997) = false := by simpa using k1
  have e3 : (t12 == 2054) = false := by simpa using k2
  have e4 : (t12 == 2048) = false := by simpa using k3
  clear hn ht0 ht6 ht12 k1 k2 k3 hs hby
  obtain ⟨W2, hW2⟩ : ∃ W2, ((w.alloc (.cells #[.int .u64 0, .int .u64 0, .int .i64 0, .int .i64 0, .int .u64 0, .int .u32 0, .int .u64 0, .int .u32 0, .int .u32 0, .int .u32 0, .int .i64 0, .int .i64 0, .int .i64 0, .int .i64 0, .int .u64 0] 32)).alloc (.cells #[.int .i64 0, .int .i64 0] 37)) = W2 := ⟨_, rfl⟩
  have HW : Hid (RW w fr0 0 0 W2) := Lib.hid (hW2 ▸ RW.start w)
  have HB2 : Hid (Below w.heap.size w W2) := Lib.hid HW.out.lo
  have HB3 : Hid (∀ ob, Below w.heap.size w (W2.alloc ob)) := Lib.hid (fun ob => HB2.out.alloc HB2.out.size ob)
  go_enter Try.func40, Try.ntmps40
  go_upto_region 1 with fail
  try rw [hW2]
  clear hW2
  have HW3 : Hid (RW w fr0 0 0 (W2.alloc (.cells #[.int .u64 t6, .int .u64 t0, .int .i64 0, .int .i64 0, .int .u64 0, .int .u32 0, .int .u64 0, .int .u32 0, .int .u32 0, .int .u32 0, .int .i64 0, .int .i64 0, .int .i64 0, .int .i64 0, .int .u64 0] 32))) := Lib.hid (HW.out.below ((Below.refl _ W2).alloc (Nat.le_refl _) _))
  go_wp2_with fail
  refine (HT0.out _ (HB2.out)).mono ?_
  rintro e wt0 ⟨rfl, rfl⟩
  go_wp2_with fail
  refine (HT6.out _ (HB2.out)).mono ?_
  rintro e wt6 ⟨rfl, rfl⟩
  go_wp2_with fail
  refine (HT12.out _ (HB3.out _)).mono ?_
  rintro e wt12 ⟨rfl, rfl⟩
  go_wp2_with (refine wpList_store_row rfl 32 (.tmp 2) (.tmp 22) rfl w.heap.size fr0.cs rfl rfl 32 fr0.cs HW3.out.zer (FR.fit fr0) rfl (FR.one fr0) ?_; have HW5 := Lib.hid (HW3.out.row fr0); generalize (W2.alloc (.cells #[.int .u64 t6, .int .u64 t0, .int .i64 0, .int .i64 0, .int .u64 0, .int .u32 0, .int .u64 0, .int .u32 0, .int .u32 0, .int .u32 0, .int .i64 0, .int .i64 0, .int .i64 0, .int .i64 0, .int .u64 0] 32)).setRow w.heap.size fr0.cs = W5 at HW5 ⊢; have q0 := HW5.out.flt.cell 0; have q1 := HW5.out.flt.cell 1; have p0 := HW5.out.flt.free 0; have p1 := HW5.out.flt.free 1; simp only [List.getElem?_toArray, List.getElem?_cons_zero, List.getElem?_cons_succ] at q0 q1)
  have HE := Lib.hid (HW5.out.set 6 12)
  exact bodyPost_ret (v := .tuple #[.agg fr0.cs, .agg #[.int .i64 6, .int .i64 12]]) (rread_results _ rfl rfl HE.out) rfl ⟨by rw [HF.out], HE.out.lo⟩

end Go.Proofs.Ytgdfpmnbofnjfaa
