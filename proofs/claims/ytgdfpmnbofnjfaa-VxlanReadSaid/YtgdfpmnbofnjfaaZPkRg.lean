/- Packets: the document's Read; written by gen_pkr5.py. -/
import Derived.Test.YtgdfpmnbofnjfaaZPkR5
namespace Go.Proofs.Ytgdfpmnbofnjfaa
open Go.RowKit Go.Shelf
set_option linter.unusedVariables false
set_option linter.unusedSimpArgs false
set_option maxRecDepth 100000

set_option maxHeartbeats 8000000 in
theorem rread_g (b o c : Nat) (bs : List Int) (w : World) (hs : Sl w b o bs) (hl : 14 ≤ bs.length) (hm : bs.length ≤ 1000) (hby : ∀ v ∈ bs, 0 ≤ v ∧ v ≤ 255) (hk : cod bs = 2048) (h34 : bs.length < 34) :
    Calls Try.prog 40 #[.slice (some ⟨b, o, none⟩) bs.length c] w (ReadsTo w bs) := by
  have hblt := cell_block (hs 0 (by omega))
  have hblt' : b < w.heap.size := hblt
  have HSl : Hid (∀ W, Below w.heap.size w W → Sl W b o bs) := Lib.hid (fun W hb j hj => (hb.cell (p := ⟨b, o + j, none⟩) hblt).trans (hs j hj))
  have hsz : szP bs = (0, 4, (bs.length : Int)) := by unfold szP; rw [if_neg (show ¬ bs.length < 14 by omega), if_neg (by omega), if_neg (by omega), if_pos hk, if_pos h34]
  obtain ⟨n, hn⟩ : ∃ n, bs.length = n := ⟨_, rfl⟩
  obtain ⟨t0, ht0⟩ : ∃ t, nm bs 0 6 = t := ⟨_, rfl⟩
  obtain ⟨t6, ht6⟩ : ∃ t, nm bs 6 6 = t := ⟨_, rfl⟩
  have HT0 : Hid (∀ W, Below w.heap.size w W → Calls Try.prog 39 #[.slice (some ⟨b, o, none⟩) n c, .int .i64 0, .int .i64 6] W fun e w' => e = .returned (.int .u64 t0) ∧ W = w') := Lib.hid (fun W hb => by
    have h := rtake_any b o c n bs hn 0 6 (by decide) (by decide) (by omega) (by omega) hby W (HSl.out W hb)
    rw [ht0] at h
    exact h)
  have HT6 : Hid (∀ W, Below w.heap.size w W → Calls Try.prog 39 #[.slice (some ⟨b, o, none⟩) n c, .int .i64 6, .int .i64 6] W fun e w' => e = .returned (.int .u64 t6) ∧ W = w') := Lib.hid (fun W hb => by
    have h := rtake_any b o c n bs hn 6 6 (by decide) (by decide) (by omega) (by omega) hby W (HSl.out W hb)
    rw [ht6] at h
    exact h)
  have HT12 : Hid (∀ W, Below w.heap.size w W → Calls Try.prog 39 #[.slice (some ⟨b, o, none⟩) n c, .int .i64 12, .int .i64 2] W fun e w' => e = .returned (.int .u64 2048) ∧ W = w') := Lib.hid (fun W hb => by
    have h := rtake_any b o c n bs hn 12 2 (by decide) (by decide) (by omega) (by omega) hby W (HSl.out W hb)
    rw [show nm bs 12 2 = 2048 from hk] at h
    exact h)
  have HF : Hid (fread bs = (fr0, 4, (n : Int))) := Lib.hid (by unfold fread; rw [hsz, if_pos (show (4 : Int) ≠ 0 by decide), hn])
  rw [hn] at hl h34 ⊢
  have e1 : ¬ ((n : Int) < 14) := by omega
  have e2 : (n : Int) < 42 := by omega
  have e3 : decide ((34 : Int) ≤ (n : Int)) = false := decide_eq_false (by omega)
  clear hn ht0 ht6 hs hby hsz hk
  obtain ⟨W2, hW2⟩ : ∃ W2, ((w.alloc (.cells #[.int .u64 0, .int .u64 0, .int .i64 0, .int .i64 0, .int .u64 0, .int .u32 0, .int .u64 0, .int .u32 0, .int .u32 0, .int .u32 0, .int .i64 0, .int .i64 0, .int .i64 0, .int .i64 0, .int .u64 0] 32)).alloc (.cells #[.int .i64 0, .int .i64 0] 37)) = W2 := ⟨_, rfl⟩
  have HW : Hid (RW w fr0 0 0 W2) := Lib.hid (hW2 ▸ RW.start w)
  have HB2 : Hid (Below w.heap.size w W2) := Lib.hid HW.out.lo
  have HB3 : Hid (∀ ob, Below w.heap.size w (W2.alloc ob)) := Lib.hid (fun ob => HB2.out.alloc HB2.out.size ob)
  go_enter Try.func40, Try.ntmps40
  go_upto_region 1 with fail
  try rw [hW2]
  clear hW2
  have HW3 : Hid (RW w fr0 0 0 (W2.alloc (.cells #[.int .u64 t6, .int .u64 t0, .int .i64 2, .int .i64 0, .int .u64 0, .int .u32 0, .int .u64 0, .int .u32 0, .int .u32 0, .int .u32 0, .int .i64 0, .int .i64 0, .int .i64 0, .int .i64 0, .int .u64 0] 32))) := Lib.hid (HW.out.below ((Below.refl _ W2).alloc (Nat.le_refl _) _))
  go_wp2_with fail
  refine (HT0.out _ (HB2.out)).mono ?_
  rintro e wt0 ⟨rfl, rfl⟩
  go_wp2_with fail
  refine (HT6.out _ (HB2.out)).mono ?_
  rintro e wt6 ⟨rfl, rfl⟩
  go_wp2_with fail
  refine (HT12.out _ (HB3.out _)).mono ?_
  rintro e wt12 ⟨rfl, rfl⟩
  go_wp2_with (refine wpList_store_row rfl 32 (.tmp 2) (.tmp 46) rfl w.heap.size fr0.cs rfl rfl 32 fr0.cs HW3.out.zer (FR.fit fr0) rfl (FR.one fr0) ?_; have HW5 := Lib.hid (HW3.out.row fr0); generalize (W2.alloc (.cells #[.int .u64 t6, .int .u64 t0, .int .i64 2, .int .i64 0, .int .u64 0, .int .u32 0, .int .u64 0, .int .u32 0, .int .u32 0, .int .u32 0, .int .i64 0, .int .i64 0, .int .i64 0, .int .i64 0, .int .u64 0] 32)).setRow w.heap.size fr0.cs = W5 at HW5 ⊢; have q0 := HW5.out.flt.cell 0; have q1 := HW5.out.flt.cell 1; have p0 := HW5.out.flt.free 0; have p1 := HW5.out.flt.free 1; simp only [List.getElem?_toArray, List.getElem?_cons_zero, List.getElem?_cons_succ] at q0 q1)
  have HE := Lib.hid (HW5.out.set 4 (n : Int))
  exact bodyPost_ret (v := .tuple #[.agg fr0.cs, .agg #[.int .i64 4, .int .i64 n]]) (rread_results _ rfl rfl HE.out) rfl ⟨by rw [HF.out], HE.out.lo⟩

end Go.Proofs.Ytgdfpmnbofnjfaa
