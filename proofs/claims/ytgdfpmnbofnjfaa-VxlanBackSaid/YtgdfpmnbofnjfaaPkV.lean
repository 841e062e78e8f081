/- Packets: decode; bytes compared; written by gen_pkv.py. -/
import Derived.Test.YtgdfpmnbofnjfaaPkU
namespace Go.Proofs.Ytgdfpmnbofnjfaa
open Go.RowKit Go.Shelf
set_option linter.unusedVariables false
set_option linter.unusedSimpArgs false
set_option maxRecDepth 100000

theorem ofnat_inj : ∀ (xs ys : List Int), (∀ v ∈ xs, 0 ≤ v ∧ v ≤ 255) → (∀ v ∈ ys, 0 ≤ v ∧ v ≤ 255) → (xs.map fun n => UInt8.ofNat n.toNat) = (ys.map fun n => UInt8.ofNat n.toNat) → xs = ys
  | [], [], _, _, _ => rfl
  | [], _ :: _, _, _, h => by simp at h
  | _ :: _, [], _, _, h => by simp at h
  | x :: xs, y :: ys, hx, hy, h => by
    rw [List.map_cons, List.map_cons] at h
    injection h with h1 h2
    have e : x = y := by
      have b1 := hx x (by simp)
      have b2 := hy y (by simp)
      have h3 := congrArg UInt8.toNat h1
      simp at h3
      omega
    rw [e, ofnat_inj xs ys (fun v hv => hx v (by simp [hv])) (fun v hv => hy v (by simp [hv])) h2]
theorem str_inj {xs ys : List Int} (hx : ∀ v ∈ xs, 0 ≤ v ∧ v ≤ 255) (hy : ∀ v ∈ ys, 0 ≤ v ∧ v ≤ 255) (h : strOfNums xs = strOfNums ys) : xs = ys :=
  ofnat_inj xs ys hx hy (by rw [← strOfNums_data, ← strOfNums_data, h])

theorem arr_string {w : World} {v : Value} {xs : List Int} (h : Arr w v xs) (hn : 0 < xs.length) : (convert 40 9 v).run Try.prog w = .ok (.string (strOfNums xs)) w := by
  rcases h with ⟨rfl, rfl⟩ | ⟨ad, c, rfl, hc⟩
  · simp at hn
  · obtain ⟨b, o, rfl, hs⟩ := hc.plain hn
    exact run_convert_bytes_arg w 40 5 Try.underlying40 Try.underlying5 b o xs.length c xs rfl (fun i hi => by
      rw [hs i hi]
      simp [List.getD, hi]) 9 Try.underlying9

theorem equal_any (v1 v2 : Value) (xs ys : List Int) (w : World) (h1 : Arr w v1 xs) (h2 : Arr w v2 ys) (n1 : 0 < xs.length) (n2 : 0 < ys.length) (hx : ∀ v ∈ xs, 0 ≤ v ∧ v ≤ 255) (hy : ∀ v ∈ ys, 0 ≤ v ∧ v ≤ 255) :
    Calls Try.prog 26 #[v1, v2] w fun e w' => e = .returned (.bool (decide (xs = ys))) ∧ w = w' := by
  have c1 := arr_string h1 n1
  have c2 := arr_string h2 n2
  have hb : ((strOfNums xs).toList == (strOfNums ys).toList) = decide (xs = ys) := by
    rw [ByteArray.toList_eq, ByteArray.toList_eq, strOfNums_data, strOfNums_data]
    by_cases h : xs = ys
    · rw [h]; simp
    · have h' : ¬ (xs.map fun n => UInt8.ofNat n.toNat) = (ys.map fun n => UInt8.ofNat n.toNat) := fun e => h (ofnat_inj xs ys hx hy e)
      rw [decide_eq_false h]
      exact beq_eq_false_iff_ne.2 h'
  obtain ⟨b, hbb⟩ : ∃ b, decide (xs = ys) = b := ⟨_, rfl⟩
  rw [hbb] at hb ⊢
  clear hbb
  obtain ⟨A1, k1, rfl⟩ := h1.form
  obtain ⟨A2, k2, rfl⟩ := h2.form
  clear h1 h2 hx hy n1 n2
  generalize strOfNums xs = s1 at *
  generalize strOfNums ys = s2 at *
  go_enter Try.func26, Try.ntmps26
  go_wp2
  go_ret
  exact ⟨rfl, rfl⟩

section
variable {P : Program} {ops : Array Oper} {o : Oper} {a : Act} {w : World} {K : Act → World → Prop} {Q : Exit → Act → World → Prop} {E : Prop}
theorem stepStoreRow (hgd : o.guard = none) (ty : TypeId) (x y : Operand) (ho : o.op = .store ty x y)
    (g : Nat) (cells : Array Value) (hx : a.eval x = .pointer (some ⟨g, 0, none⟩)) (hy : a.eval y = .agg cells)
    (t : TypeId) (old : Array Value) (hg : w.heap[g]? = some (.cells old t (0, 0))) (hi : (P.info? ty).map (·.size) = some cells.size)
    (hold : old.size = cells.size) (h1 : cells.all (·.oneCell') = true)
    (h : K (a.put o.dst undef) (w.setRow g cells)) : if Region.wanted o (yielded ops a.tmps) = true then Oper.wp P o a w K Q else E := by
  have hw : Region.wanted o (yielded ops a.tmps) = true := by simp [Region.wanted, hgd]
  rw [if_pos hw]
  exact wp_store_row ty x y ho g cells hx hy t old hg hi hold h1 h
end
theorem setRow_below {n g : Nat} {a w : World} {cs : Array Value} (h : Below n a w) (hg : n ≤ g) (hn : n ≤ w.heap.size) : Below n a (w.setRow g cs) := below_only h (Only.row _) hg hn
theorem fit50 : (Try.prog.info? 115).map (·.size) = some 50 := by kernel_rfl
theorem fit22 : (Try.prog.info? 117).map (·.size) = some 22 := by kernel_rfl
theorem arr50 (b o c : Nat) (w : World) : (Instr.arrayAt 115 (.slice (some ⟨b, o, none⟩) 50 c)).run Try.prog w = .ok (.pointer (some ⟨b, o, none⟩)) w := by kernel_rfl
theorem arr22 (b o c : Nat) (w : World) : (Instr.arrayAt 117 (.slice (some ⟨b, o, none⟩) 22 c)).run Try.prog w = .ok (.pointer (some ⟨b, o, none⟩)) w := by kernel_rfl
/-- The frame that the bytes say. -/
def dcP (bs : List Int) : FR := if cod bs = 2054 then dAF bs else if cod bs = 2048 then (if pd (nm bs 23 1) then dHtF bs else dHfF bs) else dDF bs

set_option maxHeartbeats 1000000 in
theorem dec_a (v : Value) (bs : List Int) (w : World) (hA : Arr w v bs) (hl : bs.length = 50) (hby : ∀ v ∈ bs, 0 ≤ v ∧ v ≤ 255) (hk : cod bs = 2054) :
    Calls Try.prog 67 #[v] w fun e w' => e = .returned (.agg (dcP bs).cs) ∧ Below w.heap.size w w' := by
  rcases hA with ⟨_, h⟩ | ⟨ad, c, rfl, h2⟩
  · rw [h] at hl; simp at hl
  obtain ⟨b, o, rfl, hs⟩ := h2.plain (by omega)
  have hA : Arr w (.slice (some ⟨b, o, none⟩) bs.length c) bs := .inr ⟨_, c, rfl, h2⟩
  have HS := Lib.hid hs
  have HLt := Lib.hid (cell_block (hs 0 (by omega)))
  have HC : Hid (∀ W, Below w.heap.size w W → Calls Try.prog 78 #[.slice (some ⟨b, o, none⟩) 50 c] W fun e w' => e = .returned (.int .i64 2054) ∧ Below W.heap.size W w') := Lib.hid (fun W hb => hk ▸ hl ▸ codeOf_any _ bs W (hA.below hb) (by omega) hby)
  have HD : Hid (∀ W, Calls Try.prog 80 #[.agg (u8s bs).toArray] W fun e w' => e = .returned (.agg (dAF bs).cs) ∧ Below W.heap.size W w') := Lib.hid (fun W => dA_any bs hl hby W)
  have HE : Hid (dAF bs = dcP bs) := Lib.hid (by unfold dcP; rw [if_pos hk])
  have HLen := Lib.hid hl
  rw [hl]
  clear hk hl hs h2 hA hby
  have HB0 : Hid (Below w.heap.size w (w.alloc (.cells #[.int .u64 0, .int .u64 0, .int .i64 0, .int .i64 0, .int .u64 0, .int .u32 0, .int .u64 0, .int .u32 0, .int .u32 0, .int .u32 0, .int .i64 0, .int .i64 0, .int .i64 0, .int .i64 0, .int .u64 0] 32))) := Lib.hid ((Below.refl _ w).alloc (Nat.le_refl _) _)
  have HZ0 : Hid (Has (w.alloc (.cells #[.int .u64 0, .int .u64 0, .int .i64 0, .int .i64 0, .int .u64 0, .int .u32 0, .int .u64 0, .int .u32 0, .int .u32 0, .int .u32 0, .int .i64 0, .int .i64 0, .int .i64 0, .int .i64 0, .int .u64 0] 32)) w.heap.size 32 fr0.cs) := Lib.hid (Has.new w _ _)
  go_enter Try.func67, Try.ntmps67
  go_wp2_with fail
  refine (HC.out _ HB0.out).mono ?_
  rintro e w1 ⟨rfl, hb⟩
  have HZ1 := Lib.hid (HZ0.out.below hb)
  have HB1 := Lib.hid (HB0.out.trans (hb.mono HB0.out.size))
  clear hb HZ0 HB0
  have HRg : Hid (w1.rangeAt b o (u8s bs)) := Lib.hid (fun j u hu => by
    have h9 := Sl.at_ (HS.out) j u hu
    rw [Addr.add_mid] at h9
    exact (HB1.out.cell (p := ⟨b, o + j, none⟩) HLt.out).trans h9)
  have HFt : Hid ((Try.prog.info? 115).map (·.size) = some (u8s bs).length) := Lib.hid (by rw [List.length_map, HLen.out]; exact fit50)
  have harr := arr50 b o c
  go_wp2_with (refine wpList_load_mid rfl 115 (.tmp 8) rfl b o rfl (u8s bs) _ HRg.out Try.underlying115 rfl HFt.out ?_)
  refine (HD.out _).mono ?_
  rintro e w2 ⟨rfl, hb⟩
  have HZ2 := Lib.hid (HZ1.out.below hb)
  have HB2 := Lib.hid (HB1.out.trans (hb.mono HB1.out.size))
  rw [HE.out]
  obtain ⟨x, hx⟩ : ∃ x, dcP bs = x := ⟨_, rfl⟩
  rw [hx]
  have HX := Lib.hid hx
  clear hb HZ1 HB1 hx
  go_wp2_with (refine wpList_store_row rfl 32 (.tmp 2) (.tmp 10) rfl w.heap.size x.cs rfl rfl 32 fr0.cs HZ2.out x.fit rfl x.one ?_)
  exact bodyPost_ret (v := .agg x.cs) (results_cell_row rfl _ _ w.heap.size 32 x.cs (0, 0) _ rfl (setRow_heap _ _ _ _ _ HZ2.out) Try.underlying32 rfl x.fit) rfl ⟨by rw [HX.out], setRow_below HB2.out (Nat.le_refl _) HB2.out.size⟩

set_option maxHeartbeats 1000000 in
theorem dec_d (v : Value) (bs : List Int) (w : World) (hA : Arr w v bs) (hl : bs.length = 22) (hby : ∀ v ∈ bs, 0 ≤ v ∧ v ≤ 255) (hk : cod bs = 34997) :
    Calls Try.prog 67 #[v] w fun e w' => e = .returned (.agg (dcP bs).cs) ∧ Below w.heap.size w w' := by
  rcases hA with ⟨_, h⟩ | ⟨ad, c, rfl, h2⟩
  · rw [h] at hl; simp at hl
  obtain ⟨b, o, rfl, hs⟩ := h2.plain (by omega)
  have hA : Arr w (.slice (some ⟨b, o, none⟩) bs.length c) bs := .inr ⟨_, c, rfl, h2⟩
  have HS := Lib.hid hs
  have HLt := Lib.hid (cell_block (hs 0 (by omega)))
  have HC : Hid (∀ W, Below w.heap.size w W → Calls Try.prog 78 #[.slice (some ⟨b, o, none⟩) 22 c] W fun e w' => e = .returned (.int .i64 34997) ∧ Below W.heap.size W w') := Lib.hid (fun W hb => hk ▸ hl ▸ codeOf_any _ bs W (hA.below hb) (by omega) hby)
  have HD : Hid (∀ W, Calls Try.prog 82 #[.agg (u8s bs).toArray] W fun e w' => e = .returned (.agg (dDF bs).cs) ∧ Below W.heap.size W w') := Lib.hid (fun W => dD_any bs hl hby W)
  have HE : Hid (dDF bs = dcP bs) := Lib.hid (by unfold dcP; rw [if_neg (by omega), if_neg (by omega)])
  have HLen := Lib.hid hl
  rw [hl]
  clear hk hl hs h2 hA hby
  have HB0 : Hid (Below w.heap.size w (w.alloc (.cells #[.int .u64 0, .int .u64 0, .int .i64 0, .int .i64 0, .int .u64 0, .int .u32 0, .int .u64 0, .int .u32 0, .int .u32 0, .int .u32 0, .int .i64 0, .int .i64 0, .int .i64 0, .int .i64 0, .int .u64 0] 32))) := Lib.hid ((Below.refl _ w).alloc (Nat.le_refl _) _)
  have HZ0 : Hid (Has (w.alloc (.cells #[.int .u64 0, .int .u64 0, .int .i64 0, .int .i64 0, .int .u64 0, .int .u32 0, .int .u64 0, .int .u32 0, .int .u32 0, .int .u32 0, .int .i64 0, .int .i64 0, .int .i64 0, .int .i64 0, .int .u64 0] 32)) w.heap.size 32 fr0.cs) := Lib.hid (Has.new w _ _)
  go_enter Try.func67, Try.ntmps67
  go_wp2_with fail
  refine (HC.out _ HB0.out).mono ?_
  rintro e w1 ⟨rfl, hb⟩
  have HZ1 := Lib.hid (HZ0.out.below hb)
  have HB1 := Lib.hid (HB0.out.trans (hb.mono HB0.out.size))
  clear hb HZ0 HB0
  have HRg : Hid (w1.rangeAt b o (u8s bs)) := Lib.hid (fun j u hu => by
    have h9 := Sl.at_ (HS.out) j u hu
    rw [Addr.add_mid] at h9
    exact (HB1.out.cell (p := ⟨b, o + j, none⟩) HLt.out).trans h9)
  have HFt : Hid ((Try.prog.info? 117).map (·.size) = some (u8s bs).length) := Lib.hid (by rw [List.length_map, HLen.out]; exact fit22)
  have harr := arr22 b o c
  go_wp2_with (refine wpList_load_mid rfl 117 (.tmp 16) rfl b o rfl (u8s bs) _ HRg.out Try.underlying117 rfl HFt.out ?_)
  refine (HD.out _).mono ?_
  rintro e w2 ⟨rfl, hb⟩
  have HZ2 := Lib.hid (HZ1.out.below hb)
  have HB2 := Lib.hid (HB1.out.trans (hb.mono HB1.out.size))
  rw [HE.out]
  obtain ⟨x, hx⟩ : ∃ x, dcP bs = x := ⟨_, rfl⟩
  rw [hx]
  have HX := Lib.hid hx
  clear hb HZ1 HB1 hx
  go_wp2_with (refine wpList_store_row rfl 32 (.tmp 2) (.tmp 18) rfl w.heap.size x.cs rfl rfl 32 fr0.cs HZ2.out x.fit rfl x.one ?_)
  exact bodyPost_ret (v := .agg x.cs) (results_cell_row rfl _ _ w.heap.size 32 x.cs (0, 0) _ rfl (setRow_heap _ _ _ _ _ HZ2.out) Try.underlying32 rfl x.fit) rfl ⟨by rw [HX.out], setRow_below HB2.out (Nat.le_refl _) HB2.out.size⟩

set_option maxHeartbeats 1000000 in
theorem dec_ht (v : Value) (bs : List Int) (w : World) (hA : Arr w v bs) (hl : bs.length = 50) (hby : ∀ v ∈ bs, 0 ≤ v ∧ v ≤ 255) (hk : cod bs = 2048) (hp : pd (nm bs 23 1) = true) :
    Calls Try.prog 67 #[v] w fun e w' => e = .returned (.agg (dcP bs).cs) ∧ Below w.heap.size w w' := by
  rcases hA with ⟨_, h⟩ | ⟨ad, c, rfl, h2⟩
  · rw [h] at hl; simp at hl
  obtain ⟨b, o, rfl, hs⟩ := h2.plain (by omega)
  have hA : Arr w (.slice (some ⟨b, o, none⟩) bs.length c) bs := .inr ⟨_, c, rfl, h2⟩
  have HS := Lib.hid hs
  have HLt := Lib.hid (cell_block (hs 0 (by omega)))
  have HC : Hid (∀ W, Below w.heap.size w W → Calls Try.prog 78 #[.slice (some ⟨b, o, none⟩) 50 c] W fun e w' => e = .returned (.int .i64 2048) ∧ Below W.heap.size W w') := Lib.hid (fun W hb => hk ▸ hl ▸ codeOf_any _ bs W (hA.below hb) (by omega) hby)
  have HD : Hid (∀ W, Below w.heap.size w W → Calls Try.prog 81 #[.slice (some ⟨b, o, none⟩) 50 c] W fun e w' => e = .returned (.agg (dHtF bs).cs) ∧ Below W.heap.size W w') := Lib.hid (fun W hb => hl ▸ dHt_any _ bs W (hA.below hb) hl hby hp)
  have HE : Hid (dHtF bs = dcP bs) := Lib.hid (by unfold dcP; rw [if_neg (by omega), if_pos hk, if_pos hp])
  have HLen := Lib.hid hl
  rw [hl]
  clear hk hl hs h2 hA hby hp
  have HB0 : Hid (Below w.heap.size w (w.alloc (.cells #[.int .u64 0, .int .u64 0, .int .i64 0, .int .i64 0, .int .u64 0, .int .u32 0, .int .u64 0, .int .u32 0, .int .u32 0, .int .u32 0, .int .i64 0, .int .i64 0, .int .i64 0, .int .i64 0, .int .u64 0] 32))) := Lib.hid ((Below.refl _ w).alloc (Nat.le_refl _) _)
  have HZ0 : Hid (Has (w.alloc (.cells #[.int .u64 0, .int .u64 0, .int .i64 0, .int .i64 0, .int .u64 0, .int .u32 0, .int .u64 0, .int .u32 0, .int .u32 0, .int .u32 0, .int .i64 0, .int .i64 0, .int .i64 0, .int .i64 0, .int .u64 0] 32)) w.heap.size 32 fr0.cs) := Lib.hid (Has.new w _ _)
  go_enter Try.func67, Try.ntmps67
  go_wp2_with fail
  refine (HC.out _ HB0.out).mono ?_
  rintro e w1 ⟨rfl, hb⟩
  have HZ1 := Lib.hid (HZ0.out.below hb)
  have HB1 := Lib.hid (HB0.out.trans (hb.mono HB0.out.size))
  clear hb HZ0 HB0
  go_wp2_with fail
  refine (HD.out _ HB1.out).mono ?_
  rintro e w2 ⟨rfl, hb⟩
  have HZ2 := Lib.hid (HZ1.out.below hb)
  have HB2 := Lib.hid (HB1.out.trans (hb.mono HB1.out.size))
  rw [HE.out]
  obtain ⟨x, hx⟩ : ∃ x, dcP bs = x := ⟨_, rfl⟩
  rw [hx]
  have HX := Lib.hid hx
  clear hb HZ1 HB1 hx
  go_wp2_with (refine wpList_store_row rfl 32 (.tmp 2) (.tmp 14) rfl w.heap.size x.cs rfl rfl 32 fr0.cs HZ2.out x.fit rfl x.one ?_)
  exact bodyPost_ret (v := .agg x.cs) (results_cell_row rfl _ _ w.heap.size 32 x.cs (0, 0) _ rfl (setRow_heap _ _ _ _ _ HZ2.out) Try.underlying32 rfl x.fit) rfl ⟨by rw [HX.out], setRow_below HB2.out (Nat.le_refl _) HB2.out.size⟩

set_option maxHeartbeats 1000000 in
theorem dec_hf (v : Value) (bs : List Int) (w : World) (hA : Arr w v bs) (hl : bs.length = 42) (hby : ∀ v ∈ bs, 0 ≤ v ∧ v ≤ 255) (hk : cod bs = 2048) (hp : pd (nm bs 23 1) = false) :
    Calls Try.prog 67 #[v] w fun e w' => e = .returned (.agg (dcP bs).cs) ∧ Below w.heap.size w w' := by
  rcases hA with ⟨_, h⟩ | ⟨ad, c, rfl, h2⟩
  · rw [h] at hl; simp at hl
  obtain ⟨b, o, rfl, hs⟩ := h2.plain (by omega)
  have hA : Arr w (.slice (some ⟨b, o, none⟩) bs.length c) bs := .inr ⟨_, c, rfl, h2⟩
  have HS := Lib.hid hs
  have HLt := Lib.hid (cell_block (hs 0 (by omega)))
  have HC : Hid (∀ W, Below w.heap.size w W → Calls Try.prog 78 #[.slice (some ⟨b, o, none⟩) 42 c] W fun e w' => e = .returned (.int .i64 2048) ∧ Below W.heap.size W w') := Lib.hid (fun W hb => hk ▸ hl ▸ codeOf_any _ bs W (hA.below hb) (by omega) hby)
  have HD : Hid (∀ W, Below w.heap.size w W → Calls Try.prog 81 #[.slice (some ⟨b, o, none⟩) 42 c] W fun e w' => e = .returned (.agg (dHfF bs).cs) ∧ Below W.heap.size W w') := Lib.hid (fun W hb => hl ▸ dHf_any _ bs W (hA.below hb) hl hby hp)
  have HE : Hid (dHfF bs = dcP bs) := Lib.hid (by unfold dcP; rw [if_neg (by omega), if_pos hk, if_neg (by rw [hp]; decide)])
  have HLen := Lib.hid hl
  rw [hl]
  clear hk hl hs h2 hA hby hp
  have HB0 : Hid (Below w.heap.size w (w.alloc (.cells #[.int .u64 0, .int .u64 0, .int .i64 0, .int .i64 0, .int .u64 0, .int .u32 0, .int .u64 0, .int .u32 0, .int .u32 0, .int .u32 0, .int .i64 0, .int .i64 0, .int .i64 0, .int .i64 0, .int .u64 0] 32))) := Lib.hid ((Below.refl _ w).alloc (Nat.le_refl _) _)
  have HZ0 : Hid (Has (w.alloc (.cells #[.int .u64 0, .int .u64 0, .int .i64 0, .int .i64 0, .int .u64 0, .int .u32 0, .int .u64 0, .int .u32 0, .int .u32 0, .int .u32 0, .int .i64 0, .int .i64 0, .int .i64 0, .int .i64 0, .int .u64 0] 32)) w.heap.size 32 fr0.cs) := Lib.hid (Has.new w _ _)
  go_enter Try.func67, Try.ntmps67
  go_wp2_with fail
  refine (HC.out _ HB0.out).mono ?_
  rintro e w1 ⟨rfl, hb⟩
  have HZ1 := Lib.hid (HZ0.out.below hb)
  have HB1 := Lib.hid (HB0.out.trans (hb.mono HB0.out.size))
  clear hb HZ0 HB0
  go_wp2_with fail
  refine (HD.out _ HB1.out).mono ?_
  rintro e w2 ⟨rfl, hb⟩
  have HZ2 := Lib.hid (HZ1.out.below hb)
  have HB2 := Lib.hid (HB1.out.trans (hb.mono HB1.out.size))
  rw [HE.out]
  obtain ⟨x, hx⟩ : ∃ x, dcP bs = x := ⟨_, rfl⟩
  rw [hx]
  have HX := Lib.hid hx
  clear hb HZ1 HB1 hx
  go_wp2_with (refine wpList_store_row rfl 32 (.tmp 2) (.tmp 14) rfl w.heap.size x.cs rfl rfl 32 fr0.cs HZ2.out x.fit rfl x.one ?_)
  exact bodyPost_ret (v := .agg x.cs) (results_cell_row rfl _ _ w.heap.size 32 x.cs (0, 0) _ rfl (setRow_heap _ _ _ _ _ HZ2.out) Try.underlying32 rfl x.fit) rfl ⟨by rw [HX.out], setRow_below HB2.out (Nat.le_refl _) HB2.out.size⟩

end Go.Proofs.Ytgdfpmnbofnjfaa
