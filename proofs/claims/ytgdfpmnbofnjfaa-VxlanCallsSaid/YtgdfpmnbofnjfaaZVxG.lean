/- The flow of a frame, and its entropy; written by gen_vxg.py. -/
import Derived.Test.YtgdfpmnbofnjfaaZVxF
namespace Go.Proofs.Ytgdfpmnbofnjfaa
open Go.RowKit Go.Shelf
set_option linter.unusedVariables false
set_option linter.unusedSimpArgs false
set_option maxRecDepth 100000

theorem and_low48 (s : Int) (h0 : 0 ≤ s) (h1 : s < 18446744073709551616) : bits BinOp.and .u64 s 281474976710655 = s % 281474976710656 := by
  obtain ⟨m, rfl⟩ := Int.eq_ofNat_of_zero_le h0
  have e1 : BitVec.ofInt 64 (m : Int) = BitVec.ofNat 64 m := by apply BitVec.eq_of_toNat_eq; simp
  have e2 : BitVec.ofInt 64 281474976710655 = BitVec.ofNat 64 281474976710655 := by rfl
  have e3 : (BitVec.ofNat 64 m &&& BitVec.ofNat 64 281474976710655).toNat = m % 281474976710656 := by
    rw [BitVec.toNat_and, BitVec.toNat_ofNat, BitVec.toNat_ofNat, Nat.mod_eq_of_lt (by omega), Nat.mod_eq_of_lt (by omega)]
    exact Nat.and_two_pow_sub_one_eq_mod m 48
  show IntKind.u64.wrap ((BitVec.ofInt 64 (m : Int) &&& BitVec.ofInt 64 281474976710655).toNat : Int) = _
  rw [e1, e2, e3]
  have e4 : IntKind.u64.wrap ((m % 281474976710656 : Nat) : Int) = ((m % 281474976710656 : Nat) : Int) % 18446744073709551616 := by rfl
  rw [e4]
  omega
/-- The bytes of a frame's flow. -/
def flowP (x : FR) : List Int := if x.k = 2 then be x.hs 4 ++ be x.hd 4 ++ be (x.pr % 256) 1 ++ be (x.sp % 65536) 2 ++ be (x.dp % 65536) 2 else be (x.s % 281474976710656) 6 ++ be (x.d % 281474976710656) 6 ++ be (x.k % 256) 1
theorem flow_len (x : FR) : (flowP x).length = 13 := by
  unfold flowP
  split <;> simp [be_length]
theorem flow_byte (x : FR) : ∀ v ∈ flowP x, 0 ≤ v ∧ v ≤ 255 := by
  intro v hv
  unfold flowP at hv
  split at hv <;> simp only [List.mem_append] at hv
  · rcases hv with (((h | h) | h) | h) | h <;> exact be_byte _ _ _ h
  · rcases hv with (h | h) | h <;> exact be_byte _ _ _ h
def ent (x : FR) : Int := 49152 + fnv (flowP x) % 16384
theorem ent_bd (x : FR) : 49152 ≤ ent x ∧ ent x ≤ 65535 := by
  have := (fnv_bd (flowP x)).1
  unfold ent
  omega

set_option maxHeartbeats 2000000 in
theorem flow_ip (x : FR) (hx : x.ty) (hk : x.k = 2) (w : World) :
    Calls Try.prog 38 #[.agg x.cs] w fun e w' => e = .returned (.string (strOfNums (flowP x))) ∧ Below w.heap.size w w' := by
  obtain ⟨hs0, hs1⟩ := hx.s
  obtain ⟨hd0, hd1⟩ := hx.d
  obtain ⟨hhs0, hhs1⟩ := hx.hs
  obtain ⟨hhd0, hhd1⟩ := hx.hd
  obtain ⟨p8, hp8⟩ : ∃ p, IntKind.u8.wrap x.pr = p := ⟨_, rfl⟩
  obtain ⟨s16, hs16⟩ : ∃ p, IntKind.u16.wrap x.sp = p := ⟨_, rfl⟩
  obtain ⟨d16, hd16⟩ : ∃ p, IntKind.u16.wrap x.dp = p := ⟨_, rfl⟩
  have f8 : x.pr % 256 = p8 := hp8
  have g16 : x.sp % 65536 = s16 := hs16
  have h16 : x.dp % 65536 = d16 := hd16
  have hp0 : 0 ≤ p8 ∧ p8 < 256 := by omega
  have hsp0 : 0 ≤ s16 ∧ s16 < 65536 := by omega
  have hdp0 : 0 ≤ d16 ∧ d16 < 65536 := by omega
  obtain ⟨hp0, hp1⟩ := hp0
  obtain ⟨hsp0, hsp1⟩ := hsp0
  obtain ⟨hdp0, hdp1⟩ := hdp0
  have HFl : Hid (be x.hs 4 ++ be x.hd 4 ++ be p8 1 ++ be s16 2 ++ be d16 2 = flowP x) := Lib.hid (by unfold flowP; rw [if_pos hk, f8, g16, h16])
  have HK := Lib.hid hk
  clear f8 g16 h16 hk
  obtain ⟨st, hst⟩ : ∃ st, strOfNums (flowP x) = st := ⟨_, rfl⟩
  rw [hst]
  have HSt : Hid (strOfNums (be x.hs 4 ++ be x.hd 4 ++ be p8 1 ++ be s16 2 ++ be d16 2) = st) := Lib.hid (by rw [HFl.out]; exact hst)
  clear hx hst
  unfold FR.cs
  go_enter Try.func38, Try.ntmps38
  obtain ⟨W0, hW0⟩ : ∃ W0, w.alloc (.cells #[.int .u64 x.s, .int .u64 x.d, .int .i64 x.k, .int .i64 x.op, .int .u64 x.sm, .int .u32 x.si, .int .u64 x.tm, .int .u32 x.ti, .int .u32 x.hs, .int .u32 x.hd, .int .i64 x.tl, .int .i64 x.pr, .int .i64 x.sp, .int .i64 x.dp, .int .u64 x.da] 32) = W0 := ⟨_, rfl⟩
  have HB0 : Hid (Has W0 w.heap.size 32 #[.int .u64 x.s, .int .u64 x.d, .int .i64 x.k, .int .i64 x.op, .int .u64 x.sm, .int .u32 x.si, .int .u64 x.tm, .int .u32 x.ti, .int .u32 x.hs, .int .u32 x.hd, .int .i64 x.tl, .int .i64 x.pr, .int .i64 x.sp, .int .i64 x.dp, .int .u64 x.da]) := Lib.hid (hW0 ▸ Has.new _ _ _)
  have HL0 : Hid (Below w.heap.size w W0) := Lib.hid (hW0 ▸ (Below.refl _ w).alloc (Nat.le_refl _) _)
  go_upto_region 1 with fail
  try rw [hW0]
  clear hW0
  go_wp2_with fail
  refine (wnewL 13 (by omega) _).mono ?_
  rintro e w8 ⟨g, l8, rfl, hwr, hk8, hb8⟩
  obtain ⟨s, hs⟩ : ∃ s : WS, (⟨13, [], []⟩ : WS) = s := ⟨_, rfl⟩
  have HLim : Hid (s.lim = 13 ∧ s.out = []) := Lib.hid (by rw [← hs]; exact ⟨rfl, rfl⟩)
  rw [hs, ← WS.add_nil s] at hwr
  have HW := Lib.hid (PB.mk (w := w) (l0 := []) (B := w.heap.size) hwr (HB0.out.below hb8) (fun hk => by have := hk8 _ hk; have := HB0.out.lt; omega) ⟨(turn_below (HL0.out.trans (hb8.mono HL0.out.size)) []), fun k hk => .inr (by have := hk8 k hk; have := HL0.out.size; omega)⟩)
  clear hwr hk8 hb8 hs HB0 HL0
  have c2 := HW.out.box.cell 2
  have c8 := HW.out.box.cell 8
  simp only [List.getElem?_toArray, List.getElem?_cons_zero, List.getElem?_cons_succ] at c2 c8
  rw [HK.out] at c2
  go_wp2_with fail
  refine (fit4 g _ s ([]) _ HW.out.wr x.hs (by omega) (by omega) (by simp [be_length, HLim.out.1, HLim.out.2]; try omega)).mono ?_
  rintro e0 w0 ⟨rfl, l0, hw, hn⟩
  have HV := Lib.hid (HW.out.step hw hn)
  clear hw hn HW c2 c8
  have HW := HV
  clear HV
  have c9 := HW.out.box.cell 9
  simp only [List.getElem?_toArray, List.getElem?_cons_zero, List.getElem?_cons_succ] at c9
  go_wp2_with fail
  refine (fit4 g _ s (be x.hs 4) _ HW.out.wr x.hd (by omega) (by omega) (by simp [be_length, HLim.out.1, HLim.out.2]; try omega)).mono ?_
  rintro e1 w1 ⟨rfl, l1, hw, hn⟩
  have HV := Lib.hid (HW.out.step hw hn)
  clear hw hn HW c9
  have HW := HV
  clear HV
  have c11 := HW.out.box.cell 11
  simp only [List.getElem?_toArray, List.getElem?_cons_zero, List.getElem?_cons_succ] at c11
  go_wp2_with fail
  refine (fit1 g _ s (be x.hs 4 ++ be x.hd 4) _ HW.out.wr p8 (by omega) (by omega) (by simp [be_length, HLim.out.1, HLim.out.2]; try omega)).mono ?_
  rintro e2 w2 ⟨rfl, l2, hw, hn⟩
  have HV := Lib.hid (HW.out.step hw hn)
  clear hw hn HW c11
  have HW := HV
  clear HV
  have c12 := HW.out.box.cell 12
  simp only [List.getElem?_toArray, List.getElem?_cons_zero, List.getElem?_cons_succ] at c12
  go_wp2_with fail
  refine (fit2 g _ s (be x.hs 4 ++ be x.hd 4 ++ be p8 1) _ HW.out.wr s16 (by omega) (by omega) (by simp [be_length, HLim.out.1, HLim.out.2]; try omega)).mono ?_
  rintro e3 w3 ⟨rfl, l3, hw, hn⟩
  have HV := Lib.hid (HW.out.step hw hn)
  clear hw hn HW c12
  have HW := HV
  clear HV
  have c13 := HW.out.box.cell 13
  simp only [List.getElem?_toArray, List.getElem?_cons_zero, List.getElem?_cons_succ] at c13
  go_wp2_with fail
  refine (fit2 g _ s (be x.hs 4 ++ be x.hd 4 ++ be p8 1 ++ be s16 2) _ HW.out.wr d16 (by omega) (by omega) (by simp [be_length, HLim.out.1, HLim.out.2]; try omega)).mono ?_
  rintro e4 w4 ⟨rfl, l4, hw, hn⟩
  have HV := Lib.hid (HW.out.step hw hn)
  clear hw hn HW c13
  have HW := HV
  clear HV
  go_wp2_with fail
  refine (woutL g _ _ _ HW.out.wr).mono ?_
  rintro e w10 ⟨⟨v, rfl, hv⟩, hb10⟩
  rw [WS.add_out, HLim.out.2, List.nil_append] at hv
  have hconv := copied_string hv
  rw [HSt.out] at hconv
  have HBl : Hid (Below w.heap.size w w10) := Lib.hid ((HW.out.nx.below (by simp) (Nat.le_refl _)).1.trans (hb10.mono (HW.out.nx.below (by simp) (Nat.le_refl _)).1.size))
  clear hv hb10 HW
  go_wp2_with fail
  go_ret
  exact ⟨rfl, HBl.out⟩

set_option maxHeartbeats 2000000 in
theorem flow_no (x : FR) (hx : x.ty) (hk : x.k ≠ 2) (w : World) :
    Calls Try.prog 38 #[.agg x.cs] w fun e w' => e = .returned (.string (strOfNums (flowP x))) ∧ Below w.heap.size w w' := by
  obtain ⟨hs0, hs1⟩ := hx.s
  obtain ⟨hd0, hd1⟩ := hx.d
  obtain ⟨hhs0, hhs1⟩ := hx.hs
  obtain ⟨hhd0, hhd1⟩ := hx.hd
  obtain ⟨k8, hk8⟩ : ∃ p, IntKind.u8.wrap x.k = p := ⟨_, rfl⟩
  obtain ⟨sa, hsa⟩ : ∃ p, x.s % 281474976710656 = p := ⟨_, rfl⟩
  obtain ⟨da, hda⟩ : ∃ p, x.d % 281474976710656 = p := ⟨_, rfl⟩
  have hans := and_low48 x.s hs0 hs1
  have hand := and_low48 x.d hd0 hd1
  rw [hsa] at hans
  rw [hda] at hand
  have f8 : x.k % 256 = k8 := hk8
  have hp0 : 0 ≤ k8 ∧ k8 < 256 := by omega
  have hsp0 : 0 ≤ sa ∧ sa < 281474976710656 := by omega
  have hdp0 : 0 ≤ da ∧ da < 281474976710656 := by omega
  obtain ⟨hp0, hp1⟩ := hp0
  obtain ⟨hsp0, hsp1⟩ := hsp0
  obtain ⟨hdp0, hdp1⟩ := hdp0
  have HFl : Hid (be sa 6 ++ be da 6 ++ be k8 1 = flowP x) := Lib.hid (by unfold flowP; rw [if_neg hk, f8, hsa, hda])
  have hne : (x.k == 2) = false := by simpa using hk
  clear f8 hk hsa hda
  obtain ⟨st, hst⟩ : ∃ st, strOfNums (flowP x) = st := ⟨_, rfl⟩
  rw [hst]
  have HSt : Hid (strOfNums (be sa 6 ++ be da 6 ++ be k8 1) = st) := Lib.hid (by rw [HFl.out]; exact hst)
  clear hx hst
  unfold FR.cs
  go_enter Try.func38, Try.ntmps38
  obtain ⟨W0, hW0⟩ : ∃ W0, w.alloc (.cells #[.int .u64 x.s, .int .u64 x.d, .int .i64 x.k, .int .i64 x.op, .int .u64 x.sm, .int .u32 x.si, .int .u64 x.tm, .int .u32 x.ti, .int .u32 x.hs, .int .u32 x.hd, .int .i64 x.tl, .int .i64 x.pr, .int .i64 x.sp, .int .i64 x.dp, .int .u64 x.da] 32) = W0 := ⟨_, rfl⟩
  have HB0 : Hid (Has W0 w.heap.size 32 #[.int .u64 x.s, .int .u64 x.d, .int .i64 x.k, .int .i64 x.op, .int .u64 x.sm, .int .u32 x.si, .int .u64 x.tm, .int .u32 x.ti, .int .u32 x.hs, .int .u32 x.hd, .int .i64 x.tl, .int .i64 x.pr, .int .i64 x.sp, .int .i64 x.dp, .int .u64 x.da]) := Lib.hid (hW0 ▸ Has.new _ _ _)
  have HL0 : Hid (Below w.heap.size w W0) := Lib.hid (hW0 ▸ (Below.refl _ w).alloc (Nat.le_refl _) _)
  go_upto_region 1 with fail
  try rw [hW0]
  clear hW0
  go_wp2_with fail
  refine (wnewL 13 (by omega) _).mono ?_
  rintro e w8 ⟨g, l8, rfl, hwr, hk8, hb8⟩
  obtain ⟨s, hs⟩ : ∃ s : WS, (⟨13, [], []⟩ : WS) = s := ⟨_, rfl⟩
  have HLim : Hid (s.lim = 13 ∧ s.out = []) := Lib.hid (by rw [← hs]; exact ⟨rfl, rfl⟩)
  rw [hs, ← WS.add_nil s] at hwr
  have HW := Lib.hid (PB.mk (w := w) (l0 := []) (B := w.heap.size) hwr (HB0.out.below hb8) (fun hk => by have := hk8 _ hk; have := HB0.out.lt; omega) ⟨(turn_below (HL0.out.trans (hb8.mono HL0.out.size)) []), fun k hk => .inr (by have := hk8 k hk; have := HL0.out.size; omega)⟩)
  clear hwr hk8 hb8 hs HB0 HL0
  have c2 := HW.out.box.cell 2
  have c0 := HW.out.box.cell 0
  simp only [List.getElem?_toArray, List.getElem?_cons_zero, List.getElem?_cons_succ] at c2 c0
  go_wp2_with fail
  refine (fit6 g _ s ([]) _ HW.out.wr sa (by omega) (by omega) (by simp [be_length, HLim.out.1, HLim.out.2]; try omega)).mono ?_
  rintro e0 w0 ⟨rfl, l0, hw, hn⟩
  have HV := Lib.hid (HW.out.step hw hn)
  clear hw hn HW c2 c0
  have HW := HV
  clear HV
  have c1 := HW.out.box.cell 1
  simp only [List.getElem?_toArray, List.getElem?_cons_zero, List.getElem?_cons_succ] at c1
  go_wp2_with fail
  refine (fit6 g _ s (be sa 6) _ HW.out.wr da (by omega) (by omega) (by simp [be_length, HLim.out.1, HLim.out.2]; try omega)).mono ?_
  rintro e1 w1 ⟨rfl, l1, hw, hn⟩
  have HV := Lib.hid (HW.out.step hw hn)
  clear hw hn HW c1
  have HW := HV
  clear HV
  have c2 := HW.out.box.cell 2
  simp only [List.getElem?_toArray, List.getElem?_cons_zero, List.getElem?_cons_succ] at c2
  go_wp2_with fail
  refine (fit1 g _ s (be sa 6 ++ be da 6) _ HW.out.wr k8 (by omega) (by omega) (by simp [be_length, HLim.out.1, HLim.out.2]; try omega)).mono ?_
  rintro e2 w2 ⟨rfl, l2, hw, hn⟩
  have HV := Lib.hid (HW.out.step hw hn)
  clear hw hn HW c2
  have HW := HV
  clear HV
  go_wp2_with fail
  refine (woutL g _ _ _ HW.out.wr).mono ?_
  rintro e w10 ⟨⟨v, rfl, hv⟩, hb10⟩
  rw [WS.add_out, HLim.out.2, List.nil_append] at hv
  have hconv := copied_string hv
  rw [HSt.out] at hconv
  have HBl : Hid (Below w.heap.size w w10) := Lib.hid ((HW.out.nx.below (by simp) (Nat.le_refl _)).1.trans (hb10.mono (HW.out.nx.below (by simp) (Nat.le_refl _)).1.size))
  clear hv hb10 HW
  go_wp2_with fail
  go_ret
  exact ⟨rfl, HBl.out⟩

theorem flow_any (x : FR) (hx : x.ty) (w : World) :
    Calls Try.prog 38 #[.agg x.cs] w fun e w' => e = .returned (.string (strOfNums (flowP x))) ∧ Below w.heap.size w w' := by
  by_cases hk : x.k = 2
  · exact flow_ip x hx hk w
  · exact flow_no x hx hk w
theorem str_nums {xs : List Int} (hx : ∀ v ∈ xs, 0 ≤ v ∧ v ≤ 255) : (strOfNums xs).data.toList.map (fun c => (c.toNat : Int)) = xs := by
  rw [strOfNums_data, List.map_map]
  have h : ∀ v ∈ xs, ((fun c : UInt8 => (c.toNat : Int)) ∘ fun n : Int => UInt8.ofNat n.toNat) v = v := fun v hv => by
    have := hx v hv
    simp
    omega
  rw [List.map_congr_left h]
  simp

set_option maxHeartbeats 1000000 in
theorem entropy_any (x : FR) (hx : x.ty) (w : World) : Calls Try.prog 19 #[.agg x.cs] w fun e w' => e = .returned (.int .i64 (ent x)) ∧ Below w.heap.size w w' := by
  have HFl : Hid (∀ W : World, Calls Try.prog 38 #[.agg x.cs] W fun e w' => e = .returned (.string (strOfNums (flowP x))) ∧ Below W.heap.size W w') := Lib.hid (flow_any x hx)
  have HHs : Hid (∀ W : World, Calls Try.prog 37 #[.string (strOfNums (flowP x))] W fun e w' => e = .returned (.int .u32 (fnv (flowP x))) ∧ W = w') := Lib.hid (fun W => hash_s _ (flowP x) (str_nums (flow_byte x)) (by rw [flow_len]; decide) W)
  obtain ⟨hf0, hf1⟩ := fnv_bd (flowP x)
  unfold ent
  generalize strOfNums (flowP x) = st at *
  obtain ⟨h, hh⟩ : ∃ h, fnv (flowP x) = h := ⟨_, rfl⟩
  rw [hh] at hf0 hf1 HHs ⊢
  have hw1 : IntKind.i64.wrap (h % 16384) = h % 16384 := IntWalk.i64_in _ (by omega)
  have hm0 : 0 ≤ h % 16384 := by omega
  have hm1 : h % 16384 < 16384 := by omega
  clear hh hx
  have HX : Hid (Has (w.alloc (.cells x.cs 32)) w.heap.size 32 x.cs) := Lib.hid (Has.new _ _ _)
  have HB : Hid (Below w.heap.size w (w.alloc (.cells x.cs 32))) := Lib.hid ((Below.refl _ w).alloc (Nat.le_refl _) _)
  go_enter Try.func19, Try.ntmps19
  go_wp2_with (refine wpList_load_row rfl 32 (.tmp 1) rfl w.heap.size rfl 32 x.cs (0, 0) _ HX.out Try.underlying32 rfl x.fit ?_)
  refine (HFl.out _).mono ?_
  rintro e w1 ⟨rfl, hb⟩
  have HB1 := Lib.hid (HB.out.trans (hb.mono HB.out.size))
  clear hb HB HX
  go_wp2_with fail
  refine (HHs.out _).mono ?_
  rintro e w2 ⟨rfl, rfl⟩
  go_wp2_with fail
  go_ret
  exact ⟨rfl, HB1.out⟩

end Go.Proofs.Ytgdfpmnbofnjfaa
