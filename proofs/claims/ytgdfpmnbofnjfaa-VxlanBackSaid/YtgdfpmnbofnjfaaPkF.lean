/- Packets: Bytes. -/
import Derived.Test.YtgdfpmnbofnjfaaPkE
namespace Go.Proofs.Ytgdfpmnbofnjfaa
open Go.RowKit Go.Shelf
set_option linter.unusedVariables false
set_option linter.unusedSimpArgs false
set_option maxRecDepth 100000


/-- The type, the part and the whole of an encoded frame. -/
def fcode (k : Int) : Int := if k = 1 then 2054 else if k = 2 then 2048 else 34997
def fbody (x : FR) : List Int := if x.k = 1 then bodyA x else if x.k = 2 then bodyH x else []
def fenc (x : FR) : List Int := be x.d 6 ++ be x.s 6 ++ be (fcode x.k) 2 ++ fbody x ++ be x.da 8

theorem bodyH_len (x : FR) : (bodyH x).length ≤ 28 := by
  unfold bodyH
  split <;> simp [be_length, hdrS, hdr_len]

theorem big_no {n : Int} (h : ¬ big n = true) : n ≤ 281474976710655 := by
  unfold big at h
  simp at h
  exact h
theorem wi_le {n m : Int} (h : wi n m = true) : 0 ≤ n ∧ n ≤ m := by
  unfold wi at h
  simpa using h
theorem fchk_zero {x : FR} (h : fchk x = 0) : x.s ≤ 281474976710655 ∧ x.d ≤ 281474976710655 ∧ mc x.s = false ∧ perr x = 0 ∧ (x.k = 1 → ackA x = 0) ∧ (x.k = 2 → ackH x = 0) := by
  unfold fchk at h
  split at h
  · omega
  rename_i h1
  split at h
  · omega
  rename_i h2
  split at h
  · contradiction
  rename_i h3
  refine ⟨big_no (fun h => h1 (.inl h)), big_no (fun h => h1 (.inr h)), by simpa using h2, by simpa using h3, fun hk => ?_, fun hk => ?_⟩
  · rw [if_pos hk] at h; exact h
  · rw [if_neg (by omega), if_pos hk] at h; exact h
theorem FR.ty.okA {x : FR} (hx : x.ty) (h : ackA x = 0) : x.okA := by
  unfold ackA at h
  split at h
  · omega
  split at h
  · omega
  split at h
  · omega
  rename_i h1 h2 h3
  exact ⟨by omega, ⟨hx.sm.1, big_no h2⟩, hx.si, ⟨hx.tm.1, big_no h3⟩, hx.ti⟩
theorem ackH_zero {x : FR} (h : ackH x = 0) : (wi x.tl 255 = true ∧ wi x.pr 255 = true ∧ wi x.sp 65535 = true ∧ wi x.dp 65535 = true) ∧ (pd x.pr = false → x.sp = 0 ∧ x.dp = 0) := by
  unfold ackH at h
  split at h
  · omega
  split at h
  · omega
  rename_i h1 h2
  refine ⟨by simpa [and_assoc] using h1, fun hp => ?_⟩
  by_cases h3 : x.sp = 0 ∧ x.dp = 0
  · exact h3
  · exact absurd ⟨hp, by omega⟩ h2
theorem FR.ty.okH {x : FR} (hx : x.ty) (h : ackH x = 0) : x.okH := by
  obtain ⟨⟨h1, h2, h3, h4⟩, _⟩ := ackH_zero h
  exact ⟨hx.hs, hx.hd, wi_le h1, wi_le h2, wi_le h3, wi_le h4⟩

/-- What Bytes returns for a valid frame. -/
def Enc (w : World) (x : FR) (e : Ending) (w' : World) : Prop := ∃ b c, e = .returned (.tuple #[.slice (some ⟨b, 0, none⟩) (fenc x).length c, .int .i64 0]) ∧ Row w' b c (fenc x) ∧ w.heap.size ≤ b ∧ Below w.heap.size w w'

set_option maxHeartbeats 2000000 in
theorem bytes_no (x : FR) (hx : x.ty) (hc : fchk x ≠ 0) (w : World) :
    Calls Try.prog 27 #[.agg x.cs] w fun e w' => e = .returned (.tuple #[.slice none 0 0, .int .i64 (fchk x)]) ∧ Below w.heap.size w w' := by
  have HChk : Hid (∀ W : World, Calls Try.prog 31 #[.agg #[.int .u64 x.s, .int .u64 x.d, .int .i64 x.k, .int .i64 x.op, .int .u64 x.sm, .int .u32 x.si, .int .u64 x.tm, .int .u32 x.ti, .int .u32 x.hs, .int .u32 x.hd, .int .i64 x.tl, .int .i64 x.pr, .int .i64 x.sp, .int .i64 x.dp, .int .u64 x.da]] W fun e w' => e = .returned (.int .i64 (fchk x)) ∧ Below W.heap.size W w') := Lib.hid (fun W => check_any x hx W)
  obtain ⟨er, her⟩ : ∃ er, fchk x = er := ⟨_, rfl⟩
  have HE := Lib.hid her
  rw [her] at hc ⊢
  have hne : (er != 0) = true := by simpa using hc
  have HB : Hid (∀ o, Below w.heap.size w (w.alloc o)) := Lib.hid (fun o => (Below.refl _ w).alloc (Nat.le_refl _) _)
  clear her hc hx
  unfold FR.cs
  go_enter Try.func27, Try.ntmps27
  go_wp2_with (first | (go_at_call 31; refine (HChk.out _).mono ?_; rintro e w1 ⟨rfl, hb⟩; rw [HE.out]; have HB1 := Lib.hid hb; clear hb))
  go_ret2
  exact ⟨rfl, (HB.out _).trans (HB1.out.mono (HB.out _).size)⟩

theorem code_d (w : World) : Calls Try.prog 113 #[.agg #[]] w fun e w' => e = .returned (.int .u64 34997) ∧ Below w.heap.size w w' := by
  go_enter Try.func113, Try.ntmps113
  go_wp2
  go_ret
  exact ⟨rfl, (Below.refl _ w).alloc (Nat.le_refl _) _⟩
theorem code_a (x : FR) (w : World) : Calls Try.prog 116 #[.agg x.ac] w fun e w' => e = .returned (.int .u64 2054) ∧ Below w.heap.size w w' := by
  unfold FR.ac
  go_enter Try.func116, Try.ntmps116
  go_wp2
  go_ret
  exact ⟨rfl, (Below.refl _ w).alloc (Nat.le_refl _) _⟩
theorem code_h (x : FR) (w : World) : Calls Try.prog 120 #[.agg x.hc] w fun e w' => e = .returned (.int .u64 2048) ∧ Below w.heap.size w w' := by
  unfold FR.hc
  go_enter Try.func120, Try.ntmps120
  go_wp2
  go_ret
  exact ⟨rfl, (Below.refl _ w).alloc (Nat.le_refl _) _⟩
theorem dwrite_l (g : Nat) (l : List Nat) (s : WS) (L : List Int) (w : World) (H : WrL w l g (s.add L)) :
    Calls Try.prog 114 #[.agg #[], .pointer (some ⟨g, 0, none⟩)] w fun e w' => e = .returned (.tuple #[]) ∧ ∃ l', WrL w' l' g (s.add (L ++ [])) ∧ Next w l w' l' := by
  refine (dwrite g l _ w H).mono ?_
  rintro e w' ⟨rfl, l', h1, h2⟩
  refine ⟨rfl, l', ?_, h2⟩
  rw [List.append_nil]
  rwa [WS.add_nil] at h1

theorem meth_code_d (n : Nat) (w : World) : (method (n + 1) 104 (.agg #[]) "leafmesh/packet.code").run Try.prog w = .ok (113, (.agg #[])) w := by kernel_rfl
theorem meth_write_d (n : Nat) (w : World) : (method (n + 1) 104 (.agg #[]) "leafmesh/packet.write").run Try.prog w = .ok (114, (.agg #[])) w := by kernel_rfl
theorem meth_code_a (x : FR) (n : Nat) (w : World) : (method (n + 1) 105 (.agg x.ac) "leafmesh/packet.code").run Try.prog w = .ok (116, (.agg x.ac)) w := by kernel_rfl
theorem meth_write_a (x : FR) (n : Nat) (w : World) : (method (n + 1) 105 (.agg x.ac) "leafmesh/packet.write").run Try.prog w = .ok (117, (.agg x.ac)) w := by kernel_rfl
theorem meth_code_h (x : FR) (n : Nat) (w : World) : (method (n + 1) 106 (.agg x.hc) "leafmesh/packet.code").run Try.prog w = .ok (120, (.agg x.hc)) w := by kernel_rfl
theorem meth_write_h (x : FR) (n : Nat) (w : World) : (method (n + 1) 106 (.agg x.hc) "leafmesh/packet.write").run Try.prog w = .ok (121, (.agg x.hc)) w := by kernel_rfl
set_option maxHeartbeats 4000000 in
theorem bytes_0 (x : FR) (hx : x.ty) (hc : fchk x = 0) (hk : x.k = 0) (w : World) : Calls Try.prog 27 #[.agg x.cs] w (Enc w x) := by
  have HChk : Hid (∀ W : World, Calls Try.prog 31 #[.agg #[.int .u64 x.s, .int .u64 x.d, .int .i64 x.k, .int .i64 x.op, .int .u64 x.sm, .int .u32 x.si, .int .u64 x.tm, .int .u32 x.ti, .int .u32 x.hs, .int .u32 x.hd, .int .i64 x.tl, .int .i64 x.pr, .int .i64 x.sp, .int .i64 x.dp, .int .u64 x.da]] W fun e w' => e = .returned (.int .i64 0) ∧ Below W.heap.size W w') := Lib.hid (fun W => hc ▸ check_any x hx W)
  obtain ⟨hs1, hd1, _, hpe, h1, h2⟩ := fchk_zero hc
  have HPart : Hid (∀ W : World, Calls Try.prog 50 #[.agg #[.int .u64 x.s, .int .u64 x.d, .int .i64 x.k, .int .i64 x.op, .int .u64 x.sm, .int .u32 x.si, .int .u64 x.tm, .int .u32 x.ti, .int .u32 x.hs, .int .u32 x.hd, .int .i64 x.tl, .int .i64 x.pr, .int .i64 x.sp, .int .i64 x.dp, .int .u64 x.da]] W fun e w' => e = .returned (.tuple #[.iface 104 (.agg #[]), .int .i64 0]) ∧ Below W.heap.size W w') := Lib.hid (fun W => (part_any x W).mono fun e w' ⟨he, hb⟩ => ⟨by
    rw [he, if_pos hpe, hpe]
    unfold prt
    rw [if_pos hk], hb⟩)
  have HFin : Hid (be x.d 6 ++ be x.s 6 ++ be 34997 2 ++ [] ++ be x.da 8 = fenc x) := Lib.hid (by unfold fenc fcode fbody; rw [hk]; rfl)
  have HLen : Hid ((fenc x).length ≤ 50) := Lib.hid (by rw [← HFin.out]; simp [be_length])
  have hs0 := hx.s.1
  have hd0 := hx.d.1
  obtain ⟨hda0, hda1⟩ := hx.da
  have hme := meth_code_d
  have hmw := meth_write_d
  clear hx hc hpe h1 h2 hk
  unfold FR.cs
  go_enter Try.func27, Try.ntmps27
  obtain ⟨W0, hW0⟩ : ∃ W0, w.alloc (.cells #[.int .u64 x.s, .int .u64 x.d, .int .i64 x.k, .int .i64 x.op, .int .u64 x.sm, .int .u32 x.si, .int .u64 x.tm, .int .u32 x.ti, .int .u32 x.hs, .int .u32 x.hd, .int .i64 x.tl, .int .i64 x.pr, .int .i64 x.sp, .int .i64 x.dp, .int .u64 x.da] 32) = W0 := ⟨_, rfl⟩
  have HB0 : Hid (Has W0 w.heap.size 32 #[.int .u64 x.s, .int .u64 x.d, .int .i64 x.k, .int .i64 x.op, .int .u64 x.sm, .int .u32 x.si, .int .u64 x.tm, .int .u32 x.ti, .int .u32 x.hs, .int .u32 x.hd, .int .i64 x.tl, .int .i64 x.pr, .int .i64 x.sp, .int .i64 x.dp, .int .u64 x.da]) := Lib.hid (hW0 ▸ Has.new _ _ _)
  have HL0 : Hid (Below w.heap.size w W0) := Lib.hid (hW0 ▸ (Below.refl _ w).alloc (Nat.le_refl _) _)
  go_upto_region 1 with fail
  try rw [hW0]
  clear hW0
  have c0 := HB0.out.cell 0
  have c1 := HB0.out.cell 1
  have c2 := HB0.out.cell 2
  have c3 := HB0.out.cell 3
  have c4 := HB0.out.cell 4
  have c5 := HB0.out.cell 5
  have c6 := HB0.out.cell 6
  have c7 := HB0.out.cell 7
  have c8 := HB0.out.cell 8
  have c9 := HB0.out.cell 9
  have c10 := HB0.out.cell 10
  have c11 := HB0.out.cell 11
  have c12 := HB0.out.cell 12
  have c13 := HB0.out.cell 13
  have c14 := HB0.out.cell 14
  simp only [List.getElem?_toArray, List.getElem?_cons_zero, List.getElem?_cons_succ] at c0 c1 c2 c3 c4 c5 c6 c7 c8 c9 c10 c11 c12 c13 c14
  go_wp2_with fail
  refine (HChk.out _).mono ?_
  rintro e w1 ⟨rfl, hb1⟩
  have HB1 := Lib.hid (HB0.out.below hb1)
  have HL1 := Lib.hid (HL0.out.trans (hb1.mono HL0.out.size))
  clear hb1 HB0 HL0 c0 c1 c2 c3 c4 c5 c6 c7 c8 c9 c10 c11 c12 c13 c14
  have c0 := HB1.out.cell 0
  have c1 := HB1.out.cell 1
  have c2 := HB1.out.cell 2
  have c3 := HB1.out.cell 3
  have c4 := HB1.out.cell 4
  have c5 := HB1.out.cell 5
  have c6 := HB1.out.cell 6
  have c7 := HB1.out.cell 7
  have c8 := HB1.out.cell 8
  have c9 := HB1.out.cell 9
  have c10 := HB1.out.cell 10
  have c11 := HB1.out.cell 11
  have c12 := HB1.out.cell 12
  have c13 := HB1.out.cell 13
  have c14 := HB1.out.cell 14
  simp only [List.getElem?_toArray, List.getElem?_cons_zero, List.getElem?_cons_succ] at c0 c1 c2 c3 c4 c5 c6 c7 c8 c9 c10 c11 c12 c13 c14
  go_wp2_with fail
  refine (HPart.out _).mono ?_
  rintro e w2 ⟨rfl, hb2⟩
  have HB2 := Lib.hid (HB1.out.below hb2)
  have HL2 := Lib.hid (HL1.out.trans (hb2.mono HL1.out.size))
  clear hb2 HB1 HL1 c0 c1 c2 c3 c4 c5 c6 c7 c8 c9 c10 c11 c12 c13 c14
  go_wp2_with fail
  refine (wnewL 50 (by omega) _).mono ?_
  rintro e w8 ⟨g, l8, rfl, hwr, hk8, hb8⟩
  obtain ⟨s, hs⟩ : ∃ s : WS, (⟨50, [], []⟩ : WS) = s := ⟨_, rfl⟩
  have HLim : Hid (s.lim = 50 ∧ s.out = []) := Lib.hid (by rw [← hs]; exact ⟨rfl, rfl⟩)
  rw [hs, ← WS.add_nil s] at hwr
  have HW := Lib.hid (PB.mk (w := w) (l0 := []) (B := w.heap.size) hwr (HB2.out.below hb8) (fun hk => by have := hk8 _ hk; have := HB2.out.lt; omega) ⟨(turn_below (HL2.out.trans (hb8.mono HL2.out.size)) []), fun k hk => .inr (by have := hk8 k hk; have := HL2.out.size; omega)⟩)
  clear hwr hk8 hb8 hs HB2 HL2
  have c20 := HW.out.box.cell 1
  simp only [List.getElem?_toArray, List.getElem?_cons_zero, List.getElem?_cons_succ] at c20
  go_wp2_with fail
  refine (fit6 g _ s ([]) _ HW.out.wr x.d (by omega) (by omega) (by simp [be_length, HLim.out.1, HLim.out.2]; try omega)).mono ?_
  rintro e20 w20 ⟨rfl, l20, hw, hn⟩
  have HV := Lib.hid (HW.out.step hw hn)
  clear hw hn HW c20
  have HW := HV
  clear HV
  have c21 := HW.out.box.cell 0
  simp only [List.getElem?_toArray, List.getElem?_cons_zero, List.getElem?_cons_succ] at c21
  go_wp2_with fail
  refine (fit6 g _ s (be x.d 6) _ HW.out.wr x.s (by omega) (by omega) (by simp [be_length, HLim.out.1, HLim.out.2]; try omega)).mono ?_
  rintro e21 w21 ⟨rfl, l21, hw, hn⟩
  have HV := Lib.hid (HW.out.step hw hn)
  clear hw hn HW c21
  have HW := HV
  clear HV
  go_wp2_with fail
  refine (code_d _).mono ?_
  rintro e w22 ⟨rfl, hb⟩
  have HV := Lib.hid (HW.out.below hb)
  clear hb HW
  have HW := HV
  clear HV
  go_wp2_with fail
  refine (fit2 g _ s (be x.d 6 ++ be x.s 6) _ HW.out.wr 34997 (by omega) (by omega) (by simp [be_length, HLim.out.1, HLim.out.2]; try omega)).mono ?_
  rintro e23 w23 ⟨rfl, l23, hw, hn⟩
  have HV := Lib.hid (HW.out.step hw hn)
  clear hw hn HW
  have HW := HV
  clear HV
  go_wp2_with fail
  refine (dwrite_l g _ s (be x.d 6 ++ be x.s 6 ++ be 34997 2) _ HW.out.wr).mono ?_
  rintro e w24 ⟨rfl, l24, hw, hn⟩
  have HV := Lib.hid (HW.out.step hw hn)
  clear hw hn HW
  have HW := HV
  clear HV
  have c25 := HW.out.box.cell 14
  simp only [List.getElem?_toArray, List.getElem?_cons_zero, List.getElem?_cons_succ] at c25
  go_wp2_with fail
  refine (fit8 g _ s (be x.d 6 ++ be x.s 6 ++ be 34997 2 ++ []) _ HW.out.wr x.da (by omega) (by omega) (by simp [be_length, HLim.out.1, HLim.out.2]; try omega)).mono ?_
  rintro e25 w25 ⟨rfl, l25, hw, hn⟩
  have HV := Lib.hid (HW.out.step hw hn)
  clear hw hn HW c25
  have HW := HV
  clear HV
  go_wp2_with fail
  refine (woutL g _ _ _ HW.out.wr).mono ?_
  rintro e w10 ⟨⟨v, rfl, hv⟩, hb10⟩
  rw [WS.add_out, HLim.out.2, List.nil_append, HFin.out] at hv
  have hb : Below w.heap.size w w10 := (HW.out.nx.below (by simp) (Nat.le_refl _)).1.trans (hb10.mono (HW.out.nx.below (by simp) (Nat.le_refl _)).1.size)
  have hsz := (HW.out.nx.below (by simp) (Nat.le_refl _)).1.size
  rcases hv with ⟨rfl, h⟩ | ⟨h', c', rfl, h2, h3⟩
  · exact absurd (congrArg List.length h) (by rw [← HFin.out]; simp [be_length]; try omega)
  have HE : Hid (Row w10 h' c' (fenc x) ∧ w.heap.size ≤ h' ∧ Below w.heap.size w w10) := Lib.hid ⟨h2, by omega, hb⟩
  clear h2 h3 hb hb10 HW hsz
  go_wp2_with fail
  go_ret2
  exact ⟨h', c', rfl, HE.out⟩

set_option maxHeartbeats 4000000 in
theorem bytes_1 (x : FR) (hx : x.ty) (hc : fchk x = 0) (hk : x.k = 1) (w : World) : Calls Try.prog 27 #[.agg x.cs] w (Enc w x) := by
  have HChk : Hid (∀ W : World, Calls Try.prog 31 #[.agg #[.int .u64 x.s, .int .u64 x.d, .int .i64 x.k, .int .i64 x.op, .int .u64 x.sm, .int .u32 x.si, .int .u64 x.tm, .int .u32 x.ti, .int .u32 x.hs, .int .u32 x.hd, .int .i64 x.tl, .int .i64 x.pr, .int .i64 x.sp, .int .i64 x.dp, .int .u64 x.da]] W fun e w' => e = .returned (.int .i64 0) ∧ Below W.heap.size W w') := Lib.hid (fun W => hc ▸ check_any x hx W)
  obtain ⟨hs1, hd1, _, hpe, h1, h2⟩ := fchk_zero hc
  have HPart : Hid (∀ W : World, Calls Try.prog 50 #[.agg #[.int .u64 x.s, .int .u64 x.d, .int .i64 x.k, .int .i64 x.op, .int .u64 x.sm, .int .u32 x.si, .int .u64 x.tm, .int .u32 x.ti, .int .u32 x.hs, .int .u32 x.hd, .int .i64 x.tl, .int .i64 x.pr, .int .i64 x.sp, .int .i64 x.dp, .int .u64 x.da]] W fun e w' => e = .returned (.tuple #[.iface 105 (.agg x.ac), .int .i64 0]) ∧ Below W.heap.size W w') := Lib.hid (fun W => (part_any x W).mono fun e w' ⟨he, hb⟩ => ⟨by
    rw [he, if_pos hpe, hpe]
    unfold prt
    rw [if_neg (by omega), if_pos hk], hb⟩)
  have HOk : Hid x.okA := Lib.hid (hx.okA (h1 hk))
  have HFin : Hid (be x.d 6 ++ be x.s 6 ++ be 2054 2 ++ bodyA x ++ be x.da 8 = fenc x) := Lib.hid (by unfold fenc fcode fbody; rw [hk]; rfl)
  have HLen : Hid ((fenc x).length ≤ 50) := Lib.hid (by rw [← HFin.out]; simp [be_length, bodyA])
  have hs0 := hx.s.1
  have hd0 := hx.d.1
  obtain ⟨hda0, hda1⟩ := hx.da
  have hme := meth_code_a x
  have hmw := meth_write_a x
  clear hx hc hpe h1 h2 hk
  unfold FR.cs
  go_enter Try.func27, Try.ntmps27
  obtain ⟨W0, hW0⟩ : ∃ W0, w.alloc (.cells #[.int .u64 x.s, .int .u64 x.d, .int .i64 x.k, .int .i64 x.op, .int .u64 x.sm, .int .u32 x.si, .int .u64 x.tm, .int .u32 x.ti, .int .u32 x.hs, .int .u32 x.hd, .int .i64 x.tl, .int .i64 x.pr, .int .i64 x.sp, .int .i64 x.dp, .int .u64 x.da] 32) = W0 := ⟨_, rfl⟩
  have HB0 : Hid (Has W0 w.heap.size 32 #[.int .u64 x.s, .int .u64 x.d, .int .i64 x.k, .int .i64 x.op, .int .u64 x.sm, .int .u32 x.si, .int .u64 x.tm, .int .u32 x.ti, .int .u32 x.hs, .int .u32 x.hd, .int .i64 x.tl, .int .i64 x.pr, .int .i64 x.sp, .int .i64 x.dp, .int .u64 x.da]) := Lib.hid (hW0 ▸ Has.new _ _ _)
  have HL0 : Hid (Below w.heap.size w W0) := Lib.hid (hW0 ▸ (Below.refl _ w).alloc (Nat.le_refl _) _)
  go_upto_region 1 with fail
  try rw [hW0]
  clear hW0
  have c0 := HB0.out.cell 0
  have c1 := HB0.out.cell 1
  have c2 := HB0.out.cell 2
  have c3 := HB0.out.cell 3
  have c4 := HB0.out.cell 4
  have c5 := HB0.out.cell 5
  have c6 := HB0.out.cell 6
  have c7 := HB0.out.cell 7
  have c8 := HB0.out.cell 8
  have c9 := HB0.out.cell 9
  have c10 := HB0.out.cell 10
  have c11 := HB0.out.cell 11
  have c12 := HB0.out.cell 12
  have c13 := HB0.out.cell 13
  have c14 := HB0.out.cell 14
  simp only [List.getElem?_toArray, List.getElem?_cons_zero, List.getElem?_cons_succ] at c0 c1 c2 c3 c4 c5 c6 c7 c8 c9 c10 c11 c12 c13 c14
  go_wp2_with fail
  refine (HChk.out _).mono ?_
  rintro e w1 ⟨rfl, hb1⟩
  have HB1 := Lib.hid (HB0.out.below hb1)
  have HL1 := Lib.hid (HL0.out.trans (hb1.mono HL0.out.size))
  clear hb1 HB0 HL0 c0 c1 c2 c3 c4 c5 c6 c7 c8 c9 c10 c11 c12 c13 c14
  have c0 := HB1.out.cell 0
  have c1 := HB1.out.cell 1
  have c2 := HB1.out.cell 2
  have c3 := HB1.out.cell 3
  have c4 := HB1.out.cell 4
  have c5 := HB1.out.cell 5
  have c6 := HB1.out.cell 6
  have c7 := HB1.out.cell 7
  have c8 := HB1.out.cell 8
  have c9 := HB1.out.cell 9
  have c10 := HB1.out.cell 10
  have c11 := HB1.out.cell 11
  have c12 := HB1.out.cell 12
  have c13 := HB1.out.cell 13
  have c14 := HB1.out.cell 14
  simp only [List.getElem?_toArray, List.getElem?_cons_zero, List.getElem?_cons_succ] at c0 c1 c2 c3 c4 c5 c6 c7 c8 c9 c10 c11 c12 c13 c14
  go_wp2_with fail
  refine (HPart.out _).mono ?_
  rintro e w2 ⟨rfl, hb2⟩
  have HB2 := Lib.hid (HB1.out.below hb2)
  have HL2 := Lib.hid (HL1.out.trans (hb2.mono HL1.out.size))
  clear hb2 HB1 HL1 c0 c1 c2 c3 c4 c5 c6 c7 c8 c9 c10 c11 c12 c13 c14
  go_wp2_with fail
  refine (wnewL 50 (by omega) _).mono ?_
  rintro e w8 ⟨g, l8, rfl, hwr, hk8, hb8⟩
  obtain ⟨s, hs⟩ : ∃ s : WS, (⟨50, [], []⟩ : WS) = s := ⟨_, rfl⟩
  have HLim : Hid (s.lim = 50 ∧ s.out = []) := Lib.hid (by rw [← hs]; exact ⟨rfl, rfl⟩)
  rw [hs, ← WS.add_nil s] at hwr
  have HW := Lib.hid (PB.mk (w := w) (l0 := []) (B := w.heap.size) hwr (HB2.out.below hb8) (fun hk => by have := hk8 _ hk; have := HB2.out.lt; omega) ⟨(turn_below (HL2.out.trans (hb8.mono HL2.out.size)) []), fun k hk => .inr (by have := hk8 k hk; have := HL2.out.size; omega)⟩)
  clear hwr hk8 hb8 hs HB2 HL2
  have c20 := HW.out.box.cell 1
  simp only [List.getElem?_toArray, List.getElem?_cons_zero, List.getElem?_cons_succ] at c20
  go_wp2_with fail
  refine (fit6 g _ s ([]) _ HW.out.wr x.d (by omega) (by omega) (by simp [be_length, HLim.out.1, HLim.out.2]; try omega)).mono ?_
  rintro e20 w20 ⟨rfl, l20, hw, hn⟩
  have HV := Lib.hid (HW.out.step hw hn)
  clear hw hn HW c20
  have HW := HV
  clear HV
  have c21 := HW.out.box.cell 0
  simp only [List.getElem?_toArray, List.getElem?_cons_zero, List.getElem?_cons_succ] at c21
  go_wp2_with fail
  refine (fit6 g _ s (be x.d 6) _ HW.out.wr x.s (by omega) (by omega) (by simp [be_length, HLim.out.1, HLim.out.2]; try omega)).mono ?_
  rintro e21 w21 ⟨rfl, l21, hw, hn⟩
  have HV := Lib.hid (HW.out.step hw hn)
  clear hw hn HW c21
  have HW := HV
  clear HV
  go_wp2_with fail
  refine (code_a x _).mono ?_
  rintro e w22 ⟨rfl, hb⟩
  have HV := Lib.hid (HW.out.below hb)
  clear hb HW
  have HW := HV
  clear HV
  go_wp2_with fail
  refine (fit2 g _ s (be x.d 6 ++ be x.s 6) _ HW.out.wr 2054 (by omega) (by omega) (by simp [be_length, HLim.out.1, HLim.out.2]; try omega)).mono ?_
  rintro e23 w23 ⟨rfl, l23, hw, hn⟩
  have HV := Lib.hid (HW.out.step hw hn)
  clear hw hn HW
  have HW := HV
  clear HV
  go_wp2_with fail
  refine (awrite x HOk.out g _ s (be x.d 6 ++ be x.s 6 ++ be 2054 2) _ HW.out.wr (by simp [be_length, HLim.out.1, HLim.out.2]; try omega)).mono ?_
  rintro e w24 ⟨rfl, l24, hw, hn⟩
  have HV := Lib.hid (HW.out.step hw hn)
  clear hw hn HW
  have HW := HV
  clear HV
  have c25 := HW.out.box.cell 14
  simp only [List.getElem?_toArray, List.getElem?_cons_zero, List.getElem?_cons_succ] at c25
  go_wp2_with fail
  refine (fit8 g _ s (be x.d 6 ++ be x.s 6 ++ be 2054 2 ++ bodyA x) _ HW.out.wr x.da (by omega) (by omega) (by simp [be_length, bodyA, HLim.out.1, HLim.out.2]; try omega)).mono ?_
  rintro e25 w25 ⟨rfl, l25, hw, hn⟩
  have HV := Lib.hid (HW.out.step hw hn)
  clear hw hn HW c25
  have HW := HV
  clear HV
  go_wp2_with fail
  refine (woutL g _ _ _ HW.out.wr).mono ?_
  rintro e w10 ⟨⟨v, rfl, hv⟩, hb10⟩
  rw [WS.add_out, HLim.out.2, List.nil_append, HFin.out] at hv
  have hb : Below w.heap.size w w10 := (HW.out.nx.below (by simp) (Nat.le_refl _)).1.trans (hb10.mono (HW.out.nx.below (by simp) (Nat.le_refl _)).1.size)
  have hsz := (HW.out.nx.below (by simp) (Nat.le_refl _)).1.size
  rcases hv with ⟨rfl, h⟩ | ⟨h', c', rfl, h2, h3⟩
  · exact absurd (congrArg List.length h) (by rw [← HFin.out]; simp [be_length]; try omega)
  have HE : Hid (Row w10 h' c' (fenc x) ∧ w.heap.size ≤ h' ∧ Below w.heap.size w w10) := Lib.hid ⟨h2, by omega, hb⟩
  clear h2 h3 hb hb10 HW hsz
  go_wp2_with fail
  go_ret2
  exact ⟨h', c', rfl, HE.out⟩

set_option maxHeartbeats 4000000 in
theorem bytes_2 (x : FR) (hx : x.ty) (hc : fchk x = 0) (hk : x.k = 2) (w : World) : Calls Try.prog 27 #[.agg x.cs] w (Enc w x) := by
  have HChk : Hid (∀ W : World, Calls Try.prog 31 #[.agg #[.int .u64 x.s, .int .u64 x.d, .int .i64 x.k, .int .i64 x.op, .int .u64 x.sm, .int .u32 x.si, .int .u64 x.tm, .int .u32 x.ti, .int .u32 x.hs, .int .u32 x.hd, .int .i64 x.tl, .int .i64 x.pr, .int .i64 x.sp, .int .i64 x.dp, .int .u64 x.da]] W fun e w' => e = .returned (.int .i64 0) ∧ Below W.heap.size W w') := Lib.hid (fun W => hc ▸ check_any x hx W)
  obtain ⟨hs1, hd1, _, hpe, h1, h2⟩ := fchk_zero hc
  have HPart : Hid (∀ W : World, Calls Try.prog 50 #[.agg #[.int .u64 x.s, .int .u64 x.d, .int .i64 x.k, .int .i64 x.op, .int .u64 x.sm, .int .u32 x.si, .int .u64 x.tm, .int .u32 x.ti, .int .u32 x.hs, .int .u32 x.hd, .int .i64 x.tl, .int .i64 x.pr, .int .i64 x.sp, .int .i64 x.dp, .int .u64 x.da]] W fun e w' => e = .returned (.tuple #[.iface 106 (.agg x.hc), .int .i64 0]) ∧ Below W.heap.size W w') := Lib.hid (fun W => (part_any x W).mono fun e w' ⟨he, hb⟩ => ⟨by
    rw [he, if_pos hpe, hpe]
    unfold prt
    rw [if_neg (by omega), if_neg (by omega)], hb⟩)
  have HOk : Hid x.okH := Lib.hid (hx.okH (h2 hk))
  have HFin : Hid (be x.d 6 ++ be x.s 6 ++ be 2048 2 ++ bodyH x ++ be x.da 8 = fenc x) := Lib.hid (by unfold fenc fcode fbody; rw [hk]; rfl)
  have HLen : Hid ((fenc x).length ≤ 50) := Lib.hid (by rw [← HFin.out]; simp [be_length, bodyH]; split <;> simp [be_length, hdrS, hdr_len])
  have hs0 := hx.s.1
  have hd0 := hx.d.1
  obtain ⟨hda0, hda1⟩ := hx.da
  have hme := meth_code_h x
  have hmw := meth_write_h x
  clear hx hc hpe h1 h2 hk
  unfold FR.cs
  go_enter Try.func27, Try.ntmps27
  obtain ⟨W0, hW0⟩ : ∃ W0, w.alloc (.cells #[.int .u64 x.s, .int .u64 x.d, .int .i64 x.k, .int .i64 x.op, .int .u64 x.sm, .int .u32 x.si, .int .u64 x.tm, .int .u32 x.ti, .int .u32 x.hs, .int .u32 x.hd, .int .i64 x.tl, .int .i64 x.pr, .int .i64 x.sp, .int .i64 x.dp, .int .u64 x.da] 32) = W0 := ⟨_, rfl⟩
  have HB0 : Hid (Has W0 w.heap.size 32 #[.int .u64 x.s, .int .u64 x.d, .int .i64 x.k, .int .i64 x.op, .int .u64 x.sm, .int .u32 x.si, .int .u64 x.tm, .int .u32 x.ti, .int .u32 x.hs, .int .u32 x.hd, .int .i64 x.tl, .int .i64 x.pr, .int .i64 x.sp, .int .i64 x.dp, .int .u64 x.da]) := Lib.hid (hW0 ▸ Has.new _ _ _)
  have HL0 : Hid (Below w.heap.size w W0) := Lib.hid (hW0 ▸ (Below.refl _ w).alloc (Nat.le_refl _) _)
  go_upto_region 1 with fail
  try rw [hW0]
  clear hW0
  have c0 := HB0.out.cell 0
  have c1 := HB0.out.cell 1
  have c2 := HB0.out.cell 2
  have c3 := HB0.out.cell 3
  have c4 := HB0.out.cell 4
  have c5 := HB0.out.cell 5
  have c6 := HB0.out.cell 6
  have c7 := HB0.out.cell 7
  have c8 := HB0.out.cell 8
  have c9 := HB0.out.cell 9
  have c10 := HB0.out.cell 10
  have c11 := HB0.out.cell 11
  have c12 := HB0.out.cell 12
  have c13 := HB0.out.cell 13
  have c14 := HB0.out.cell 14
  simp only [List.getElem?_toArray, List.getElem?_cons_zero, List.getElem?_cons_succ] at c0 c1 c2 c3 c4 c5 c6 c7 c8 c9 c10 c11 c12 c13 c14
  go_wp2_with fail
  refine (HChk.out _).mono ?_
  rintro e w1 ⟨rfl, hb1⟩
  have HB1 := Lib.hid (HB0.out.below hb1)
  have HL1 := Lib.hid (HL0.out.trans (hb1.mono HL0.out.size))
  clear hb1 HB0 HL0 c0 c1 c2 c3 c4 c5 c6 c7 c8 c9 c10 c11 c12 c13 c14
  have c0 := HB1.out.cell 0
  have c1 := HB1.out.cell 1
  have c2 := HB1.out.cell 2
  have c3 := HB1.out.cell 3
  have c4 := HB1.out.cell 4
  have c5 := HB1.out.cell 5
  have c6 := HB1.out.cell 6
  have c7 := HB1.out.cell 7
  have c8 := HB1.out.cell 8
  have c9 := HB1.out.cell 9
  have c10 := HB1.out.cell 10
  have c11 := HB1.out.cell 11
  have c12 := HB1.out.cell 12
  have c13 := HB1.out.cell 13
  have c14 := HB1.out.cell 14
  simp only [List.getElem?_toArray, List.getElem?_cons_zero, List.getElem?_cons_succ] at c0 c1 c2 c3 c4 c5 c6 c7 c8 c9 c10 c11 c12 c13 c14
  go_wp2_with fail
  refine (HPart.out _).mono ?_
  rintro e w2 ⟨rfl, hb2⟩
  have HB2 := Lib.hid (HB1.out.below hb2)
  have HL2 := Lib.hid (HL1.out.trans (hb2.mono HL1.out.size))
  clear hb2 HB1 HL1 c0 c1 c2 c3 c4 c5 c6 c7 c8 c9 c10 c11 c12 c13 c14
  go_wp2_with fail
  refine (wnewL 50 (by omega) _).mono ?_
  rintro e w8 ⟨g, l8, rfl, hwr, hk8, hb8⟩
  obtain ⟨s, hs⟩ : ∃ s : WS, (⟨50, [], []⟩ : WS) = s := ⟨_, rfl⟩
  have HLim : Hid (s.lim = 50 ∧ s.out = []) := Lib.hid (by rw [← hs]; exact ⟨rfl, rfl⟩)
  rw [hs, ← WS.add_nil s] at hwr
  have HW := Lib.hid (PB.mk (w := w) (l0 := []) (B := w.heap.size) hwr (HB2.out.below hb8) (fun hk => by have := hk8 _ hk; have := HB2.out.lt; omega) ⟨(turn_below (HL2.out.trans (hb8.mono HL2.out.size)) []), fun k hk => .inr (by have := hk8 k hk; have := HL2.out.size; omega)⟩)
  clear hwr hk8 hb8 hs HB2 HL2
  have c20 := HW.out.box.cell 1
  simp only [List.getElem?_toArray, List.getElem?_cons_zero, List.getElem?_cons_succ] at c20
  go_wp2_with fail
  refine (fit6 g _ s ([]) _ HW.out.wr x.d (by omega) (by omega) (by simp [be_length, HLim.out.1, HLim.out.2]; try omega)).mono ?_
  rintro e20 w20 ⟨rfl, l20, hw, hn⟩
  have HV := Lib.hid (HW.out.step hw hn)
  clear hw hn HW c20
  have HW := HV
  clear HV
  have c21 := HW.out.box.cell 0
  simp only [List.getElem?_toArray, List.getElem?_cons_zero, List.getElem?_cons_succ] at c21
  go_wp2_with fail
  refine (fit6 g _ s (be x.d 6) _ HW.out.wr x.s (by omega) (by omega) (by simp [be_length, HLim.out.1, HLim.out.2]; try omega)).mono ?_
  rintro e21 w21 ⟨rfl, l21, hw, hn⟩
  have HV := Lib.hid (HW.out.step hw hn)
  clear hw hn HW c21
  have HW := HV
  clear HV
  go_wp2_with fail
  refine (code_h x _).mono ?_
  rintro e w22 ⟨rfl, hb⟩
  have HV := Lib.hid (HW.out.below hb)
  clear hb HW
  have HW := HV
  clear HV
  go_wp2_with fail
  refine (fit2 g _ s (be x.d 6 ++ be x.s 6) _ HW.out.wr 2048 (by omega) (by omega) (by simp [be_length, HLim.out.1, HLim.out.2]; try omega)).mono ?_
  rintro e23 w23 ⟨rfl, l23, hw, hn⟩
  have HV := Lib.hid (HW.out.step hw hn)
  clear hw hn HW
  have HW := HV
  clear HV
  go_wp2_with fail
  refine (hwrite x HOk.out g _ s (be x.d 6 ++ be x.s 6 ++ be 2048 2) _ HW.out.wr (by simp [be_length, HLim.out.1, HLim.out.2]; try omega)).mono ?_
  rintro e w24 ⟨rfl, l24, hw, hn⟩
  have HV := Lib.hid (HW.out.step hw hn)
  clear hw hn HW
  have HW := HV
  clear HV
  have c25 := HW.out.box.cell 14
  simp only [List.getElem?_toArray, List.getElem?_cons_zero, List.getElem?_cons_succ] at c25
  go_wp2_with fail
  refine (fit8 g _ s (be x.d 6 ++ be x.s 6 ++ be 2048 2 ++ bodyH x) _ HW.out.wr x.da (by omega) (by omega) (by have h28 := bodyH_len x; have h1 := HLim.out.1; have h2 := HLim.out.2; rw [h1, h2]; simp only [List.length_append, be_length, List.length_nil]; omega)).mono ?_
  rintro e25 w25 ⟨rfl, l25, hw, hn⟩
  have HV := Lib.hid (HW.out.step hw hn)
  clear hw hn HW c25
  have HW := HV
  clear HV
  go_wp2_with fail
  refine (woutL g _ _ _ HW.out.wr).mono ?_
  rintro e w10 ⟨⟨v, rfl, hv⟩, hb10⟩
  rw [WS.add_out, HLim.out.2, List.nil_append, HFin.out] at hv
  have hb : Below w.heap.size w w10 := (HW.out.nx.below (by simp) (Nat.le_refl _)).1.trans (hb10.mono (HW.out.nx.below (by simp) (Nat.le_refl _)).1.size)
  have hsz := (HW.out.nx.below (by simp) (Nat.le_refl _)).1.size
  rcases hv with ⟨rfl, h⟩ | ⟨h', c', rfl, h2, h3⟩
  · exact absurd (congrArg List.length h) (by rw [← HFin.out]; simp [be_length]; try omega)
  have HE : Hid (Row w10 h' c' (fenc x) ∧ w.heap.size ≤ h' ∧ Below w.heap.size w w10) := Lib.hid ⟨h2, by omega, hb⟩
  clear h2 h3 hb hb10 HW hsz
  go_wp2_with fail
  go_ret2
  exact ⟨h', c', rfl, HE.out⟩

theorem bytes_yes (x : FR) (hx : x.ty) (hc : fchk x = 0) (w : World) : Calls Try.prog 27 #[.agg x.cs] w (Enc w x) := by
  rcases perr_k (fchk_zero hc).2.2.2.1 with h | h | h
  · exact bytes_0 x hx hc h w
  · exact bytes_1 x hx hc h w
  · exact bytes_2 x hx hc h w

end Go.Proofs.Ytgdfpmnbofnjfaa
