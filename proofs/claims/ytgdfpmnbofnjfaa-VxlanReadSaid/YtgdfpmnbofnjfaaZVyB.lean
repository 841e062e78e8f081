/- Packets that carry frames: the document's Bytes; written by gen_vya.py. -/
import Derived.Test.YtgdfpmnbofnjfaaZVyA
namespace Go.Proofs.Ytgdfpmnbofnjfaa
open Go.RowKit Go.Shelf
set_option linter.unusedVariables false
set_option linter.unusedSimpArgs false
set_option maxRecDepth 100000


theorem BB.below {w W W' : World} {t : TypeId} {cs : Array Value} {s v : Value} {F xs : List Int} {l : List Nat} (H : BB w t cs s F l v xs W) (hb : Below W.heap.size W W') : BB w t cs s F l v xs W' :=
  ⟨H.box.below hb, H.far, H.o5.below hb, H.z.next (Next.of_below hb l), H.nx.trans (Next.of_below hb l)⟩
theorem BB.drewn {w W : World} {t : TypeId} {cs : Array Value} {s v : Value} {F xs : List Int} {l : List Nat} (H : BB w t cs s F l v xs W) : BB w t cs s F l v xs W.drew := H.below (Below.refl _ W).drew
/-- What is known of the lengths. -/
structure PL (P1 P2 P3 P4 P5 P6 P7 P8 : List Int) : Prop where
  P1 : P1.length ≤ 100
  P2 : P2.length ≤ 100
  P3 : P3.length ≤ 100
  P4 : P4.length ≤ 100
  P5 : P5.length ≤ 100
  P6 : P6.length ≤ 100
  P7 : P7.length ≤ 100
  P8 : P8.length ≤ 100

set_option maxHeartbeats 2000000 in
theorem rbytes8_no (x : VP) (hx : x.ty) (hc : vchk x ≠ 0) (w : World) :
    Calls Try.prog 16 #[.agg x.cs] w fun e w' => e = .returned (.tuple #[.slice none 0 0, .int .i64 (vchk x)]) ∧ Below w.heap.size w w' := by
  have HChk : Hid (∀ W : World, Calls Try.prog 17 #[.agg x.cs] W fun e w' => e = .returned (.int .i64 (vchk x)) ∧ Below W.heap.size W w') := Lib.hid (fun W => rcheck8 x hx W)
  obtain ⟨er, her⟩ : ∃ er, vchk x = er := ⟨_, rfl⟩
  have HE := Lib.hid her
  rw [her] at hc ⊢
  have hne : (er != 0) = true := by simpa using hc
  have HB : Hid (Below w.heap.size w (w.alloc (.cells x.cs 34))) := Lib.hid ((Below.refl _ w).alloc (Nat.le_refl _) _)
  have HX : Hid (Has (w.alloc (.cells x.cs 34)) w.heap.size 34 x.cs) := Lib.hid (Has.new _ _ _)
  clear her hc hx
  go_enter Try.func16, Try.ntmps16
  go_wp2_with (first | (refine wpList_load_row rfl 34 (.tmp 1) rfl w.heap.size rfl 34 x.cs (0, 0) _ HX.out Try.underlying34 rfl x.fit ?_) | (go_at_call 17; refine (HChk.out _).mono ?_; rintro e w1 ⟨rfl, hb⟩; rw [HE.out]; have HB1 := Lib.hid hb; clear hb))
  go_ret2
  exact ⟨rfl, HB.out.trans (HB1.out.mono HB.out.size)⟩

set_option maxHeartbeats 4000000 in
theorem rbytes8_yes (x : VP) (hx : x.ty) (hc : vchk x = 0) (w : World) : Calls Try.prog 16 #[.agg x.cs] w (VEnc w x) := by
  obtain ⟨hok, hfc⟩ := vchk_zero hx hc
  have HChk : Hid (∀ W : World, Calls Try.prog 17 #[.agg x.cs] W fun e w' => e = .returned (.int .i64 0) ∧ Below W.heap.size W w') := Lib.hid (fun W => hc ▸ rcheck8 x hx W)
  obtain ⟨k, hk⟩ : ∃ k, (fenc x.f).length = k := ⟨_, rfl⟩
  have hk9 : k ≤ 50 := hk ▸ fenc_len x.f
  have HIn : Hid (∀ W : World, Calls Try.prog 33 #[.agg x.f.cs.toList.toArray] W fun e w' => ∃ b c, e = .returned (.tuple #[.slice (some ⟨b, 0, none⟩) k c, .int .i64 0]) ∧ Row w' b c (fenc x.f) ∧ W.heap.size ≤ b ∧ Below W.heap.size W w') := Lib.hid (fun W => hk ▸ rbytes_yes x.f hx.f hfc W)
  obtain ⟨z, hz⟩ : ∃ z : Int, (k : Int) + 36 = z := ⟨_, rfl⟩
  obtain ⟨L, hL⟩ : ∃ L : Int, (k : Int) + 16 = L := ⟨_, rfl⟩
  obtain ⟨ha0, ha1⟩ := hok.a
  obtain ⟨hb0, hb1⟩ := hok.b
  obtain ⟨ht0, ht1⟩ := hok.t
  obtain ⟨hn0, hn1⟩ := hok.n
  obtain ⟨hv0, hv1⟩ := hok.v
  obtain ⟨hm0, hm1⟩ := hok.m
  have HHd : Hid (∀ W : World, Calls Try.prog 34 #[.int .i64 z, .int .i64 x.t, .int .i64 17, .int .u32 x.a, .int .u32 x.b] W fun e w' => ∃ g c, e = .returned (.slice (some ⟨g, 0, none⟩) 20 c) ∧ Row w' g c (ghdrS z x.t 17 x.a x.b) ∧ W.heap.size ≤ g ∧ Below W.heap.size W w') := Lib.hid (fun W => grheader z x.t 17 x.a x.b hok.a hok.b hok.t (by decide) (by omega) W)
  obtain ⟨P1, hP1⟩ : ∃ P, ghdrS z x.t 17 x.a x.b = P := ⟨_, rfl⟩
  obtain ⟨P2, hP2⟩ : ∃ P, P1 ++ be x.n 2 = P := ⟨_, rfl⟩
  obtain ⟨P3, hP3⟩ : ∃ P, P2 ++ be 4789 2 = P := ⟨_, rfl⟩
  obtain ⟨P4, hP4⟩ : ∃ P, P3 ++ be L 2 = P := ⟨_, rfl⟩
  obtain ⟨P5, hP5⟩ : ∃ P, P4 ++ [0, 0, 8] = P := ⟨_, rfl⟩
  obtain ⟨P6, hP6⟩ : ∃ P, P5 ++ be x.m 3 = P := ⟨_, rfl⟩
  obtain ⟨P7, hP7⟩ : ∃ P, P6 ++ be x.v 3 = P := ⟨_, rfl⟩
  obtain ⟨P8, hP8⟩ : ∃ P, P7 ++ [0] = P := ⟨_, rfl⟩
  have hl1 : P1.length = 20 := by rw [← hP1]; exact ghdrS_len _ _ _ _ _
  have hl2 : P2.length = 22 := by rw [← hP2]; simp [be_length, hl1]
  have hl3 : P3.length = 24 := by rw [← hP3]; simp [be_length, hl2]
  have hl4 : P4.length = 26 := by rw [← hP4]; simp [be_length, hl3]
  have hl5 : P5.length = 29 := by rw [← hP5]; simp [be_length, hl4]
  have hl6 : P6.length = 32 := by rw [← hP6]; simp [be_length, hl5]
  have hl7 : P7.length = 35 := by rw [← hP7]; simp [be_length, hl6]
  have hl8 : P8.length = 36 := by rw [← hP8]; simp [be_length, hl7]
  have HLn : Hid (PL P1 P2 P3 P4 P5 P6 P7 P8) := Lib.hid ⟨by omega, by omega, by omega, by omega, by omega, by omega, by omega, by omega⟩
  have HFin : Hid (P8 ++ fenc x.f = venc x) := Lib.hid (by
    have e2 : be 0 2 = [0, 0] := by decide
    have e3 : be 8 1 = [8] := by decide
    have e4 : be 0 1 = [0] := by decide
    have ez : (20 : Int) + (16 + (k : Int)) = z := by omega
    have el : (16 : Int) + (k : Int) = L := by omega
    unfold venc vencK vip vudp vvx
    rw [hk, ez, el, hP1, e2, e3, e4, ← hP8, ← hP7, ← hP6, ← hP5, ← hP4, ← hP3, ← hP2]
    simp only [List.nil_append, List.append_assoc, List.cons_append])
  have HP1 := Lib.hid hP1
  have HP2 := Lib.hid hP2
  have HP3 := Lib.hid hP3
  have HP4 := Lib.hid hP4
  have HP5 := Lib.hid hP5
  have HP6 := Lib.hid hP6
  have HP7 := Lib.hid hP7
  have HP8 := Lib.hid hP8
  have hL0 : 0 ≤ L := by omega
  have hL1 : L ≤ 66 := by omega
  have hwn : IntKind.u64.wrap x.n = x.n := wr64 _ (by omega) (by omega)
  have hwL : IntKind.u64.wrap L = L := wr64 _ (by omega) (by omega)
  have wam : IntKind.u64.wrap x.m = x.m := wr64 _ (by omega) (by omega)
  have wbm : x.m % 18446744073709551616 = x.m := by omega
  have wav : IntKind.u64.wrap x.v = x.v := wr64 _ (by omega) (by omega)
  have wbv : x.v % 18446744073709551616 = x.v := by omega
  have HB : Hid (Below w.heap.size w (w.alloc (.cells x.cs 34))) := Lib.hid ((Below.refl _ w).alloc (Nat.le_refl _) _)
  have HX : Hid (Has (w.alloc (.cells x.cs 34)) w.heap.size 34 x.cs) := Lib.hid (Has.new _ _ _)
  have HPos : Hid (0 < (venc x).length) := Lib.hid (by rw [venc_len]; omega)
  have HK := Lib.hid hk
  have HL1 := Lib.hid hl1
  unfold VEnc
  obtain ⟨M, hM⟩ : ∃ M, (venc x).length = M := ⟨_, rfl⟩
  rw [hM]
  have HM := Lib.hid hM
  clear hx hc hok hfc hk hM hP1 hP2 hP3 hP4 hP5 hP6 hP7 hP8 hl1 hl2 hl3 hl4 hl5 hl6 hl7 hl8
  go_enter Try.func16, Try.ntmps16
  go_wp2_with (first | (refine wpList_load_row rfl 34 (.tmp 1) rfl w.heap.size rfl 34 x.cs (0, 0) _ HX.out Try.underlying34 rfl x.fit ?_))
  refine (HChk.out _).mono ?_
  rintro e w1 ⟨rfl, hb⟩
  have HX1 := Lib.hid (HX.out.below hb)
  have HB1 := Lib.hid (HB.out.trans (hb.mono HB.out.size))
  clear hb HX HB
  go_wp2_with (first | (refine wpList_load_mid rfl 32 (.tmp 14) rfl w.heap.size 6 rfl x.f.cs.toList _ HX1.out.inner Try.underlying32 rfl (fr_fit_t x.f) ?_))
  refine (HIn.out _).mono ?_
  rintro e w2 ⟨fb, fc, rfl, hrow, hsz, hb⟩
  have HX2 := Lib.hid (HX1.out.below hb)
  have HB2 := Lib.hid (HB1.out.trans (hb.mono HB1.out.size))
  have HR2 := Lib.hid hrow
  clear hb HX1 HB1 hrow hsz
  have q0 := HX2.out.v0
  have q1 := HX2.out.v1
  have q2 := HX2.out.v2
  go_wp2_with fail
  refine (HHd.out _).mono ?_
  rw [HP1.out]
  rintro e w3 ⟨g0, gc, rfl, hrow, hg, hb⟩
  have HQ : Hid (BB w 34 x.cs (.slice (some ⟨fb, 0, none⟩) k fc) (fenc x.f) [g0] (.slice (some ⟨g0, 0, none⟩) 20 gc) P1 w3) := Lib.hid
    ⟨HX2.out.below hb, by have := HX2.out.lt; simp; omega, O5.row hrow HL1.out, Lz.of_row (HR2.out.below hb) HK.out (by have := HR2.out.lt; simp; omega), ⟨turn_below (HB2.out.trans (hb.mono HB2.out.size)) [], fun q hq => .inr (by have := HB2.out.size; simp at hq; omega)⟩⟩
  clear q0 q1 q2 hb hrow hg HX2 HB2 HR2
  have q3 := HQ.out.box.v3
  go_wp2_with fail
  refine (rput7_2 _ _ P1 (x.n) ⟨by omega, by omega⟩ (by have := HLn.out.P1; omega) _ HQ.out.o5).mono ?_
  rw [HP2.out]
  rintro e w4 ⟨A4, c4, l4, rfl, ho, hn⟩
  have HQ := Lib.hid (HQ.out.step ho hn)
  clear ho hn q3
  go_wp2_with fail
  refine (rput7_2 _ _ P2 (4789) ⟨by omega, by omega⟩ (by have := HLn.out.P2; omega) _ HQ.out.o5).mono ?_
  rw [HP3.out]
  rintro e w5 ⟨A5, c5, l5, rfl, ho, hn⟩
  have HQ := Lib.hid (HQ.out.step ho hn)
  clear ho hn
  go_wp2_with fail
  refine (rput7_2 _ _ P3 (L) ⟨by omega, by omega⟩ (by have := HLn.out.P3; omega) _ HQ.out.o5).mono ?_
  rw [HP4.out]
  rintro e w6 ⟨A6, c6, l6, rfl, ho, hn⟩
  have HQ := Lib.hid (HQ.out.step ho hn)
  clear ho hn
  have LB : Hid (Lz (w6.alloc (.cells #[.int .u8 0, .int .u8 0, .int .u8 8] 5)) l6 (.slice (some ⟨w6.heap.size, 0, none⟩) 3 3) [0, 0, 8]) := Lib.hid (Lz.made _ rfl rfl HQ.out.o5.lt)
  have HQk := Lib.hid (HQ.out.below (W' := w6.alloc (.cells #[.int .u8 0, .int .u8 0, .int .u8 8] 5)) ((Below.refl _ w6).alloc (Nat.le_refl _) _))
  clear HQ
  go_wp2_with (at_builtin; refine wpList_app5z rfl (.tmp 40) (.tmp 41) rfl HQk.out.o5 rfl LB.out rfl (by have := HLn.out.P4; simp; omega) (some 42) rfl ?_; rw [HP5.out]; intro A7 c7 w7 l7 ho hn; have HQ := Lib.hid (HQk.out.step ho hn); clear ho hn HQk LB)
  have HQ := Lib.hid (HQ.out.drewn)
  refine wp_region_held_drew (S := (fun w' => w'.cell? ⟨w.heap.size, 5, none⟩ = some (.int .u32 x.m) ∧ w'.cell? ⟨w.heap.size, 4, none⟩ = some (.int .u32 x.v) ∧ True)) (by kernel_rfl) (⟨HQ.out.box.v5, HQ.out.box.v4, trivial⟩) (fun hHeld => ?_)
  refine wpAnyH_take (i := 0) (oi := { dst := some 43, op := Go.Op.move (Go.Operand.tmp 7), type := 40, pos := "ref.go:26", after := #[], guard := none }) (v := ?_) rfl (by kernel_rfl) (by kernel_rfl) (by kernel_rfl) (fun _ _ _ h => h) (Or.inl ⟨by rfl, ?_⟩) (by assumption) ?_
  rotate_left
  · intro wS hSw
    try dsimp only at hSw
    go_split_ands
    go_simp
    try with_reducible rfl
  try simp only [Act.put, List.setIfInBounds_toArray, List.set_cons_zero, List.set_cons_succ]
  refine wpAnyH_take (i := 1) (oi := { dst := some 44, op := Go.Op.fieldAddr 34 (Go.Operand.tmp 1) 5, type := 0, pos := "ref.go:26", after := #[], guard := none }) (v := ?_) rfl (by kernel_rfl) (by kernel_rfl) (by kernel_rfl) (fun _ _ _ h => h) (Or.inl ⟨by rfl, ?_⟩) (by assumption) ?_
  rotate_left
  · intro wS hSw
    try dsimp only at hSw
    go_split_ands
    go_simp
    try with_reducible rfl
  try simp only [Act.put, List.setIfInBounds_toArray, List.set_cons_zero, List.set_cons_succ]
  refine wpAnyH_take (i := 2) (oi := { dst := some 45, op := Go.Op.load 23 (Go.Operand.tmp 44), type := 23, pos := "ref.go:26", after := #[{ on := 1, ground := Go.Ground.data }], guard := none }) (v := ?_) rfl (by kernel_rfl) (by kernel_rfl) (by kernel_rfl) (fun _ _ _ h => h) (Or.inl ⟨by rfl, ?_⟩) (by assumption) ?_
  rotate_left
  · intro wS hSw
    try dsimp only at hSw
    go_split_ands
    go_simp
    try with_reducible rfl
  try simp only [Act.put, List.setIfInBounds_toArray, List.set_cons_zero, List.set_cons_succ]
  refine wpAnyH_take (i := 3) (oi := { dst := some 46, op := Go.Op.convert 23 25 (Go.Operand.tmp 45), type := 25, pos := "ref.go:26", after := #[{ on := 2, ground := Go.Ground.data }], guard := none }) (v := ?_) rfl (by kernel_rfl) (by kernel_rfl) (by kernel_rfl) (fun _ _ _ h => h) (Or.inl ⟨by rfl, ?_⟩) (by assumption) ?_
  rotate_left
  · intro wS hSw
    try dsimp only at hSw
    go_split_ands
    go_simp
    try with_reducible rfl
  try simp only [Act.put, List.setIfInBounds_toArray, List.set_cons_zero, List.set_cons_succ]
  refine wpAnyH_take (i := 5) (oi := { dst := some 48, op := Go.Op.fieldAddr 34 (Go.Operand.tmp 1) 4, type := 0, pos := "ref.go:26", after := #[], guard := none }) (v := ?_) rfl (by kernel_rfl) (by kernel_rfl) (by kernel_rfl) (fun _ _ _ h => h) (Or.inl ⟨by rfl, ?_⟩) (by assumption) ?_
  rotate_left
  · intro wS hSw
    try dsimp only at hSw
    go_split_ands
    go_simp
    try with_reducible rfl
  try simp only [Act.put, List.setIfInBounds_toArray, List.set_cons_zero, List.set_cons_succ]
  refine wpAnyH_take (i := 6) (oi := { dst := some 49, op := Go.Op.load 23 (Go.Operand.tmp 48), type := 23, pos := "ref.go:26", after := #[{ on := 5, ground := Go.Ground.data }], guard := none }) (v := ?_) rfl (by kernel_rfl) (by kernel_rfl) (by kernel_rfl) (fun _ _ _ h => h) (Or.inl ⟨by rfl, ?_⟩) (by assumption) ?_
  rotate_left
  · intro wS hSw
    try dsimp only at hSw
    go_split_ands
    go_simp
    try with_reducible rfl
  try simp only [Act.put, List.setIfInBounds_toArray, List.set_cons_zero, List.set_cons_succ]
  refine wpAnyH_take (i := 7) (oi := { dst := some 50, op := Go.Op.convert 23 25 (Go.Operand.tmp 49), type := 25, pos := "ref.go:26", after := #[{ on := 6, ground := Go.Ground.data }], guard := none }) (v := ?_) rfl (by kernel_rfl) (by kernel_rfl) (by kernel_rfl) (fun _ _ _ h => h) (Or.inl ⟨by rfl, ?_⟩) (by assumption) ?_
  rotate_left
  · intro wS hSw
    try dsimp only at hSw
    go_split_ands
    go_simp
    try with_reducible rfl
  try simp only [Act.put, List.setIfInBounds_toArray, List.set_cons_zero, List.set_cons_succ]
  refine wpAnyH_ready (rs := [4]) (by kernel_rfl) (by simp) ?_
  refine AllReadyH.cons (o := { dst := some 47, op := Go.Op.call { callee := Go.Callee.value (Go.Operand.func 35), args := #[Go.Operand.tmp 43, Go.Operand.tmp 46, Go.Operand.const (Go.Value.int Go.IntKind.i64 3)], argTypes := #[40, 25, 3] }, type := 40, pos := "ref.go:26", after := #[{ on := 0, ground := Go.Ground.data }, { on := 3, ground := Go.Ground.data }], guard := none }) rfl (fun K hK => ?_) AllReadyH.nil
  go_simp
  go_at_call 35
  refine (rput7_3 _ _ P5 (x.m) ⟨by omega, by omega⟩ (by have := HLn.out.P5; omega) _ HQ.out.o5).mono ?_
  rw [HP6.out]
  rintro e u4 ⟨A4, c4, l4, rfl, ho, hn⟩
  have HQ := Lib.hid (HQ.out.step ho hn)
  clear ho hn
  refine hK.out _ _ (⟨HQ.out.box.v5, HQ.out.box.v4, trivial⟩) (fun hHeld => ?_)
  clear hK K
  try simp only [Act.put, List.setIfInBounds_toArray, List.set_cons_zero, List.set_cons_succ]
  refine wpAnyH_ready (rs := [8]) (by kernel_rfl) (by simp) ?_
  refine AllReadyH.cons (o := { dst := some 51, op := Go.Op.call { callee := Go.Callee.value (Go.Operand.func 35), args := #[Go.Operand.tmp 47, Go.Operand.tmp 50, Go.Operand.const (Go.Value.int Go.IntKind.i64 3)], argTypes := #[40, 25, 3] }, type := 40, pos := "ref.go:26", after := #[{ on := 4, ground := Go.Ground.data }, { on := 7, ground := Go.Ground.data }, { on := 4, ground := Go.Ground.chain }], guard := none }) rfl (fun K hK => ?_) AllReadyH.nil
  go_simp
  go_at_call 35
  refine (rput7_3 _ _ P6 (x.v) ⟨by omega, by omega⟩ (by have := HLn.out.P6; omega) _ HQ.out.o5).mono ?_
  rw [HP7.out]
  rintro e u8 ⟨A8, c8, l8, rfl, ho, hn⟩
  have HQ := Lib.hid (HQ.out.step ho hn)
  clear ho hn
  refine hK.out _ _ (⟨HQ.out.box.v5, HQ.out.box.v4, trivial⟩) (fun hHeld => ?_)
  clear hK K
  try simp only [Act.put, List.setIfInBounds_toArray, List.set_cons_zero, List.set_cons_succ]
  refine wpAnyH_take (i := 9) (oi := { dst := some 7, op := Go.Op.assign (Go.Operand.tmp 51), type := 40, pos := "ref.go:26", after := #[{ on := 8, ground := Go.Ground.data }, { on := 8, ground := Go.Ground.chain }, { on := 0, ground := Go.Ground.phase }, { on := 1, ground := Go.Ground.phase }, { on := 2, ground := Go.Ground.phase }, { on := 3, ground := Go.Ground.phase }, { on := 4, ground := Go.Ground.phase }, { on := 5, ground := Go.Ground.phase }, { on := 6, ground := Go.Ground.phase }, { on := 7, ground := Go.Ground.phase }, { on := 8, ground := Go.Ground.phase }], guard := none }) (v := ?_) rfl (by kernel_rfl) (by kernel_rfl) (by kernel_rfl) (fun _ _ _ h => h) (Or.inl ⟨by rfl, ?_⟩) (by assumption) ?_
  rotate_left
  · intro wS hSw
    try dsimp only at hSw
    go_split_ands
    go_simp
    try with_reducible rfl
  try simp only [Act.put, List.setIfInBounds_toArray, List.set_cons_zero, List.set_cons_succ]
  refine wpAnyH_done (by kernel_rfl) ?_ _
  have LB : Hid (Lz (u8.alloc (.cells #[.int .u8 0] 5)) l8 (.slice (some ⟨u8.heap.size, 0, none⟩) 1 1) [0]) := Lib.hid (Lz.made _ rfl rfl HQ.out.o5.lt)
  have HQk := Lib.hid (HQ.out.below (W' := u8.alloc (.cells #[.int .u8 0] 5)) ((Below.refl _ u8).alloc (Nat.le_refl _) _))
  clear HQ
  go_wp2_with (first
    | (at_builtin; refine wpList_app5z rfl (.tmp 52) (.tmp 53) rfl HQk.out.o5 rfl LB.out rfl (by have := HLn.out.P7; simp; omega) (some 54) rfl ?_; rw [HP8.out]; intro A9 c9 w9 l9 ho hn; have HQ9 := Lib.hid (HQk.out.step ho hn); clear ho hn HQk LB)
    | (at_builtin; refine wpList_app5z rfl (.tmp 54) (.tmp 55) rfl HQ9.out.o5 rfl HQ9.out.z rfl (by have := HLn.out.P8; rw [HK.out]; omega) (some 56) rfl ?_; rw [HFin.out, HM.out]; intro A10 c10 w10 l10 ho hn; have HQ10 := Lib.hid (HQ9.out.step ho hn); clear ho hn HQ9))
  obtain ⟨g, rfl, hrow, rfl⟩ := HQ10.out.o5.to HPos.out HM.out
  have HG : Hid (Row w10 g c10 (venc x) ∧ w.heap.size ≤ g ∧ Below w.heap.size w w10) := Lib.hid ⟨hrow, (HQ10.out.nx.below (by simp) (Nat.le_refl _)).2 g (by simp), (HQ10.out.nx.below (by simp) (Nat.le_refl _)).1⟩
  clear hrow HQ10
  go_ret2
  exact ⟨g, c10, rfl, HG.out⟩

end Go.Proofs.Ytgdfpmnbofnjfaa
