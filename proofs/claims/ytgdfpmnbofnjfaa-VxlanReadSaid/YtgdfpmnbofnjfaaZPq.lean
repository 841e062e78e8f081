/- Packets: the document's header. -/
import Derived.Test.YtgdfpmnbofnjfaaZPi
import Derived.Test.YtgdfpmnbofnjfaaZPl
import Derived.Deep.RegionHeld3
import Derived.Deep.CutBlock
namespace Go.Proofs.Ytgdfpmnbofnjfaa
open Go.RowKit Go.Shelf
set_option linter.unusedVariables false
set_option linter.unusedSimpArgs false
set_option maxRecDepth 100000

theorem O5.row {w : World} {h cap n : Nat} {bs : List Int} (H : Row w h cap bs) (hn : bs.length = n) : O5 w [h] (.slice (some ⟨h, 0, none⟩) n cap) bs := by
  subst hn
  exact ⟨H.own (Nat.zero_le _), rfl⟩
theorem Row.new (w : World) (bs : List Int) (C : Array Value) (hC : C = (u8s bs).toArray) (hm : bs.length ≤ 1000) : Row (w.alloc (.cells C 5)) w.heap.size bs.length bs := by
  subst hC
  exact ⟨_, Has.new w _ _, by simp, by rw [List.take_of_length_le (by simp)], Nat.le_refl _, by unfold maxLen; omega⟩
theorem O5.arr {w : World} {l : List Nat} {v : Value} {xs : List Int} (h : O5 w l v xs) : Arr w v xs := by
  by_cases hnil : v = .slice none 0 0
  · subst hnil
    refine .inl ⟨rfl, ?_⟩
    rcases h.1.2 with ⟨_, h0⟩ | ⟨g, _, _, e, _⟩
    · exact List.eq_nil_of_length_eq_zero h0
    · cases e
  · obtain ⟨g, cp, rfl, _, hr⟩ := own_row h.1 hnil rfl
    exact row_arr hr rfl
theorem O5.to {w : World} {l : List Nat} {A : Option Addr} {n c : Nat} {xs : List Int} (h : O5 w l (.slice A n c) xs) (hp : 0 < xs.length) (hn : xs.length = n) : ∃ g, A = some ⟨g, 0, none⟩ ∧ Row w g c xs ∧ l = [g] := by
  subst hn
  rcases h.1.2 with ⟨e, h0⟩ | ⟨g, cap, cur, e, h1, h2, h3, h4, h5, h6⟩
  · omega
  · injection e with e1 e2 e3
    subst e1 e3
    refine ⟨g, rfl, ⟨cur, h2, by omega, by simpa using h6, h3, h4⟩, ?_⟩
    rw [h.2]
    rfl

/-- A header whose checksum is written behind. -/
theorem hdr_set (x : FR) (s : Int) (h0 : 0 ≤ s) (h1 : s ≤ 65535) : ((hdr x 0).set 10 (s / 256)).set 11 (s % 256) = hdr x s := by
  have e1 : s / 256 ^ 1 % 256 = s / 256 := by
    have : (256 : Int) ^ 1 = 256 := by decide
    omega
  have e0 : s / 256 ^ 0 % 256 = s % 256 := by
    have : (256 : Int) ^ 0 = 1 := by decide
    omega
  simp only [hdr, be, List.cons_append, List.nil_append, List.set_cons_succ, List.set_cons_zero, e1, e0]

set_option maxHeartbeats 4000000 in
theorem rheader_any (x : FR) (hx : x.okH) (z : Int) (hz : hsz x = z) (hz2 : 0 ≤ z ∧ z ≤ 36) (w : World) :
    Calls Try.prog 34 #[.int .i64 z, .int .i64 x.tl, .int .i64 x.pr, .int .u32 x.hs, .int .u32 x.hd] w fun e w' => ∃ g c, e = .returned (.slice (some ⟨g, 0, none⟩) 20 c) ∧ Row w' g c (hdrS x) ∧ w.heap.size ≤ g ∧ Below w.heap.size w w' := by
  obtain ⟨hhs0, hhs1⟩ := hx.hs
  obtain ⟨hhd0, hhd1⟩ := hx.hd
  obtain ⟨htl0, htl1⟩ := hx.tl
  obtain ⟨hpr0, hpr1⟩ := hx.pr
  obtain ⟨hz0, hz1⟩ := hz2
  have HO1 : Hid (O5 (w.alloc (.cells #[.int .u8 69, .int .u8 0] 5)) [w.heap.size] (.slice (some ⟨w.heap.size, 0, none⟩) 2 2) [69, 0]) := Lib.hid (O5.row (Row.new w [69, 0] _ rfl (by decide)) rfl)
  have HN1 : Hid (Next w [] (w.alloc (.cells #[.int .u8 69, .int .u8 0] 5)) [w.heap.size]) := Lib.hid ⟨turn_below ((Below.refl _ w).alloc (Nat.le_refl _) _) [], fun k hk => .inr (by rw [List.mem_singleton] at hk; omega)⟩
  obtain ⟨P1, hP1⟩ : ∃ P, [69, 0] ++ be z 2 = P := ⟨_, rfl⟩
  obtain ⟨P2, hP2⟩ : ∃ P, P1 ++ [0, 0, 0, 0, x.tl, x.pr, 0, 0] = P := ⟨_, rfl⟩
  obtain ⟨P3, hP3⟩ : ∃ P, P2 ++ be x.hs 4 = P := ⟨_, rfl⟩
  have hP4 : P3 ++ be x.hd 4 = hdr x 0 := by
    have e1 : be x.tl 1 = [x.tl] := by simp [be]; omega
    have e2 : be x.pr 1 = [x.pr] := by simp [be]; omega
    have e3 : be 17664 2 = [69, 0] := by decide
    have e4 : be 0 4 = [0, 0, 0, 0] := by decide
    have e5 : be 0 2 = [0, 0] := by decide
    rw [← hP3, ← hP2, ← hP1]
    unfold hdr
    rw [hz, e1, e2, e3, e4, e5]
    simp only [List.append_assoc, List.cons_append, List.nil_append]
  have hl1 : P1.length = 4 := by rw [← hP1]; simp [be_length]
  have hl2 : P2.length = 12 := by rw [← hP2]; simp [hl1]
  have hl3 : P3.length = 16 := by rw [← hP3]; simp [hl2, be_length]
  have HL := Lib.hid (And.intro hl1 (And.intro hl2 hl3))
  have HP1 := Lib.hid hP1
  have HP2 := Lib.hid hP2
  have HP3 := Lib.hid hP3
  have HP4 := Lib.hid hP4
  have hsm := sumP_le (hdr x 0) (hdr_byte x 0)
  obtain ⟨s, hs⟩ : ∃ s, sumP (hdr x 0) = s := ⟨_, rfl⟩
  rw [hs] at hsm
  have HSum : Hid (∀ (W : World) (v : Value), Arr W v (hdr x 0) → Calls Try.prog 62 #[v] W fun e w' => e = .returned (.int .u16 s) ∧ W = w') := Lib.hid (fun W v h => hs ▸ rsum_arr v (hdr x 0) W h (by rw [hdr_len]; decide) (hdr_byte x 0))
  have HFin : Hid (((hdr x 0).set 10 (s / 256)).set 11 (s % 256) = hdrS x) := Lib.hid (by rw [hdr_set x s hsm.1 hsm.2]; unfold hdrS; rw [hs])
  obtain ⟨hs0, hs1⟩ := hsm
  have hw1 : IntKind.u8.wrap (s / 256) = s / 256 := by
    have e : IntKind.u8.wrap (s / 256) = (s / 256) % 256 := by rfl
    rw [e]; omega
  have hw2 : IntKind.u8.wrap s = s % 256 := by rfl
  clear hP1 hP2 hP3 hP4 hl1 hl2 hl3 hs hx hz
  go_enter Try.func34, Try.ntmps34
  go_wp2_with fail
  refine (rput7_2 _ _ [69, 0] z ⟨by omega, by omega⟩ (by decide) _ HO1.out).mono ?_
  rw [HP1.out]
  rintro e w2 ⟨A2, c2, l2, rfl, ho2, hn2⟩
  have HO2 := Lib.hid ho2
  have HN2 := Lib.hid (HN1.out.trans hn2)
  clear ho2 hn2 HO1 HN1
  have HO2k : Hid (O5 (w2.alloc (.cells #[.int .u8 0, .int .u8 0, .int .u8 0, .int .u8 0, .int .u8 x.tl, .int .u8 x.pr, .int .u8 0, .int .u8 0] 5)) l2 (.slice A2 P1.length c2) P1) := Lib.hid (HO2.out.below ((Below.refl _ w2).alloc (Nat.le_refl _) _))
  have HN2k : Hid (Next w [] (w2.alloc (.cells #[.int .u8 0, .int .u8 0, .int .u8 0, .int .u8 0, .int .u8 x.tl, .int .u8 x.pr, .int .u8 0, .int .u8 0] 5)) l2) := Lib.hid (HN2.out.trans (Next.of_below ((Below.refl _ w2).alloc (Nat.le_refl _) _) _))
  go_wp2_with (at_builtin; refine wpList_app5 rfl (.tmp 17) (.tmp 22) rfl HO2k.out rfl ⟨w2.heap.size, 0, none⟩ 8 [0, 0, 0, 0, x.tl, x.pr, 0, 0] rfl news5 (by have := HL.out.1; simp; omega) (some 23) rfl ?_; rw [HP2.out]; intro A3 c3 w3 l3 ho3 hn3; have HO3 := Lib.hid ho3; have HN3 := Lib.hid (HN2k.out.trans hn3); clear ho3 hn3 HO2 HN2 HO2k HN2k)
  refine (rput7_4 _ _ P2 x.hs ⟨by omega, by omega⟩ (by rw [HL.out.2.1]; decide) _ HO3.out).mono ?_
  rw [HP3.out]
  rintro e w4 ⟨A4, c4, l4, rfl, ho4, hn4⟩
  have HO4 := Lib.hid ho4
  have HN4 := Lib.hid (HN3.out.trans hn4)
  clear ho4 hn4 HO3 HN3
  go_wp2_with fail
  refine (rput7_4 _ _ P3 x.hd ⟨by omega, by omega⟩ (by rw [HL.out.2.2]; decide) _ HO4.out).mono ?_
  rw [HP4.out]
  rintro e w5 ⟨A5, c5, l5, rfl, ho5, hn5⟩
  have HN5 := Lib.hid (HN4.out.trans hn5)
  have hlen := hdr_len x 0
  rw [hlen] at ho5 ⊢
  obtain ⟨g, rfl, hrow, rfl⟩ := ho5.to (by rw [hlen]; decide) hlen
  have HR := Lib.hid hrow
  have HG : Hid (w.heap.size ≤ g) := Lib.hid ((HN5.out.below (by simp) (Nat.le_refl _)).2 g (by simp))
  have HB : Hid (Below w.heap.size w w5) := Lib.hid (HN5.out.below (by simp) (Nat.le_refl _)).1
  clear ho5 hn5 HO4 HN4 hrow HN5 hlen
  go_wp2_with fail
  refine (HSum.out _ _ (row_arr HR.out (hdr_len x 0))).mono ?_
  rintro e w6 ⟨rfl, rfl⟩
  have q0 := HR.out.cell 10 (by rw [hdr_len]; decide)
  have q1 := HR.out.cell 11 (by rw [hdr_len]; decide)
  obtain ⟨y0, hy0⟩ : ∃ y, (hdr x 0)[10]'(by rw [hdr_len]; decide) = y := ⟨_, rfl⟩
  obtain ⟨y1, hy1⟩ : ∃ y, (hdr x 0)[11]'(by rw [hdr_len]; decide) = y := ⟨_, rfl⟩
  rw [hy0] at q0
  rw [hy1] at q1
  have p0 : w5.frozen? ⟨g, 10, none⟩ = false := by
    obtain ⟨_, h1, _⟩ := HR.out
    exact h1.free _
  have p1 : w5.frozen? ⟨g, 11, none⟩ = false := by
    obtain ⟨_, h1, _⟩ := HR.out
    exact h1.free _
  have HRf := Lib.hid ((HR.out.set_ 10 (s / 256)).set_ 11 (s % 256))
  have HBf := Lib.hid ((HB.out.setCell (p := ⟨g, 10, none⟩) HG.out (.int .u8 (s / 256))).setCell (p := ⟨g, 11, none⟩) HG.out (.int .u8 (s % 256)))
  rw [HFin.out] at HRf
  clear hy0 hy1
  go_wp2_with fail
  go_ret
  exact ⟨g, c5, rfl, HRf.out, HG.out, HBf.out⟩

end Go.Proofs.Ytgdfpmnbofnjfaa

namespace Go.Proofs.Ytgdfpmnbofnjfaa
open Go.RowKit Go.Shelf
set_option linter.unusedVariables false
set_option linter.unusedSimpArgs false
set_option maxRecDepth 100000

/-- Bytes of the call's own, beside the box of the frame. -/
structure QB (w : World) (x : FR) (l : List Nat) (A : Option Addr) (n c : Nat) (xs : List Int) (W : World) : Prop where
  o5 : O5 W l (.slice A n c) xs
  box : Has W w.heap.size 32 #[.int .u64 x.s, .int .u64 x.d, .int .i64 x.k, .int .i64 x.op, .int .u64 x.sm, .int .u32 x.si, .int .u64 x.tm, .int .u32 x.ti, .int .u32 x.hs, .int .u32 x.hd, .int .i64 x.tl, .int .i64 x.pr, .int .i64 x.sp, .int .i64 x.dp, .int .u64 x.da]
  far : w.heap.size ∉ l
  nx : Next w [] W l
  ln : xs.length = n
theorem QB.step {w W W' : World} {x : FR} {l l' : List Nat} {A A' : Option Addr} {n c c' : Nat} {xs ys : List Int} (H : QB w x l A n c xs W) (h : O5 W' l' (.slice A' ys.length c') ys) (hn : Next W l W' l') : QB w x l' A' ys.length c' ys W' :=
  ⟨h, H.box.turn hn.1 H.far, hn.far H.far H.box.lt, H.nx.trans hn, rfl⟩
theorem QB.below {w W W' : World} {x : FR} {l : List Nat} {A : Option Addr} {n c : Nat} {xs : List Int} (H : QB w x l A n c xs W) (hb : Below W.heap.size W W') : QB w x l A n c xs W' :=
  ⟨H.o5.below hb, H.box.below hb, H.far, H.nx.trans (Next.of_below hb l), H.ln⟩
theorem QB.lo {w W : World} {x : FR} {l : List Nat} {A : Option Addr} {n c : Nat} {xs : List Int} (H : QB w x l A n c xs W) : Below w.heap.size w W := (H.nx.below (by simp) (Nat.le_refl _)).1
theorem QB.start {w W : World} {x : FR} (hb : Below w.heap.size w W) (hx : Has W w.heap.size 32 #[.int .u64 x.s, .int .u64 x.d, .int .i64 x.k, .int .i64 x.op, .int .u64 x.sm, .int .u32 x.si, .int .u64 x.tm, .int .u32 x.ti, .int .u32 x.hs, .int .u32 x.hd, .int .i64 x.tl, .int .i64 x.pr, .int .i64 x.sp, .int .i64 x.dp, .int .u64 x.da]) : QB w x [] none 0 0 [] W := ⟨O5.nil W, hx, by simp, Next.of_below hb [], rfl⟩
/-- A block laid just now. -/
theorem Lz.made {W : World} {l : List Nat} {bs : List Int} {n : Nat} (C : Array Value) (hC : C = (u8s bs).toArray) (hn : bs.length = n) (hl : ∀ k ∈ l, k < W.heap.size) : Lz (W.alloc (.cells C 5)) l (.slice (some ⟨W.heap.size, 0, none⟩) n n) bs := by
  subst hC hn
  refine .inr ⟨W.heap.size, 0, bs.length, rfl, fun h => Nat.lt_irrefl _ (hl _ h), by simp, fun j hj => ?_⟩
  rw [Nat.zero_add, (Has.new W _ _).cell]
  simp [hj]
theorem Lz.of_row {W : World} {l : List Nat} {g c n : Nat} {bs : List Int} (h : Row W g c bs) (hn : bs.length = n) (hg : g ∉ l) : Lz W l (.slice (some ⟨g, 0, none⟩) n c) bs := by
  subst hn
  exact .inr ⟨g, 0, c, rfl, hg, h.lt, h.all⟩
theorem step_app5z {ops : Array Oper} {o : Oper} {ac : Act} {K : Act → World → Prop} {Q : Exit → Act → World → Prop} {E : Prop} (hgd : o.guard = none) (s x : Operand) (ho : o.op = .call { callee := .builtin .append, args := #[s, x], argTypes := #[40, 40] })
    {w : World} {l : List Nat} {v y : Value} {xs V : List Int} (h : O5 w l v xs) (hs : ac.eval s = v) (hv : Lz w l y V) (hx : ac.eval x = y) (hb : xs.length + V.length ≤ 1000000) (d : Option Tmp) (hd : o.dst = d)
    (hK : ∀ A' c' w' l', O5 w' l' (.slice A' (xs ++ V).length c') (xs ++ V) → Next w l w' l' → K (ac.put d (.slice A' (xs ++ V).length c')) w') : if Region.wanted o (yielded ops ac.tmps) = true then Oper.wp Try.prog o ac w K Q else E := by
  subst hd
  have hw : Region.wanted o (yielded ops ac.tmps) = true := by simp [Region.wanted, hgd]
  rw [if_pos hw]
  obtain ⟨v', w', l', hr, h1, h2⟩ := run_app5z o.type h hv hb
  obtain ⟨A', c', rfl⟩ := h1.form
  unfold Oper.wp execOp
  simp only [ho, resolve, invoke, builtin, Sem.run_bind, Sem.run_pure, Result.andThen_ok, List.map_toArray, List.map_cons, List.map_nil, hs, hx, hr]
  exact hK A' c' w' l' h1 h2


set_option maxHeartbeats 2000000 in
theorem rbytes_no (x : FR) (hx : x.ty) (hc : fchk x ≠ 0) (w : World) :
    Calls Try.prog 33 #[.agg x.cs] w fun e w' => e = .returned (.tuple #[.slice none 0 0, .int .i64 (fchk x)]) ∧ Below w.heap.size w w' := by
  have HChk : Hid (∀ W : World, Calls Try.prog 36 #[.agg #[.int .u64 x.s, .int .u64 x.d, .int .i64 x.k, .int .i64 x.op, .int .u64 x.sm, .int .u32 x.si, .int .u64 x.tm, .int .u32 x.ti, .int .u32 x.hs, .int .u32 x.hd, .int .i64 x.tl, .int .i64 x.pr, .int .i64 x.sp, .int .i64 x.dp, .int .u64 x.da]] W fun e w' => e = .returned (.int .i64 (fchk x)) ∧ Below W.heap.size W w') := Lib.hid (fun W => rcheck_any x hx W)
  obtain ⟨er, her⟩ : ∃ er, fchk x = er := ⟨_, rfl⟩
  have HE := Lib.hid her
  rw [her] at hc ⊢
  have hne : (er != 0) = true := by simpa using hc
  have HB : Hid (∀ o, Below w.heap.size w (w.alloc o)) := Lib.hid (fun o => (Below.refl _ w).alloc (Nat.le_refl _) _)
  clear her hc hx
  unfold FR.cs
  go_enter Try.func33, Try.ntmps33
  go_wp2_with (first | (go_at_call 36; refine (HChk.out _).mono ?_; rintro e w1 ⟨rfl, hb⟩; rw [HE.out]; have HB1 := Lib.hid hb; clear hb))
  go_ret2
  exact ⟨rfl, (HB.out _).trans (HB1.out.mono (HB.out _).size)⟩

set_option maxHeartbeats 4000000 in
theorem rbytes_0 (x : FR) (hx : x.ty) (hc : fchk x = 0) (hk : x.k = 0) (w : World) : Calls Try.prog 33 #[.agg x.cs] w (Enc w x) := by
  have HChk : Hid (∀ W : World, Calls Try.prog 36 #[.agg #[.int .u64 x.s, .int .u64 x.d, .int .i64 x.k, .int .i64 x.op, .int .u64 x.sm, .int .u32 x.si, .int .u64 x.tm, .int .u32 x.ti, .int .u32 x.hs, .int .u32 x.hd, .int .i64 x.tl, .int .i64 x.pr, .int .i64 x.sp, .int .i64 x.dp, .int .u64 x.da]] W fun e w' => e = .returned (.int .i64 0) ∧ Below W.heap.size W w') := Lib.hid (fun W => hc ▸ rcheck_any x hx W)
  obtain ⟨hs1, hd1, _, hpe, h1, h2⟩ := fchk_zero hc
  have hs0 := hx.s.1
  have hd0 := hx.d.1
  obtain ⟨hda0, hda1⟩ := hx.da
  have HK := Lib.hid hk
  obtain ⟨P1, hP1⟩ : ∃ P : List Int, [] ++ be x.d 6 = P := ⟨_, rfl⟩
  have hlP1 : P1.length ≤ 40 := by rw [← hP1]; simp [be_length]; try omega
  obtain ⟨P2, hP2⟩ : ∃ P : List Int, P1 ++ be x.s 6 = P := ⟨_, rfl⟩
  have hlP2 : P2.length ≤ 80 := by rw [← hP2]; simp [be_length]; try omega
  obtain ⟨P3, hP3⟩ : ∃ P : List Int, P2 ++ [136, 181] = P := ⟨_, rfl⟩
  have hlP3 : P3.length ≤ 120 := by rw [← hP3]; simp [be_length]; try omega
  have HFin : Hid (P3 ++ be x.da 8 = fenc x) := Lib.hid (by
    have e : ([136, 181] : List Int) = be 34997 2 := by decide
    rw [← hP3, ← hP2, ← hP1, e, enc_d hk]; simp only [segD, flat, List.nil_append, List.append_nil, List.append_assoc])
  clear hc hpe h1 h2 hk hx
  have HP1 := Lib.hid hP1
  have HLP1 := Lib.hid hlP1
  have HP2 := Lib.hid hP2
  have HLP2 := Lib.hid hlP2
  have HP3 := Lib.hid hP3
  have HLP3 := Lib.hid hlP3
  clear hP1 hlP1 hP2 hlP2 hP3 hlP3
  unfold FR.cs
  have HX0 : Hid (Has (w.alloc (.cells #[.int .u64 x.s, .int .u64 x.d, .int .i64 x.k, .int .i64 x.op, .int .u64 x.sm, .int .u32 x.si, .int .u64 x.tm, .int .u32 x.ti, .int .u32 x.hs, .int .u32 x.hd, .int .i64 x.tl, .int .i64 x.pr, .int .i64 x.sp, .int .i64 x.dp, .int .u64 x.da] 32)) w.heap.size 32 #[.int .u64 x.s, .int .u64 x.d, .int .i64 x.k, .int .i64 x.op, .int .u64 x.sm, .int .u32 x.si, .int .u64 x.tm, .int .u32 x.ti, .int .u32 x.hs, .int .u32 x.hd, .int .i64 x.tl, .int .i64 x.pr, .int .i64 x.sp, .int .i64 x.dp, .int .u64 x.da]) := Lib.hid (Has.new w _ _)
  have HL0 : Hid (Below w.heap.size w (w.alloc (.cells #[.int .u64 x.s, .int .u64 x.d, .int .i64 x.k, .int .i64 x.op, .int .u64 x.sm, .int .u32 x.si, .int .u64 x.tm, .int .u32 x.ti, .int .u32 x.hs, .int .u32 x.hd, .int .i64 x.tl, .int .i64 x.pr, .int .i64 x.sp, .int .i64 x.dp, .int .u64 x.da] 32))) := Lib.hid ((Below.refl _ w).alloc (Nat.le_refl _) _)
  go_enter Try.func33, Try.ntmps33
  go_upto_region 4 with (go_at_call 36; refine (HChk.out _).mono ?_; rintro e w1 ⟨rfl, hb⟩; have HQ : Hid (QB w x [] none 0 0 [] w1) := Lib.hid (QB.start (HL0.out.trans (hb.mono HL0.out.size)) (HX0.out.below hb)); clear hb HX0 HL0)
  go_upto_region 4 with fail
  go_cut [5] (fun v5 wx => ∃ A c l, v5 = .slice A (P2).length c ∧ QB w x l A (P2).length c (P2) wx)
  case first =>
    have HQ := Lib.hid (HQ.out.below (Below.refl _ _).drew)
    refine wp_region_held_drew (S := (fun w' => w'.cell? ⟨w.heap.size, 0, none⟩ = some (.int .u64 x.s) ∧ w'.cell? ⟨w.heap.size, 1, none⟩ = some (.int .u64 x.d) ∧ True)) (by kernel_rfl) (⟨HQ.out.box.cell 0, HQ.out.box.cell 1, trivial⟩) (fun hHeld => ?_)
    refine wpAnyH_take (i := 0) (oi := { dst := some 12, op := Go.Op.fieldAddr 32 (Go.Operand.tmp 1) 1, type := 0, pos := "ref.go:73", after := #[], guard := none }) (v := ?_) rfl (by kernel_rfl) (by kernel_rfl) (by kernel_rfl) (fun _ _ _ h => h) (Or.inl ⟨by rfl, ?_⟩) (by assumption) ?_
    rotate_left
    · intro wS hSw
      try dsimp only at hSw
      go_split_ands
      go_simp
      try with_reducible rfl
    try simp only [Act.put, List.setIfInBounds_toArray, List.set_cons_zero, List.set_cons_succ]
    refine wpAnyH_take (i := 1) (oi := { dst := some 13, op := Go.Op.load 26 (Go.Operand.tmp 12), type := 26, pos := "ref.go:73", after := #[{ on := 0, ground := Go.Ground.data }], guard := none }) (v := ?_) rfl (by kernel_rfl) (by kernel_rfl) (by kernel_rfl) (fun _ _ _ h => h) (Or.inl ⟨by rfl, ?_⟩) (by assumption) ?_
    rotate_left
    · intro wS hSw
      try dsimp only at hSw
      go_split_ands
      go_simp
      try with_reducible rfl
    try simp only [Act.put, List.setIfInBounds_toArray, List.set_cons_zero, List.set_cons_succ]
    refine wpAnyH_take (i := 3) (oi := { dst := some 15, op := Go.Op.fieldAddr 32 (Go.Operand.tmp 1) 0, type := 0, pos := "ref.go:73", after := #[], guard := none }) (v := ?_) rfl (by kernel_rfl) (by kernel_rfl) (by kernel_rfl) (fun _ _ _ h => h) (Or.inl ⟨by rfl, ?_⟩) (by assumption) ?_
    rotate_left
    · intro wS hSw
      try dsimp only at hSw
      go_split_ands
      go_simp
      try with_reducible rfl
    try simp only [Act.put, List.setIfInBounds_toArray, List.set_cons_zero, List.set_cons_succ]
    refine wpAnyH_take (i := 4) (oi := { dst := some 16, op := Go.Op.load 26 (Go.Operand.tmp 15), type := 26, pos := "ref.go:73", after := #[{ on := 3, ground := Go.Ground.data }], guard := none }) (v := ?_) rfl (by kernel_rfl) (by kernel_rfl) (by kernel_rfl) (fun _ _ _ h => h) (Or.inl ⟨by rfl, ?_⟩) (by assumption) ?_
    rotate_left
    · intro wS hSw
      try dsimp only at hSw
      go_split_ands
      go_simp
      try with_reducible rfl
    try simp only [Act.put, List.setIfInBounds_toArray, List.set_cons_zero, List.set_cons_succ]
    refine wpAnyH_ready (rs := [2]) (by kernel_rfl) (by simp) ?_
    refine AllReadyH.cons (o := { dst := some 14, op := Go.Op.call { callee := Go.Callee.value (Go.Operand.func 35), args := #[Go.Operand.const (Go.Value.slice none 0 0), Go.Operand.tmp 13, Go.Operand.const (Go.Value.int Go.IntKind.i64 6)], argTypes := #[40, 25, 3] }, type := 40, pos := "ref.go:73", after := #[{ on := 1, ground := Go.Ground.data }], guard := none }) rfl (fun K hK => ?_) AllReadyH.nil
    go_simp
    go_at_call 35
    refine (rput7_6 _ _ [] (x.d) ⟨by omega, by omega⟩ (by decide) _ HQ.out.o5).mono ?_
    rw [HP1.out]
    rintro e w2 ⟨A2, c2, l2, rfl, ho, hn⟩
    have HQ := Lib.hid (HQ.out.step ho hn)
    clear ho hn
    refine hK.out _ _ (⟨HQ.out.box.cell 0, HQ.out.box.cell 1, trivial⟩) (fun hHeld => ?_)
    clear hK K
    try simp only [Act.put, List.setIfInBounds_toArray, List.set_cons_zero, List.set_cons_succ]
    refine wpAnyH_ready (rs := [5]) (by kernel_rfl) (by simp) ?_
    refine AllReadyH.cons (o := { dst := some 17, op := Go.Op.call { callee := Go.Callee.value (Go.Operand.func 35), args := #[Go.Operand.tmp 14, Go.Operand.tmp 16, Go.Operand.const (Go.Value.int Go.IntKind.i64 6)], argTypes := #[40, 25, 3] }, type := 40, pos := "ref.go:73", after := #[{ on := 2, ground := Go.Ground.data }, { on := 4, ground := Go.Ground.data }, { on := 2, ground := Go.Ground.chain }], guard := none }) rfl (fun K hK => ?_) AllReadyH.nil
    go_simp
    go_at_call 35
    refine (rput7_6 _ _ P1 (x.s) ⟨by omega, by omega⟩ (by have := HLP1.out; omega) _ HQ.out.o5).mono ?_
    rw [HP2.out]
    rintro e w5 ⟨A5, c5, l5, rfl, ho, hn⟩
    have HQ := Lib.hid (HQ.out.step ho hn)
    clear ho hn
    refine hK.out _ _ (⟨HQ.out.box.cell 0, HQ.out.box.cell 1, trivial⟩) (fun hHeld => ?_)
    clear hK K
    try simp only [Act.put, List.setIfInBounds_toArray, List.set_cons_zero, List.set_cons_succ]
    refine wpAnyH_take (i := 6) (oi := { dst := some 5, op := Go.Op.assign (Go.Operand.tmp 17), type := 40, pos := "ref.go:73", after := #[{ on := 5, ground := Go.Ground.data }, { on := 5, ground := Go.Ground.chain }, { on := 0, ground := Go.Ground.phase }, { on := 1, ground := Go.Ground.phase }, { on := 2, ground := Go.Ground.phase }, { on := 3, ground := Go.Ground.phase }, { on := 4, ground := Go.Ground.phase }, { on := 5, ground := Go.Ground.phase }], guard := none }) (v := ?_) rfl (by kernel_rfl) (by kernel_rfl) (by kernel_rfl) (fun _ _ _ h => h) (Or.inl ⟨by rfl, ?_⟩) (by assumption) ?_
    rotate_left
    · intro wS hSw
      try dsimp only at hSw
      go_split_ands
      go_simp
      try with_reducible rfl
    try simp only [Act.put, List.setIfInBounds_toArray, List.set_cons_zero, List.set_cons_succ]
    refine wpAnyH_done (by kernel_rfl) ?_ _
    go_wp2_with fail
    go_meet
    exact ⟨_, _, _, rfl, HQ.out⟩
  case rest =>
  obtain ⟨A, c, l, rfl, hq⟩ := hcut
  clear HQ
  have HQ := Lib.hid hq
  clear hq
  have c2 := HQ.out.box.cell 2
  simp only [List.getElem?_toArray, List.getElem?_cons_zero, List.getElem?_cons_succ] at c2
  rw [HK.out] at c2
  have HQk := Lib.hid (HQ.out.below (W' := wc.alloc (.cells #[.int .u8 136, .int .u8 181] 5)) ((Below.refl _ wc).alloc (Nat.le_refl _) _))
  have LB : Hid (Lz (wc.alloc (.cells #[.int .u8 136, .int .u8 181] 5)) l (.slice (some ⟨wc.heap.size, 0, none⟩) 2 2) [136, 181]) := Lib.hid (Lz.made _ rfl rfl HQ.out.o5.lt)
  clear HQ
  go_wp2_with (at_builtin; refine wpList_app5z rfl (.tmp 60) (.tmp 61) rfl HQk.out.o5 rfl LB.out rfl (by have := HLP2.out; simp; omega) (some 62) rfl ?_; rw [HP3.out]; intro A2 c2' w2 l2 ho hn; have HQ := Lib.hid (HQk.out.step ho hn); clear ho hn HQk LB; have c14 := HQ.out.box.cell 14; simp only [List.getElem?_toArray, List.getElem?_cons_zero, List.getElem?_cons_succ] at c14; skip)
  go_wp2_with (go_at_call 35; refine (rput7_8 _ _ P3 x.da ⟨by omega, by omega⟩ (by have := HLP3.out; omega) _ HQ.out.o5).mono ?_; rw [HFin.out]; rintro e w90 ⟨A9, c9, l9, rfl, ho, hn⟩; have HQ9 := Lib.hid (HQ.out.step ho hn); clear ho hn)
  obtain ⟨g, rfl, hrow, rfl⟩ := HQ9.out.o5.to (fenc_pos x) rfl
  have HG : Hid (Row w90 g c9 (fenc x) ∧ w.heap.size ≤ g ∧ Below w.heap.size w w90) := Lib.hid ⟨hrow, (HQ9.out.nx.below (by simp) (Nat.le_refl _)).2 g (by simp), HQ9.out.lo⟩
  clear hrow HQ9 HQ
  go_wp2_with fail
  go_ret2
  exact ⟨g, c9, rfl, HG.out⟩

set_option maxHeartbeats 4000000 in
theorem rbytes_1 (x : FR) (hx : x.ty) (hc : fchk x = 0) (hk : x.k = 1) (w : World) : Calls Try.prog 33 #[.agg x.cs] w (Enc w x) := by
  have HChk : Hid (∀ W : World, Calls Try.prog 36 #[.agg #[.int .u64 x.s, .int .u64 x.d, .int .i64 x.k, .int .i64 x.op, .int .u64 x.sm, .int .u32 x.si, .int .u64 x.tm, .int .u32 x.ti, .int .u32 x.hs, .int .u32 x.hd, .int .i64 x.tl, .int .i64 x.pr, .int .i64 x.sp, .int .i64 x.dp, .int .u64 x.da]] W fun e w' => e = .returned (.int .i64 0) ∧ Below W.heap.size W w') := Lib.hid (fun W => hc ▸ rcheck_any x hx W)
  obtain ⟨hs1, hd1, _, hpe, h1, h2⟩ := fchk_zero hc
  have hs0 := hx.s.1
  have hd0 := hx.d.1
  obtain ⟨hda0, hda1⟩ := hx.da
  have HK := Lib.hid hk
  obtain ⟨⟨hop0, hop1⟩, ⟨hsm0, hsm1⟩, ⟨hsi0, hsi1⟩, ⟨htm0, htm1⟩, ⟨hti0, hti1⟩⟩ := hx.okA (h1 hk)
  have wa0 : IntKind.u64.wrap x.op = x.op := wr64 _ (by omega) (by omega)
  have wb0 : x.op % 18446744073709551616 = x.op := by omega
  have wa1 : IntKind.u64.wrap x.si = x.si := wr64 _ (by omega) (by omega)
  have wb1 : x.si % 18446744073709551616 = x.si := by omega
  have wa2 : IntKind.u64.wrap x.ti = x.ti := wr64 _ (by omega) (by omega)
  have wb2 : x.ti % 18446744073709551616 = x.ti := by omega
  obtain ⟨P1, hP1⟩ : ∃ P : List Int, [] ++ be x.d 6 = P := ⟨_, rfl⟩
  have hlP1 : P1.length ≤ 40 := by rw [← hP1]; simp [be_length]; try omega
  obtain ⟨P2, hP2⟩ : ∃ P : List Int, P1 ++ be x.s 6 = P := ⟨_, rfl⟩
  have hlP2 : P2.length ≤ 80 := by rw [← hP2]; simp [be_length]; try omega
  obtain ⟨P3, hP3⟩ : ∃ P : List Int, P2 ++ [8, 6, 0, 1, 8, 0, 6, 4] = P := ⟨_, rfl⟩
  have hlP3 : P3.length ≤ 120 := by rw [← hP3]; simp [be_length]; try omega
  obtain ⟨P4, hP4⟩ : ∃ P : List Int, P3 ++ be x.op 2 = P := ⟨_, rfl⟩
  have hlP4 : P4.length ≤ 160 := by rw [← hP4]; simp [be_length]; try omega
  obtain ⟨P5, hP5⟩ : ∃ P : List Int, P4 ++ be x.sm 6 = P := ⟨_, rfl⟩
  have hlP5 : P5.length ≤ 200 := by rw [← hP5]; simp [be_length]; try omega
  obtain ⟨P6, hP6⟩ : ∃ P : List Int, P5 ++ be x.si 4 = P := ⟨_, rfl⟩
  have hlP6 : P6.length ≤ 240 := by rw [← hP6]; simp [be_length]; try omega
  obtain ⟨P7, hP7⟩ : ∃ P : List Int, P6 ++ be x.tm 6 = P := ⟨_, rfl⟩
  have hlP7 : P7.length ≤ 280 := by rw [← hP7]; simp [be_length]; try omega
  obtain ⟨P8, hP8⟩ : ∃ P : List Int, P7 ++ be x.ti 4 = P := ⟨_, rfl⟩
  have hlP8 : P8.length ≤ 320 := by rw [← hP8]; simp [be_length]; try omega
  have HFin : Hid (P8 ++ be x.da 8 = fenc x) := Lib.hid (by
    have e : ([8, 6, 0, 1, 8, 0, 6, 4] : List Int) = be 2054 2 ++ be 4429186564 6 := by decide
    rw [← hP8, ← hP7, ← hP6, ← hP5, ← hP4, ← hP3, ← hP2, ← hP1, e, enc_a hk]; simp only [segA, flat, List.nil_append, List.append_nil, List.append_assoc])
  clear hc hpe h1 h2 hk hx
  have HP1 := Lib.hid hP1
  have HLP1 := Lib.hid hlP1
  have HP2 := Lib.hid hP2
  have HLP2 := Lib.hid hlP2
  have HP3 := Lib.hid hP3
  have HLP3 := Lib.hid hlP3
  have HP4 := Lib.hid hP4
  have HLP4 := Lib.hid hlP4
  have HP5 := Lib.hid hP5
  have HLP5 := Lib.hid hlP5
  have HP6 := Lib.hid hP6
  have HLP6 := Lib.hid hlP6
  have HP7 := Lib.hid hP7
  have HLP7 := Lib.hid hlP7
  have HP8 := Lib.hid hP8
  have HLP8 := Lib.hid hlP8
  clear hP1 hlP1 hP2 hlP2 hP3 hlP3 hP4 hlP4 hP5 hlP5 hP6 hlP6 hP7 hlP7 hP8 hlP8
  unfold FR.cs
  have HX0 : Hid (Has (w.alloc (.cells #[.int .u64 x.s, .int .u64 x.d, .int .i64 x.k, .int .i64 x.op, .int .u64 x.sm, .int .u32 x.si, .int .u64 x.tm, .int .u32 x.ti, .int .u32 x.hs, .int .u32 x.hd, .int .i64 x.tl, .int .i64 x.pr, .int .i64 x.sp, .int .i64 x.dp, .int .u64 x.da] 32)) w.heap.size 32 #[.int .u64 x.s, .int .u64 x.d, .int .i64 x.k, .int .i64 x.op, .int .u64 x.sm, .int .u32 x.si, .int .u64 x.tm, .int .u32 x.ti, .int .u32 x.hs, .int .u32 x.hd, .int .i64 x.tl, .int .i64 x.pr, .int .i64 x.sp, .int .i64 x.dp, .int .u64 x.da]) := Lib.hid (Has.new w _ _)
  have HL0 : Hid (Below w.heap.size w (w.alloc (.cells #[.int .u64 x.s, .int .u64 x.d, .int .i64 x.k, .int .i64 x.op, .int .u64 x.sm, .int .u32 x.si, .int .u64 x.tm, .int .u32 x.ti, .int .u32 x.hs, .int .u32 x.hd, .int .i64 x.tl, .int .i64 x.pr, .int .i64 x.sp, .int .i64 x.dp, .int .u64 x.da] 32))) := Lib.hid ((Below.refl _ w).alloc (Nat.le_refl _) _)
  go_enter Try.func33, Try.ntmps33
  go_upto_region 4 with (go_at_call 36; refine (HChk.out _).mono ?_; rintro e w1 ⟨rfl, hb⟩; have HQ : Hid (QB w x [] none 0 0 [] w1) := Lib.hid (QB.start (HL0.out.trans (hb.mono HL0.out.size)) (HX0.out.below hb)); clear hb HX0 HL0)
  go_upto_region 4 with fail
  go_cut [5] (fun v5 wx => ∃ A c l, v5 = .slice A (P2).length c ∧ QB w x l A (P2).length c (P2) wx)
  case first =>
    have HQ := Lib.hid (HQ.out.below (Below.refl _ _).drew)
    refine wp_region_held_drew (S := (fun w' => w'.cell? ⟨w.heap.size, 0, none⟩ = some (.int .u64 x.s) ∧ w'.cell? ⟨w.heap.size, 1, none⟩ = some (.int .u64 x.d) ∧ True)) (by kernel_rfl) (⟨HQ.out.box.cell 0, HQ.out.box.cell 1, trivial⟩) (fun hHeld => ?_)
    refine wpAnyH_take (i := 0) (oi := { dst := some 12, op := Go.Op.fieldAddr 32 (Go.Operand.tmp 1) 1, type := 0, pos := "ref.go:73", after := #[], guard := none }) (v := ?_) rfl (by kernel_rfl) (by kernel_rfl) (by kernel_rfl) (fun _ _ _ h => h) (Or.inl ⟨by rfl, ?_⟩) (by assumption) ?_
    rotate_left
    · intro wS hSw
      try dsimp only at hSw
      go_split_ands
      go_simp
      try with_reducible rfl
    try simp only [Act.put, List.setIfInBounds_toArray, List.set_cons_zero, List.set_cons_succ]
    refine wpAnyH_take (i := 1) (oi := { dst := some 13, op := Go.Op.load 26 (Go.Operand.tmp 12), type := 26, pos := "ref.go:73", after := #[{ on := 0, ground := Go.Ground.data }], guard := none }) (v := ?_) rfl (by kernel_rfl) (by kernel_rfl) (by kernel_rfl) (fun _ _ _ h => h) (Or.inl ⟨by rfl, ?_⟩) (by assumption) ?_
    rotate_left
    · intro wS hSw
      try dsimp only at hSw
      go_split_ands
      go_simp
      try with_reducible rfl
    try simp only [Act.put, List.setIfInBounds_toArray, List.set_cons_zero, List.set_cons_succ]
    refine wpAnyH_take (i := 3) (oi := { dst := some 15, op := Go.Op.fieldAddr 32 (Go.Operand.tmp 1) 0, type := 0, pos := "ref.go:73", after := #[], guard := none }) (v := ?_) rfl (by kernel_rfl) (by kernel_rfl) (by kernel_rfl) (fun _ _ _ h => h) (Or.inl ⟨by rfl, ?_⟩) (by assumption) ?_
    rotate_left
    · intro wS hSw
      try dsimp only at hSw
      go_split_ands
      go_simp
      try with_reducible rfl
    try simp only [Act.put, List.setIfInBounds_toArray, List.set_cons_zero, List.set_cons_succ]
    refine wpAnyH_take (i := 4) (oi := { dst := some 16, op := Go.Op.load 26 (Go.Operand.tmp 15), type := 26, pos := "ref.go:73", after := #[{ on := 3, ground := Go.Ground.data }], guard := none }) (v := ?_) rfl (by kernel_rfl) (by kernel_rfl) (by kernel_rfl) (fun _ _ _ h => h) (Or.inl ⟨by rfl, ?_⟩) (by assumption) ?_
    rotate_left
    · intro wS hSw
      try dsimp only at hSw
      go_split_ands
      go_simp
      try with_reducible rfl
    try simp only [Act.put, List.setIfInBounds_toArray, List.set_cons_zero, List.set_cons_succ]
    refine wpAnyH_ready (rs := [2]) (by kernel_rfl) (by simp) ?_
    refine AllReadyH.cons (o := { dst := some 14, op := Go.Op.call { callee := Go.Callee.value (Go.Operand.func 35), args := #[Go.Operand.const (Go.Value.slice none 0 0), Go.Operand.tmp 13, Go.Operand.const (Go.Value.int Go.IntKind.i64 6)], argTypes := #[40, 25, 3] }, type := 40, pos := "ref.go:73", after := #[{ on := 1, ground := Go.Ground.data }], guard := none }) rfl (fun K hK => ?_) AllReadyH.nil
    go_simp
    go_at_call 35
    refine (rput7_6 _ _ [] (x.d) ⟨by omega, by omega⟩ (by decide) _ HQ.out.o5).mono ?_
    rw [HP1.out]
    rintro e w2 ⟨A2, c2, l2, rfl, ho, hn⟩
    have HQ := Lib.hid (HQ.out.step ho hn)
    clear ho hn
    refine hK.out _ _ (⟨HQ.out.box.cell 0, HQ.out.box.cell 1, trivial⟩) (fun hHeld => ?_)
    clear hK K
    try simp only [Act.put, List.setIfInBounds_toArray, List.set_cons_zero, List.set_cons_succ]
    refine wpAnyH_ready (rs := [5]) (by kernel_rfl) (by simp) ?_
    refine AllReadyH.cons (o := { dst := some 17, op := Go.Op.call { callee := Go.Callee.value (Go.Operand.func 35), args := #[Go.Operand.tmp 14, Go.Operand.tmp 16, Go.Operand.const (Go.Value.int Go.IntKind.i64 6)], argTypes := #[40, 25, 3] }, type := 40, pos := "ref.go:73", after := #[{ on := 2, ground := Go.Ground.data }, { on := 4, ground := Go.Ground.data }, { on := 2, ground := Go.Ground.chain }], guard := none }) rfl (fun K hK => ?_) AllReadyH.nil
    go_simp
    go_at_call 35
    refine (rput7_6 _ _ P1 (x.s) ⟨by omega, by omega⟩ (by have := HLP1.out; omega) _ HQ.out.o5).mono ?_
    rw [HP2.out]
    rintro e w5 ⟨A5, c5, l5, rfl, ho, hn⟩
    have HQ := Lib.hid (HQ.out.step ho hn)
    clear ho hn
    refine hK.out _ _ (⟨HQ.out.box.cell 0, HQ.out.box.cell 1, trivial⟩) (fun hHeld => ?_)
    clear hK K
    try simp only [Act.put, List.setIfInBounds_toArray, List.set_cons_zero, List.set_cons_succ]
    refine wpAnyH_take (i := 6) (oi := { dst := some 5, op := Go.Op.assign (Go.Operand.tmp 17), type := 40, pos := "ref.go:73", after := #[{ on := 5, ground := Go.Ground.data }, { on := 5, ground := Go.Ground.chain }, { on := 0, ground := Go.Ground.phase }, { on := 1, ground := Go.Ground.phase }, { on := 2, ground := Go.Ground.phase }, { on := 3, ground := Go.Ground.phase }, { on := 4, ground := Go.Ground.phase }, { on := 5, ground := Go.Ground.phase }], guard := none }) (v := ?_) rfl (by kernel_rfl) (by kernel_rfl) (by kernel_rfl) (fun _ _ _ h => h) (Or.inl ⟨by rfl, ?_⟩) (by assumption) ?_
    rotate_left
    · intro wS hSw
      try dsimp only at hSw
      go_split_ands
      go_simp
      try with_reducible rfl
    try simp only [Act.put, List.setIfInBounds_toArray, List.set_cons_zero, List.set_cons_succ]
    refine wpAnyH_done (by kernel_rfl) ?_ _
    go_wp2_with fail
    go_meet
    exact ⟨_, _, _, rfl, HQ.out⟩
  case rest =>
  obtain ⟨A, c, l, rfl, hq⟩ := hcut
  clear HQ
  have HQ := Lib.hid hq
  clear hq
  have c2 := HQ.out.box.cell 2
  simp only [List.getElem?_toArray, List.getElem?_cons_zero, List.getElem?_cons_succ] at c2
  rw [HK.out] at c2
  go_upto_region 16 with fail
  go_cut [5] (fun v5 wx => ∃ A c l, v5 = .slice A (P4).length c ∧ QB w x l A (P4).length c (P4) wx)
  case first =>
    have HQ := Lib.hid (HQ.out.below (Below.refl _ _).drew)
    refine wp_region_held_drew (S := (fun w' => w'.cell? ⟨w.heap.size, 3, none⟩ = some (.int .i64 x.op) ∧ True)) (by kernel_rfl) (⟨HQ.out.box.cell 3, trivial⟩) (fun hHeld => ?_)
    refine wpAnyH_take (i := 0) (oi := { dst := some 65, op := Go.Op.move (Go.Operand.tmp 5), type := 40, pos := "ref.go:78", after := #[], guard := none }) (v := ?_) rfl (by kernel_rfl) (by kernel_rfl) (by kernel_rfl) (fun _ _ _ h => h) (Or.inl ⟨by rfl, ?_⟩) (by assumption) ?_
    rotate_left
    · intro wS hSw
      try dsimp only at hSw
      go_split_ands
      go_simp
      try with_reducible rfl
    try simp only [Act.put, List.setIfInBounds_toArray, List.set_cons_zero, List.set_cons_succ]
    refine wpAnyH_take (i := 3) (oi := { dst := some 68, op := Go.Op.fieldAddr 32 (Go.Operand.tmp 1) 3, type := 0, pos := "ref.go:78", after := #[], guard := none }) (v := ?_) rfl (by kernel_rfl) (by kernel_rfl) (by kernel_rfl) (fun _ _ _ h => h) (Or.inl ⟨by rfl, ?_⟩) (by assumption) ?_
    rotate_left
    · intro wS hSw
      try dsimp only at hSw
      go_split_ands
      go_simp
      try with_reducible rfl
    try simp only [Act.put, List.setIfInBounds_toArray, List.set_cons_zero, List.set_cons_succ]
    refine wpAnyH_take (i := 4) (oi := { dst := some 69, op := Go.Op.fieldAddr 28 (Go.Operand.tmp 68) 0, type := 0, pos := "ref.go:78", after := #[{ on := 3, ground := Go.Ground.data }], guard := none }) (v := ?_) rfl (by kernel_rfl) (by kernel_rfl) (by kernel_rfl) (fun _ _ _ h => h) (Or.inl ⟨by rfl, ?_⟩) (by assumption) ?_
    rotate_left
    · intro wS hSw
      try dsimp only at hSw
      go_split_ands
      go_simp
      try with_reducible rfl
    try simp only [Act.put, List.setIfInBounds_toArray, List.set_cons_zero, List.set_cons_succ]
    refine wpAnyH_take (i := 5) (oi := { dst := some 70, op := Go.Op.load 3 (Go.Operand.tmp 69), type := 3, pos := "ref.go:78", after := #[{ on := 4, ground := Go.Ground.data }], guard := none }) (v := ?_) rfl (by kernel_rfl) (by kernel_rfl) (by kernel_rfl) (fun _ _ _ h => h) (Or.inl ⟨by rfl, ?_⟩) (by assumption) ?_
    rotate_left
    · intro wS hSw
      try dsimp only at hSw
      go_split_ands
      go_simp
      try with_reducible rfl
    try simp only [Act.put, List.setIfInBounds_toArray, List.set_cons_zero, List.set_cons_succ]
    refine wpAnyH_take (i := 6) (oi := { dst := some 71, op := Go.Op.convert 3 25 (Go.Operand.tmp 70), type := 25, pos := "ref.go:78", after := #[{ on := 5, ground := Go.Ground.data }], guard := none }) (v := ?_) rfl (by kernel_rfl) (by kernel_rfl) (by kernel_rfl) (fun _ _ _ h => h) (Or.inl ⟨by rfl, ?_⟩) (by assumption) ?_
    rotate_left
    · intro wS hSw
      try dsimp only at hSw
      go_split_ands
      go_simp
      try with_reducible rfl
    try simp only [Act.put, List.setIfInBounds_toArray, List.set_cons_zero, List.set_cons_succ]
    refine wpAnyH_ready (rs := [1]) (by kernel_rfl) (by simp) ?_
    refine AllReadyH.cons (o := { dst := some 66, op := Go.Op.buildSlice 40 8 #[(0, Go.Operand.const (Go.Value.int Go.IntKind.u8 8)), (1, Go.Operand.const (Go.Value.int Go.IntKind.u8 6)), (2, Go.Operand.const (Go.Value.int Go.IntKind.u8 0)), (3, Go.Operand.const (Go.Value.int Go.IntKind.u8 1)), (4, Go.Operand.const (Go.Value.int Go.IntKind.u8 8)), (5, Go.Operand.const (Go.Value.int Go.IntKind.u8 0)), (6, Go.Operand.const (Go.Value.int Go.IntKind.u8 6)), (7, Go.Operand.const (Go.Value.int Go.IntKind.u8 4))], type := 40, pos := "ref.go:78", after := #[], guard := none }) rfl (fun K hK => ?_) AllReadyH.nil
    go_simp
    have LB : Hid (Lz (wc.drew.alloc (.cells #[.int .u8 8, .int .u8 6, .int .u8 0, .int .u8 1, .int .u8 8, .int .u8 0, .int .u8 6, .int .u8 4] 5)) l (.slice (some ⟨wc.drew.heap.size, 0, none⟩) 8 8) [8, 6, 0, 1, 8, 0, 6, 4]) := Lib.hid (Lz.made (W := wc.drew) _ rfl rfl HQ.out.o5.lt)
    have HQ := Lib.hid (HQ.out.below (W' := (wc.drew.alloc (.cells #[.int .u8 8, .int .u8 6, .int .u8 0, .int .u8 1, .int .u8 8, .int .u8 0, .int .u8 6, .int .u8 4] 5))) ((Below.refl _ wc.drew).alloc (Nat.le_refl _) _))
    refine hK.out _ _ (⟨HQ.out.box.cell 3, trivial⟩) (fun hHeld => ?_)
    clear hK K
    try simp only [Act.put, List.setIfInBounds_toArray, List.set_cons_zero, List.set_cons_succ]
    refine wpAnyH_ready (rs := [2]) (by kernel_rfl) (by simp) ?_
    refine AllReadyH.cons (o := { dst := some 67, op := Go.Op.call { callee := Go.Callee.builtin Go.Builtin.append, args := #[Go.Operand.tmp 65, Go.Operand.tmp 66], argTypes := #[40, 40] }, type := 40, pos := "ref.go:78", after := #[{ on := 0, ground := Go.Ground.data }, { on := 1, ground := Go.Ground.data }], guard := none }) rfl (fun K hK => ?_) AllReadyH.nil
    refine step_app5z rfl (.tmp 65) (.tmp 66) rfl HQ.out.o5 rfl LB.out rfl (by have := HLP2.out; simp [hdrS, hdr_len]; try omega) (some 67) rfl ?_
    rw [HP3.out]
    intro A21 c21 w21 l21 ho hn
    have HQ := Lib.hid (HQ.out.step ho hn)
    clear ho hn
    refine hK.out _ _ (⟨HQ.out.box.cell 3, trivial⟩) (fun hHeld => ?_)
    clear hK K
    try simp only [Act.put, List.setIfInBounds_toArray, List.set_cons_zero, List.set_cons_succ]
    refine wpAnyH_ready (rs := [7]) (by kernel_rfl) (by simp) ?_
    refine AllReadyH.cons (o := { dst := some 72, op := Go.Op.call { callee := Go.Callee.value (Go.Operand.func 35), args := #[Go.Operand.tmp 67, Go.Operand.tmp 71, Go.Operand.const (Go.Value.int Go.IntKind.i64 2)], argTypes := #[40, 25, 3] }, type := 40, pos := "ref.go:78", after := #[{ on := 2, ground := Go.Ground.data }, { on := 6, ground := Go.Ground.data }, { on := 2, ground := Go.Ground.chain }], guard := none }) rfl (fun K hK => ?_) AllReadyH.nil
    go_simp
    go_at_call 35
    refine (rput7_2 _ _ P3 (x.op) ⟨by omega, by omega⟩ (by have := HLP3.out; omega) _ HQ.out.o5).mono ?_
    rw [HP4.out]
    rintro e w7 ⟨A7, c7, l7, rfl, ho, hn⟩
    have HQ := Lib.hid (HQ.out.step ho hn)
    clear ho hn
    refine hK.out _ _ (⟨HQ.out.box.cell 3, trivial⟩) (fun hHeld => ?_)
    clear hK K
    try simp only [Act.put, List.setIfInBounds_toArray, List.set_cons_zero, List.set_cons_succ]
    refine wpAnyH_take (i := 8) (oi := { dst := some 5, op := Go.Op.assign (Go.Operand.tmp 72), type := 40, pos := "ref.go:78", after := #[{ on := 7, ground := Go.Ground.data }, { on := 7, ground := Go.Ground.chain }, { on := 0, ground := Go.Ground.phase }, { on := 1, ground := Go.Ground.phase }, { on := 2, ground := Go.Ground.phase }, { on := 3, ground := Go.Ground.phase }, { on := 4, ground := Go.Ground.phase }, { on := 5, ground := Go.Ground.phase }, { on := 6, ground := Go.Ground.phase }, { on := 7, ground := Go.Ground.phase }], guard := none }) (v := ?_) rfl (by kernel_rfl) (by kernel_rfl) (by kernel_rfl) (fun _ _ _ h => h) (Or.inl ⟨by rfl, ?_⟩) (by assumption) ?_
    rotate_left
    · intro wS hSw
      try dsimp only at hSw
      go_split_ands
      go_simp
      try with_reducible rfl
    try simp only [Act.put, List.setIfInBounds_toArray, List.set_cons_zero, List.set_cons_succ]
    refine wpAnyH_done (by kernel_rfl) ?_ _
    go_wp2_with fail
    go_meet
    exact ⟨_, _, _, rfl, HQ.out⟩
  case rest =>
  obtain ⟨A, c, l, rfl, hq⟩ := hcut
  clear HQ c2
  have HQ := Lib.hid hq
  clear hq
  go_upto_region 17 with fail
  go_cut [5] (fun v5 wx => ∃ A c l, v5 = .slice A (P6).length c ∧ QB w x l A (P6).length c (P6) wx)
  case first =>
    have HQ := Lib.hid (HQ.out.below (Below.refl _ _).drew)
    refine wp_region_held_drew (S := (fun w' => w'.cell? ⟨w.heap.size, 4, none⟩ = some (.int .u64 x.sm) ∧ w'.cell? ⟨w.heap.size, 5, none⟩ = some (.int .u32 x.si) ∧ True)) (by kernel_rfl) (⟨HQ.out.box.cell 4, HQ.out.box.cell 5, trivial⟩) (fun hHeld => ?_)
    refine wpAnyH_take (i := 0) (oi := { dst := some 73, op := Go.Op.move (Go.Operand.tmp 5), type := 40, pos := "ref.go:79", after := #[], guard := none }) (v := ?_) rfl (by kernel_rfl) (by kernel_rfl) (by kernel_rfl) (fun _ _ _ h => h) (Or.inl ⟨by rfl, ?_⟩) (by assumption) ?_
    rotate_left
    · intro wS hSw
      try dsimp only at hSw
      go_split_ands
      go_simp
      try with_reducible rfl
    try simp only [Act.put, List.setIfInBounds_toArray, List.set_cons_zero, List.set_cons_succ]
    refine wpAnyH_take (i := 1) (oi := { dst := some 74, op := Go.Op.fieldAddr 32 (Go.Operand.tmp 1) 3, type := 0, pos := "ref.go:79", after := #[], guard := none }) (v := ?_) rfl (by kernel_rfl) (by kernel_rfl) (by kernel_rfl) (fun _ _ _ h => h) (Or.inl ⟨by rfl, ?_⟩) (by assumption) ?_
    rotate_left
    · intro wS hSw
      try dsimp only at hSw
      go_split_ands
      go_simp
      try with_reducible rfl
    try simp only [Act.put, List.setIfInBounds_toArray, List.set_cons_zero, List.set_cons_succ]
    refine wpAnyH_take (i := 2) (oi := { dst := some 75, op := Go.Op.fieldAddr 28 (Go.Operand.tmp 74) 1, type := 0, pos := "ref.go:79", after := #[{ on := 1, ground := Go.Ground.data }], guard := none }) (v := ?_) rfl (by kernel_rfl) (by kernel_rfl) (by kernel_rfl) (fun _ _ _ h => h) (Or.inl ⟨by rfl, ?_⟩) (by assumption) ?_
    rotate_left
    · intro wS hSw
      try dsimp only at hSw
      go_split_ands
      go_simp
      try with_reducible rfl
    try simp only [Act.put, List.setIfInBounds_toArray, List.set_cons_zero, List.set_cons_succ]
    refine wpAnyH_take (i := 3) (oi := { dst := some 76, op := Go.Op.load 26 (Go.Operand.tmp 75), type := 26, pos := "ref.go:79", after := #[{ on := 2, ground := Go.Ground.data }], guard := none }) (v := ?_) rfl (by kernel_rfl) (by kernel_rfl) (by kernel_rfl) (fun _ _ _ h => h) (Or.inl ⟨by rfl, ?_⟩) (by assumption) ?_
    rotate_left
    · intro wS hSw
      try dsimp only at hSw
      go_split_ands
      go_simp
      try with_reducible rfl
    try simp only [Act.put, List.setIfInBounds_toArray, List.set_cons_zero, List.set_cons_succ]
    refine wpAnyH_take (i := 5) (oi := { dst := some 78, op := Go.Op.fieldAddr 32 (Go.Operand.tmp 1) 3, type := 0, pos := "ref.go:79", after := #[], guard := none }) (v := ?_) rfl (by kernel_rfl) (by kernel_rfl) (by kernel_rfl) (fun _ _ _ h => h) (Or.inl ⟨by rfl, ?_⟩) (by assumption) ?_
    rotate_left
    · intro wS hSw
      try dsimp only at hSw
      go_split_ands
      go_simp
      try with_reducible rfl
    try simp only [Act.put, List.setIfInBounds_toArray, List.set_cons_zero, List.set_cons_succ]
    refine wpAnyH_take (i := 6) (oi := { dst := some 79, op := Go.Op.fieldAddr 28 (Go.Operand.tmp 78) 2, type := 0, pos := "ref.go:79", after := #[{ on := 5, ground := Go.Ground.data }], guard := none }) (v := ?_) rfl (by kernel_rfl) (by kernel_rfl) (by kernel_rfl) (fun _ _ _ h => h) (Or.inl ⟨by rfl, ?_⟩) (by assumption) ?_
    rotate_left
    · intro wS hSw
      try dsimp only at hSw
      go_split_ands
      go_simp
      try with_reducible rfl
    try simp only [Act.put, List.setIfInBounds_toArray, List.set_cons_zero, List.set_cons_succ]
    refine wpAnyH_take (i := 7) (oi := { dst := some 80, op := Go.Op.load 24 (Go.Operand.tmp 79), type := 24, pos := "ref.go:79", after := #[{ on := 6, ground := Go.Ground.data }], guard := none }) (v := ?_) rfl (by kernel_rfl) (by kernel_rfl) (by kernel_rfl) (fun _ _ _ h => h) (Or.inl ⟨by rfl, ?_⟩) (by assumption) ?_
    rotate_left
    · intro wS hSw
      try dsimp only at hSw
      go_split_ands
      go_simp
      try with_reducible rfl
    try simp only [Act.put, List.setIfInBounds_toArray, List.set_cons_zero, List.set_cons_succ]
    refine wpAnyH_take (i := 8) (oi := { dst := some 81, op := Go.Op.convert 24 25 (Go.Operand.tmp 80), type := 25, pos := "ref.go:79", after := #[{ on := 7, ground := Go.Ground.data }], guard := none }) (v := ?_) rfl (by kernel_rfl) (by kernel_rfl) (by kernel_rfl) (fun _ _ _ h => h) (Or.inl ⟨by rfl, ?_⟩) (by assumption) ?_
    rotate_left
    · intro wS hSw
      try dsimp only at hSw
      go_split_ands
      go_simp
      try with_reducible rfl
    try simp only [Act.put, List.setIfInBounds_toArray, List.set_cons_zero, List.set_cons_succ]
    refine wpAnyH_ready (rs := [4]) (by kernel_rfl) (by simp) ?_
    refine AllReadyH.cons (o := { dst := some 77, op := Go.Op.call { callee := Go.Callee.value (Go.Operand.func 35), args := #[Go.Operand.tmp 73, Go.Operand.tmp 76, Go.Operand.const (Go.Value.int Go.IntKind.i64 6)], argTypes := #[40, 25, 3] }, type := 40, pos := "ref.go:79", after := #[{ on := 0, ground := Go.Ground.data }, { on := 3, ground := Go.Ground.data }], guard := none }) rfl (fun K hK => ?_) AllReadyH.nil
    go_simp
    go_at_call 35
    refine (rput7_6 _ _ P4 (x.sm) ⟨by omega, by omega⟩ (by have := HLP4.out; omega) _ HQ.out.o5).mono ?_
    rw [HP5.out]
    rintro e w4 ⟨A4, c4, l4, rfl, ho, hn⟩
    have HQ := Lib.hid (HQ.out.step ho hn)
    clear ho hn
    refine hK.out _ _ (⟨HQ.out.box.cell 4, HQ.out.box.cell 5, trivial⟩) (fun hHeld => ?_)
    clear hK K
    try simp only [Act.put, List.setIfInBounds_toArray, List.set_cons_zero, List.set_cons_succ]
    refine wpAnyH_ready (rs := [9]) (by kernel_rfl) (by simp) ?_
    refine AllReadyH.cons (o := { dst := some 82, op := Go.Op.call { callee := Go.Callee.value (Go.Operand.func 35), args := #[Go.Operand.tmp 77, Go.Operand.tmp 81, Go.Operand.const (Go.Value.int Go.IntKind.i64 4)], argTypes := #[40, 25, 3] }, type := 40, pos := "ref.go:79", after := #[{ on := 4, ground := Go.Ground.data }, { on := 8, ground := Go.Ground.data }, { on := 4, ground := Go.Ground.chain }], guard := none }) rfl (fun K hK => ?_) AllReadyH.nil
    go_simp
    go_at_call 35
    refine (rput7_4 _ _ P5 (x.si) ⟨by omega, by omega⟩ (by have := HLP5.out; omega) _ HQ.out.o5).mono ?_
    rw [HP6.out]
    rintro e w9 ⟨A9, c9, l9, rfl, ho, hn⟩
    have HQ := Lib.hid (HQ.out.step ho hn)
    clear ho hn
    refine hK.out _ _ (⟨HQ.out.box.cell 4, HQ.out.box.cell 5, trivial⟩) (fun hHeld => ?_)
    clear hK K
    try simp only [Act.put, List.setIfInBounds_toArray, List.set_cons_zero, List.set_cons_succ]
    refine wpAnyH_take (i := 10) (oi := { dst := some 5, op := Go.Op.assign (Go.Operand.tmp 82), type := 40, pos := "ref.go:79", after := #[{ on := 9, ground := Go.Ground.data }, { on := 9, ground := Go.Ground.chain }, { on := 0, ground := Go.Ground.phase }, { on := 1, ground := Go.Ground.phase }, { on := 2, ground := Go.Ground.phase }, { on := 3, ground := Go.Ground.phase }, { on := 4, ground := Go.Ground.phase }, { on := 5, ground := Go.Ground.phase }, { on := 6, ground := Go.Ground.phase }, { on := 7, ground := Go.Ground.phase }, { on := 8, ground := Go.Ground.phase }, { on := 9, ground := Go.Ground.phase }], guard := none }) (v := ?_) rfl (by kernel_rfl) (by kernel_rfl) (by kernel_rfl) (fun _ _ _ h => h) (Or.inl ⟨by rfl, ?_⟩) (by assumption) ?_
    rotate_left
    · intro wS hSw
      try dsimp only at hSw
      go_split_ands
      go_simp
      try with_reducible rfl
    try simp only [Act.put, List.setIfInBounds_toArray, List.set_cons_zero, List.set_cons_succ]
    refine wpAnyH_done (by kernel_rfl) ?_ _
    go_wp2_with fail
    go_meet
    exact ⟨_, _, _, rfl, HQ.out⟩
  case rest =>
  obtain ⟨A, c, l, rfl, hq⟩ := hcut
  clear HQ
  have HQ := Lib.hid hq
  clear hq
  go_upto_region 18 with fail
  have HQ := Lib.hid (HQ.out.below (Below.refl _ _).drew)
  refine wp_region_held_drew (S := (fun w' => w'.cell? ⟨w.heap.size, 6, none⟩ = some (.int .u64 x.tm) ∧ w'.cell? ⟨w.heap.size, 7, none⟩ = some (.int .u32 x.ti) ∧ True)) (by kernel_rfl) (⟨HQ.out.box.cell 6, HQ.out.box.cell 7, trivial⟩) (fun hHeld => ?_)
  refine wpAnyH_take (i := 0) (oi := { dst := some 83, op := Go.Op.move (Go.Operand.tmp 5), type := 40, pos := "ref.go:80", after := #[], guard := none }) (v := ?_) rfl (by kernel_rfl) (by kernel_rfl) (by kernel_rfl) (fun _ _ _ h => h) (Or.inl ⟨by rfl, ?_⟩) (by assumption) ?_
  rotate_left
  · intro wS hSw
    try dsimp only at hSw
    go_split_ands
    go_simp
    try with_reducible rfl
  try simp only [Act.put, List.setIfInBounds_toArray, List.set_cons_zero, List.set_cons_succ]
  refine wpAnyH_take (i := 1) (oi := { dst := some 84, op := Go.Op.fieldAddr 32 (Go.Operand.tmp 1) 3, type := 0, pos := "ref.go:80", after := #[], guard := none }) (v := ?_) rfl (by kernel_rfl) (by kernel_rfl) (by kernel_rfl) (fun _ _ _ h => h) (Or.inl ⟨by rfl, ?_⟩) (by assumption) ?_
  rotate_left
  · intro wS hSw
    try dsimp only at hSw
    go_split_ands
    go_simp
    try with_reducible rfl
  try simp only [Act.put, List.setIfInBounds_toArray, List.set_cons_zero, List.set_cons_succ]
  refine wpAnyH_take (i := 2) (oi := { dst := some 85, op := Go.Op.fieldAddr 28 (Go.Operand.tmp 84) 3, type := 0, pos := "ref.go:80", after := #[{ on := 1, ground := Go.Ground.data }], guard := none }) (v := ?_) rfl (by kernel_rfl) (by kernel_rfl) (by kernel_rfl) (fun _ _ _ h => h) (Or.inl ⟨by rfl, ?_⟩) (by assumption) ?_
  rotate_left
  · intro wS hSw
    try dsimp only at hSw
    go_split_ands
    go_simp
    try with_reducible rfl
  try simp only [Act.put, List.setIfInBounds_toArray, List.set_cons_zero, List.set_cons_succ]
  refine wpAnyH_take (i := 3) (oi := { dst := some 86, op := Go.Op.load 26 (Go.Operand.tmp 85), type := 26, pos := "ref.go:80", after := #[{ on := 2, ground := Go.Ground.data }], guard := none }) (v := ?_) rfl (by kernel_rfl) (by kernel_rfl) (by kernel_rfl) (fun _ _ _ h => h) (Or.inl ⟨by rfl, ?_⟩) (by assumption) ?_
  rotate_left
  · intro wS hSw
    try dsimp only at hSw
    go_split_ands
    go_simp
    try with_reducible rfl
  try simp only [Act.put, List.setIfInBounds_toArray, List.set_cons_zero, List.set_cons_succ]
  refine wpAnyH_take (i := 5) (oi := { dst := some 88, op := Go.Op.fieldAddr 32 (Go.Operand.tmp 1) 3, type := 0, pos := "ref.go:80", after := #[], guard := none }) (v := ?_) rfl (by kernel_rfl) (by kernel_rfl) (by kernel_rfl) (fun _ _ _ h => h) (Or.inl ⟨by rfl, ?_⟩) (by assumption) ?_
  rotate_left
  · intro wS hSw
    try dsimp only at hSw
    go_split_ands
    go_simp
    try with_reducible rfl
  try simp only [Act.put, List.setIfInBounds_toArray, List.set_cons_zero, List.set_cons_succ]
  refine wpAnyH_take (i := 6) (oi := { dst := some 89, op := Go.Op.fieldAddr 28 (Go.Operand.tmp 88) 4, type := 0, pos := "ref.go:80", after := #[{ on := 5, ground := Go.Ground.data }], guard := none }) (v := ?_) rfl (by kernel_rfl) (by kernel_rfl) (by kernel_rfl) (fun _ _ _ h => h) (Or.inl ⟨by rfl, ?_⟩) (by assumption) ?_
  rotate_left
  · intro wS hSw
    try dsimp only at hSw
    go_split_ands
    go_simp
    try with_reducible rfl
  try simp only [Act.put, List.setIfInBounds_toArray, List.set_cons_zero, List.set_cons_succ]
  refine wpAnyH_take (i := 7) (oi := { dst := some 90, op := Go.Op.load 24 (Go.Operand.tmp 89), type := 24, pos := "ref.go:80", after := #[{ on := 6, ground := Go.Ground.data }], guard := none }) (v := ?_) rfl (by kernel_rfl) (by kernel_rfl) (by kernel_rfl) (fun _ _ _ h => h) (Or.inl ⟨by rfl, ?_⟩) (by assumption) ?_
  rotate_left
  · intro wS hSw
    try dsimp only at hSw
    go_split_ands
    go_simp
    try with_reducible rfl
  try simp only [Act.put, List.setIfInBounds_toArray, List.set_cons_zero, List.set_cons_succ]
  refine wpAnyH_take (i := 8) (oi := { dst := some 91, op := Go.Op.convert 24 25 (Go.Operand.tmp 90), type := 25, pos := "ref.go:80", after := #[{ on := 7, ground := Go.Ground.data }], guard := none }) (v := ?_) rfl (by kernel_rfl) (by kernel_rfl) (by kernel_rfl) (fun _ _ _ h => h) (Or.inl ⟨by rfl, ?_⟩) (by assumption) ?_
  rotate_left
  · intro wS hSw
    try dsimp only at hSw
    go_split_ands
    go_simp
    try with_reducible rfl
  try simp only [Act.put, List.setIfInBounds_toArray, List.set_cons_zero, List.set_cons_succ]
  refine wpAnyH_ready (rs := [4]) (by kernel_rfl) (by simp) ?_
  refine AllReadyH.cons (o := { dst := some 87, op := Go.Op.call { callee := Go.Callee.value (Go.Operand.func 35), args := #[Go.Operand.tmp 83, Go.Operand.tmp 86, Go.Operand.const (Go.Value.int Go.IntKind.i64 6)], argTypes := #[40, 25, 3] }, type := 40, pos := "ref.go:80", after := #[{ on := 0, ground := Go.Ground.data }, { on := 3, ground := Go.Ground.data }], guard := none }) rfl (fun K hK => ?_) AllReadyH.nil
  go_simp
  go_at_call 35
  refine (rput7_6 _ _ P6 (x.tm) ⟨by omega, by omega⟩ (by have := HLP6.out; omega) _ HQ.out.o5).mono ?_
  rw [HP7.out]
  rintro e w4 ⟨A4, c4, l4, rfl, ho, hn⟩
  have HQ := Lib.hid (HQ.out.step ho hn)
  clear ho hn
  refine hK.out _ _ (⟨HQ.out.box.cell 6, HQ.out.box.cell 7, trivial⟩) (fun hHeld => ?_)
  clear hK K
  try simp only [Act.put, List.setIfInBounds_toArray, List.set_cons_zero, List.set_cons_succ]
  refine wpAnyH_ready (rs := [9]) (by kernel_rfl) (by simp) ?_
  refine AllReadyH.cons (o := { dst := some 92, op := Go.Op.call { callee := Go.Callee.value (Go.Operand.func 35), args := #[Go.Operand.tmp 87, Go.Operand.tmp 91, Go.Operand.const (Go.Value.int Go.IntKind.i64 4)], argTypes := #[40, 25, 3] }, type := 40, pos := "ref.go:80", after := #[{ on := 4, ground := Go.Ground.data }, { on := 8, ground := Go.Ground.data }, { on := 4, ground := Go.Ground.chain }], guard := none }) rfl (fun K hK => ?_) AllReadyH.nil
  go_simp
  go_at_call 35
  refine (rput7_4 _ _ P7 (x.ti) ⟨by omega, by omega⟩ (by have := HLP7.out; omega) _ HQ.out.o5).mono ?_
  rw [HP8.out]
  rintro e w9 ⟨A9, c9, l9, rfl, ho, hn⟩
  have HQ := Lib.hid (HQ.out.step ho hn)
  clear ho hn
  refine hK.out _ _ (⟨HQ.out.box.cell 6, HQ.out.box.cell 7, trivial⟩) (fun hHeld => ?_)
  clear hK K
  try simp only [Act.put, List.setIfInBounds_toArray, List.set_cons_zero, List.set_cons_succ]
  refine wpAnyH_take (i := 10) (oi := { dst := some 5, op := Go.Op.assign (Go.Operand.tmp 92), type := 40, pos := "ref.go:80", after := #[{ on := 9, ground := Go.Ground.data }, { on := 9, ground := Go.Ground.chain }, { on := 0, ground := Go.Ground.phase }, { on := 1, ground := Go.Ground.phase }, { on := 2, ground := Go.Ground.phase }, { on := 3, ground := Go.Ground.phase }, { on := 4, ground := Go.Ground.phase }, { on := 5, ground := Go.Ground.phase }, { on := 6, ground := Go.Ground.phase }, { on := 7, ground := Go.Ground.phase }, { on := 8, ground := Go.Ground.phase }, { on := 9, ground := Go.Ground.phase }], guard := none }) (v := ?_) rfl (by kernel_rfl) (by kernel_rfl) (by kernel_rfl) (fun _ _ _ h => h) (Or.inl ⟨by rfl, ?_⟩) (by assumption) ?_
  rotate_left
  · intro wS hSw
    try dsimp only at hSw
    go_split_ands
    go_simp
    try with_reducible rfl
  try simp only [Act.put, List.setIfInBounds_toArray, List.set_cons_zero, List.set_cons_succ]
  refine wpAnyH_done (by kernel_rfl) ?_ _
  have c14 := HQ.out.box.cell 14; simp only [List.getElem?_toArray, List.getElem?_cons_zero, List.getElem?_cons_succ] at c14; skip
  go_wp2_with (go_at_call 35; refine (rput7_8 _ _ P8 x.da ⟨by omega, by omega⟩ (by have := HLP8.out; omega) _ HQ.out.o5).mono ?_; rw [HFin.out]; rintro e w90 ⟨A9, c9, l9, rfl, ho, hn⟩; have HQ9 := Lib.hid (HQ.out.step ho hn); clear ho hn)
  obtain ⟨g, rfl, hrow, rfl⟩ := HQ9.out.o5.to (fenc_pos x) rfl
  have HG : Hid (Row w90 g c9 (fenc x) ∧ w.heap.size ≤ g ∧ Below w.heap.size w w90) := Lib.hid ⟨hrow, (HQ9.out.nx.below (by simp) (Nat.le_refl _)).2 g (by simp), HQ9.out.lo⟩
  clear hrow HQ9 HQ
  go_wp2_with fail
  go_ret2
  exact ⟨g, c9, rfl, HG.out⟩

set_option maxHeartbeats 4000000 in
theorem rbytes_2t (x : FR) (hx : x.ty) (hc : fchk x = 0) (hk : x.k = 2) (hp : pd x.pr = true) (w : World) : Calls Try.prog 33 #[.agg x.cs] w (Enc w x) := by
  have HChk : Hid (∀ W : World, Calls Try.prog 36 #[.agg #[.int .u64 x.s, .int .u64 x.d, .int .i64 x.k, .int .i64 x.op, .int .u64 x.sm, .int .u32 x.si, .int .u64 x.tm, .int .u32 x.ti, .int .u32 x.hs, .int .u32 x.hd, .int .i64 x.tl, .int .i64 x.pr, .int .i64 x.sp, .int .i64 x.dp, .int .u64 x.da]] W fun e w' => e = .returned (.int .i64 0) ∧ Below W.heap.size W w') := Lib.hid (fun W => hc ▸ rcheck_any x hx W)
  obtain ⟨hs1, hd1, _, hpe, h1, h2⟩ := fchk_zero hc
  have hs0 := hx.s.1
  have hd0 := hx.d.1
  obtain ⟨hda0, hda1⟩ := hx.da
  have HK := Lib.hid hk
  obtain ⟨⟨hhs0, hhs1⟩, ⟨hhd0, hhd1⟩, ⟨htl0, htl1⟩, ⟨hpr0, hpr1⟩, ⟨hsp0, hsp1⟩, ⟨hdp0, hdp1⟩⟩ := hx.okH (h2 hk)
  have hok := hx.okH (h2 hk)
  have wa0 : IntKind.u64.wrap x.sp = x.sp := wr64 _ (by omega) (by omega)
  have wb0 : x.sp % 18446744073709551616 = x.sp := by omega
  have wa1 : IntKind.u64.wrap x.dp = x.dp := wr64 _ (by omega) (by omega)
  have wb1 : x.dp % 18446744073709551616 = x.dp := by omega
  obtain ⟨P1, hP1⟩ : ∃ P : List Int, [] ++ be x.d 6 = P := ⟨_, rfl⟩
  have hlP1 : P1.length ≤ 40 := by rw [← hP1]; simp [be_length, hdrS, hdr_len]; try omega
  obtain ⟨P2, hP2⟩ : ∃ P : List Int, P1 ++ be x.s 6 = P := ⟨_, rfl⟩
  have hlP2 : P2.length ≤ 80 := by rw [← hP2]; simp [be_length, hdrS, hdr_len]; try omega
  obtain ⟨P3, hP3⟩ : ∃ P : List Int, P2 ++ [8, 0] = P := ⟨_, rfl⟩
  have hlP3 : P3.length ≤ 120 := by rw [← hP3]; simp [be_length, hdrS, hdr_len]; try omega
  obtain ⟨P4, hP4⟩ : ∃ P : List Int, P3 ++ hdrS x = P := ⟨_, rfl⟩
  have hlP4 : P4.length ≤ 160 := by rw [← hP4]; simp [be_length, hdrS, hdr_len]; try omega
  obtain ⟨P5, hP5⟩ : ∃ P : List Int, P4 ++ be x.sp 2 = P := ⟨_, rfl⟩
  have hlP5 : P5.length ≤ 200 := by rw [← hP5]; simp [be_length, hdrS, hdr_len]; try omega
  obtain ⟨P6, hP6⟩ : ∃ P : List Int, P5 ++ be x.dp 2 = P := ⟨_, rfl⟩
  have hlP6 : P6.length ≤ 240 := by rw [← hP6]; simp [be_length, hdrS, hdr_len]; try omega
  obtain ⟨P7, hP7⟩ : ∃ P : List Int, P6 ++ [0, 16, 0, 0] = P := ⟨_, rfl⟩
  have hlP7 : P7.length ≤ 280 := by rw [← hP7]; simp [be_length, hdrS, hdr_len]; try omega
  have HFin : Hid (P7 ++ be x.da 8 = fenc x) := Lib.hid (by
    have e : ([8, 0] : List Int) = be 2048 2 := by decide
    have e2 : ([0, 16, 0, 0] : List Int) = be 16 2 ++ be 0 2 := by decide
    rw [← hP7, ← hP6, ← hP5, ← hP4, ← hP3, ← hP2, ← hP1]
    unfold fenc fbody fcode bodyH
    rw [if_neg (by omega), if_pos hk, if_neg (by omega), if_pos hk, if_pos hp, e]
    simp only [e2, List.nil_append, List.append_assoc])
  have HHd : Hid (∀ W : World, Calls Try.prog 34 #[.int .i64 36, .int .i64 x.tl, .int .i64 x.pr, .int .u32 x.hs, .int .u32 x.hd] W fun e w' => ∃ g c, e = .returned (.slice (some ⟨g, 0, none⟩) 20 c) ∧ Row w' g c (hdrS x) ∧ W.heap.size ≤ g ∧ Below W.heap.size W w') := Lib.hid (fun W => rheader_any x hok 36 (by unfold hsz; rw [hp]; rfl) (by decide) W)
  have HPd : Hid (∀ W : World, Calls Try.prog 61 #[.int .i64 x.pr] W fun e w' => e = .returned (.bool true) ∧ W = w') := Lib.hid (fun W => hp ▸ rported_any x.pr W)
  clear hc hpe h1 h2 hk hx hok hp
  have HP1 := Lib.hid hP1
  have HLP1 := Lib.hid hlP1
  have HP2 := Lib.hid hP2
  have HLP2 := Lib.hid hlP2
  have HP3 := Lib.hid hP3
  have HLP3 := Lib.hid hlP3
  have HP4 := Lib.hid hP4
  have HLP4 := Lib.hid hlP4
  have HP5 := Lib.hid hP5
  have HLP5 := Lib.hid hlP5
  have HP6 := Lib.hid hP6
  have HLP6 := Lib.hid hlP6
  have HP7 := Lib.hid hP7
  have HLP7 := Lib.hid hlP7
  clear hP1 hlP1 hP2 hlP2 hP3 hlP3 hP4 hlP4 hP5 hlP5 hP6 hlP6 hP7 hlP7
  unfold FR.cs
  have HX0 : Hid (Has (w.alloc (.cells #[.int .u64 x.s, .int .u64 x.d, .int .i64 x.k, .int .i64 x.op, .int .u64 x.sm, .int .u32 x.si, .int .u64 x.tm, .int .u32 x.ti, .int .u32 x.hs, .int .u32 x.hd, .int .i64 x.tl, .int .i64 x.pr, .int .i64 x.sp, .int .i64 x.dp, .int .u64 x.da] 32)) w.heap.size 32 #[.int .u64 x.s, .int .u64 x.d, .int .i64 x.k, .int .i64 x.op, .int .u64 x.sm, .int .u32 x.si, .int .u64 x.tm, .int .u32 x.ti, .int .u32 x.hs, .int .u32 x.hd, .int .i64 x.tl, .int .i64 x.pr, .int .i64 x.sp, .int .i64 x.dp, .int .u64 x.da]) := Lib.hid (Has.new w _ _)
  have HL0 : Hid (Below w.heap.size w (w.alloc (.cells #[.int .u64 x.s, .int .u64 x.d, .int .i64 x.k, .int .i64 x.op, .int .u64 x.sm, .int .u32 x.si, .int .u64 x.tm, .int .u32 x.ti, .int .u32 x.hs, .int .u32 x.hd, .int .i64 x.tl, .int .i64 x.pr, .int .i64 x.sp, .int .i64 x.dp, .int .u64 x.da] 32))) := Lib.hid ((Below.refl _ w).alloc (Nat.le_refl _) _)
  go_enter Try.func33, Try.ntmps33
  go_upto_region 4 with (go_at_call 36; refine (HChk.out _).mono ?_; rintro e w1 ⟨rfl, hb⟩; have HQ : Hid (QB w x [] none 0 0 [] w1) := Lib.hid (QB.start (HL0.out.trans (hb.mono HL0.out.size)) (HX0.out.below hb)); clear hb HX0 HL0)
  go_upto_region 4 with fail
  go_cut [5] (fun v5 wx => ∃ A c l, v5 = .slice A (P2).length c ∧ QB w x l A (P2).length c (P2) wx)
  case first =>
    have HQ := Lib.hid (HQ.out.below (Below.refl _ _).drew)
    refine wp_region_held_drew (S := (fun w' => w'.cell? ⟨w.heap.size, 0, none⟩ = some (.int .u64 x.s) ∧ w'.cell? ⟨w.heap.size, 1, none⟩ = some (.int .u64 x.d) ∧ True)) (by kernel_rfl) (⟨HQ.out.box.cell 0, HQ.out.box.cell 1, trivial⟩) (fun hHeld => ?_)
    refine wpAnyH_take (i := 0) (oi := { dst := some 12, op := Go.Op.fieldAddr 32 (Go.Operand.tmp 1) 1, type := 0, pos := "ref.go:73", after := #[], guard := none }) (v := ?_) rfl (by kernel_rfl) (by kernel_rfl) (by kernel_rfl) (fun _ _ _ h => h) (Or.inl ⟨by rfl, ?_⟩) (by assumption) ?_
    rotate_left
    · intro wS hSw
      try dsimp only at hSw
      go_split_ands
      go_simp
      try with_reducible rfl
    try simp only [Act.put, List.setIfInBounds_toArray, List.set_cons_zero, List.set_cons_succ]
    refine wpAnyH_take (i := 1) (oi := { dst := some 13, op := Go.Op.load 26 (Go.Operand.tmp 12), type := 26, pos := "ref.go:73", after := #[{ on := 0, ground := Go.Ground.data }], guard := none }) (v := ?_) rfl (by kernel_rfl) (by kernel_rfl) (by kernel_rfl) (fun _ _ _ h => h) (Or.inl ⟨by rfl, ?_⟩) (by assumption) ?_
    rotate_left
    · intro wS hSw
      try dsimp only at hSw
      go_split_ands
      go_simp
      try with_reducible rfl
    try simp only [Act.put, List.setIfInBounds_toArray, List.set_cons_zero, List.set_cons_succ]
    refine wpAnyH_take (i := 3) (oi := { dst := some 15, op := Go.Op.fieldAddr 32 (Go.Operand.tmp 1) 0, type := 0, pos := "ref.go:73", after := #[], guard := none }) (v := ?_) rfl (by kernel_rfl) (by kernel_rfl) (by kernel_rfl) (fun _ _ _ h => h) (Or.inl ⟨by rfl, ?_⟩) (by assumption) ?_
    rotate_left
    · intro wS hSw
      try dsimp only at hSw
      go_split_ands
      go_simp
      try with_reducible rfl
    try simp only [Act.put, List.setIfInBounds_toArray, List.set_cons_zero, List.set_cons_succ]
    refine wpAnyH_take (i := 4) (oi := { dst := some 16, op := Go.Op.load 26 (Go.Operand.tmp 15), type := 26, pos := "ref.go:73", after := #[{ on := 3, ground := Go.Ground.data }], guard := none }) (v := ?_) rfl (by kernel_rfl) (by kernel_rfl) (by kernel_rfl) (fun _ _ _ h => h) (Or.inl ⟨by rfl, ?_⟩) (by assumption) ?_
    rotate_left
    · intro wS hSw
      try dsimp only at hSw
      go_split_ands
      go_simp
      try with_reducible rfl
    try simp only [Act.put, List.setIfInBounds_toArray, List.set_cons_zero, List.set_cons_succ]
    refine wpAnyH_ready (rs := [2]) (by kernel_rfl) (by simp) ?_
    refine AllReadyH.cons (o := { dst := some 14, op := Go.Op.call { callee := Go.Callee.value (Go.Operand.func 35), args := #[Go.Operand.const (Go.Value.slice none 0 0), Go.Operand.tmp 13, Go.Operand.const (Go.Value.int Go.IntKind.i64 6)], argTypes := #[40, 25, 3] }, type := 40, pos := "ref.go:73", after := #[{ on := 1, ground := Go.Ground.data }], guard := none }) rfl (fun K hK => ?_) AllReadyH.nil
    go_simp
    go_at_call 35
    refine (rput7_6 _ _ [] (x.d) ⟨by omega, by omega⟩ (by decide) _ HQ.out.o5).mono ?_
    rw [HP1.out]
    rintro e w2 ⟨A2, c2, l2, rfl, ho, hn⟩
    have HQ := Lib.hid (HQ.out.step ho hn)
    clear ho hn
    refine hK.out _ _ (⟨HQ.out.box.cell 0, HQ.out.box.cell 1, trivial⟩) (fun hHeld => ?_)
    clear hK K
    try simp only [Act.put, List.setIfInBounds_toArray, List.set_cons_zero, List.set_cons_succ]
    refine wpAnyH_ready (rs := [5]) (by kernel_rfl) (by simp) ?_
    refine AllReadyH.cons (o := { dst := some 17, op := Go.Op.call { callee := Go.Callee.value (Go.Operand.func 35), args := #[Go.Operand.tmp 14, Go.Operand.tmp 16, Go.Operand.const (Go.Value.int Go.IntKind.i64 6)], argTypes := #[40, 25, 3] }, type := 40, pos := "ref.go:73", after := #[{ on := 2, ground := Go.Ground.data }, { on := 4, ground := Go.Ground.data }, { on := 2, ground := Go.Ground.chain }], guard := none }) rfl (fun K hK => ?_) AllReadyH.nil
    go_simp
    go_at_call 35
    refine (rput7_6 _ _ P1 (x.s) ⟨by omega, by omega⟩ (by have := HLP1.out; omega) _ HQ.out.o5).mono ?_
    rw [HP2.out]
    rintro e w5 ⟨A5, c5, l5, rfl, ho, hn⟩
    have HQ := Lib.hid (HQ.out.step ho hn)
    clear ho hn
    refine hK.out _ _ (⟨HQ.out.box.cell 0, HQ.out.box.cell 1, trivial⟩) (fun hHeld => ?_)
    clear hK K
    try simp only [Act.put, List.setIfInBounds_toArray, List.set_cons_zero, List.set_cons_succ]
    refine wpAnyH_take (i := 6) (oi := { dst := some 5, op := Go.Op.assign (Go.Operand.tmp 17), type := 40, pos := "ref.go:73", after := #[{ on := 5, ground := Go.Ground.data }, { on := 5, ground := Go.Ground.chain }, { on := 0, ground := Go.Ground.phase }, { on := 1, ground := Go.Ground.phase }, { on := 2, ground := Go.Ground.phase }, { on := 3, ground := Go.Ground.phase }, { on := 4, ground := Go.Ground.phase }, { on := 5, ground := Go.Ground.phase }], guard := none }) (v := ?_) rfl (by kernel_rfl) (by kernel_rfl) (by kernel_rfl) (fun _ _ _ h => h) (Or.inl ⟨by rfl, ?_⟩) (by assumption) ?_
    rotate_left
    · intro wS hSw
      try dsimp only at hSw
      go_split_ands
      go_simp
      try with_reducible rfl
    try simp only [Act.put, List.setIfInBounds_toArray, List.set_cons_zero, List.set_cons_succ]
    refine wpAnyH_done (by kernel_rfl) ?_ _
    go_wp2_with fail
    go_meet
    exact ⟨_, _, _, rfl, HQ.out⟩
  case rest =>
  obtain ⟨A, c, l, rfl, hq⟩ := hcut
  clear HQ
  have HQ := Lib.hid hq
  clear hq
  have c2 := HQ.out.box.cell 2
  have c11 := HQ.out.box.cell 11
  simp only [List.getElem?_toArray, List.getElem?_cons_zero, List.getElem?_cons_succ] at c2 c11
  rw [HK.out] at c2
  go_upto_region 9 with (go_at_call 61; refine (HPd.out _).mono ?_; rintro e w9 ⟨rfl, rfl⟩)
  go_cut [5] (fun v5 wx => ∃ A c l, v5 = .slice A (P4).length c ∧ QB w x l A (P4).length c (P4) wx)
  case first =>
    have HQ := Lib.hid (HQ.out.below (Below.refl _ _).drew)
    refine wp_region_held_drew (S := (fun w' => w'.cell? ⟨w.heap.size, 8, none⟩ = some (.int .u32 x.hs) ∧ w'.cell? ⟨w.heap.size, 9, none⟩ = some (.int .u32 x.hd) ∧ w'.cell? ⟨w.heap.size, 10, none⟩ = some (.int .i64 x.tl) ∧ w'.cell? ⟨w.heap.size, 11, none⟩ = some (.int .i64 x.pr) ∧ True)) (by kernel_rfl) (⟨HQ.out.box.cell 8, HQ.out.box.cell 9, HQ.out.box.cell 10, HQ.out.box.cell 11, trivial⟩) (fun hHeld => ?_)
    refine wpAnyH_take (i := 0) (oi := { dst := some 24, op := Go.Op.move (Go.Operand.tmp 5), type := 40, pos := "ref.go:86", after := #[], guard := none }) (v := ?_) rfl (by kernel_rfl) (by kernel_rfl) (by kernel_rfl) (fun _ _ _ h => h) (Or.inl ⟨by rfl, ?_⟩) (by assumption) ?_
    rotate_left
    · intro wS hSw
      try dsimp only at hSw
      go_split_ands
      go_simp
      try with_reducible rfl
    try simp only [Act.put, List.setIfInBounds_toArray, List.set_cons_zero, List.set_cons_succ]
    refine wpAnyH_take (i := 3) (oi := { dst := some 27, op := Go.Op.move (Go.Operand.tmp 6), type := 3, pos := "ref.go:86", after := #[], guard := none }) (v := ?_) rfl (by kernel_rfl) (by kernel_rfl) (by kernel_rfl) (fun _ _ _ h => h) (Or.inl ⟨by rfl, ?_⟩) (by assumption) ?_
    rotate_left
    · intro wS hSw
      try dsimp only at hSw
      go_split_ands
      go_simp
      try with_reducible rfl
    try simp only [Act.put, List.setIfInBounds_toArray, List.set_cons_zero, List.set_cons_succ]
    refine wpAnyH_take (i := 4) (oi := { dst := some 28, op := Go.Op.fieldAddr 32 (Go.Operand.tmp 1) 4, type := 0, pos := "ref.go:86", after := #[], guard := none }) (v := ?_) rfl (by kernel_rfl) (by kernel_rfl) (by kernel_rfl) (fun _ _ _ h => h) (Or.inl ⟨by rfl, ?_⟩) (by assumption) ?_
    rotate_left
    · intro wS hSw
      try dsimp only at hSw
      go_split_ands
      go_simp
      try with_reducible rfl
    try simp only [Act.put, List.setIfInBounds_toArray, List.set_cons_zero, List.set_cons_succ]
    refine wpAnyH_take (i := 5) (oi := { dst := some 29, op := Go.Op.fieldAddr 30 (Go.Operand.tmp 28) 2, type := 0, pos := "ref.go:86", after := #[{ on := 4, ground := Go.Ground.data }], guard := none }) (v := ?_) rfl (by kernel_rfl) (by kernel_rfl) (by kernel_rfl) (fun _ _ _ h => h) (Or.inl ⟨by rfl, ?_⟩) (by assumption) ?_
    rotate_left
    · intro wS hSw
      try dsimp only at hSw
      go_split_ands
      go_simp
      try with_reducible rfl
    try simp only [Act.put, List.setIfInBounds_toArray, List.set_cons_zero, List.set_cons_succ]
    refine wpAnyH_take (i := 6) (oi := { dst := some 30, op := Go.Op.load 3 (Go.Operand.tmp 29), type := 3, pos := "ref.go:86", after := #[{ on := 5, ground := Go.Ground.data }], guard := none }) (v := ?_) rfl (by kernel_rfl) (by kernel_rfl) (by kernel_rfl) (fun _ _ _ h => h) (Or.inl ⟨by rfl, ?_⟩) (by assumption) ?_
    rotate_left
    · intro wS hSw
      try dsimp only at hSw
      go_split_ands
      go_simp
      try with_reducible rfl
    try simp only [Act.put, List.setIfInBounds_toArray, List.set_cons_zero, List.set_cons_succ]
    refine wpAnyH_take (i := 7) (oi := { dst := some 31, op := Go.Op.fieldAddr 32 (Go.Operand.tmp 1) 4, type := 0, pos := "ref.go:86", after := #[], guard := none }) (v := ?_) rfl (by kernel_rfl) (by kernel_rfl) (by kernel_rfl) (fun _ _ _ h => h) (Or.inl ⟨by rfl, ?_⟩) (by assumption) ?_
    rotate_left
    · intro wS hSw
      try dsimp only at hSw
      go_split_ands
      go_simp
      try with_reducible rfl
    try simp only [Act.put, List.setIfInBounds_toArray, List.set_cons_zero, List.set_cons_succ]
    refine wpAnyH_take (i := 8) (oi := { dst := some 32, op := Go.Op.fieldAddr 30 (Go.Operand.tmp 31) 3, type := 0, pos := "ref.go:86", after := #[{ on := 7, ground := Go.Ground.data }], guard := none }) (v := ?_) rfl (by kernel_rfl) (by kernel_rfl) (by kernel_rfl) (fun _ _ _ h => h) (Or.inl ⟨by rfl, ?_⟩) (by assumption) ?_
    rotate_left
    · intro wS hSw
      try dsimp only at hSw
      go_split_ands
      go_simp
      try with_reducible rfl
    try simp only [Act.put, List.setIfInBounds_toArray, List.set_cons_zero, List.set_cons_succ]
    refine wpAnyH_take (i := 9) (oi := { dst := some 33, op := Go.Op.load 3 (Go.Operand.tmp 32), type := 3, pos := "ref.go:86", after := #[{ on := 8, ground := Go.Ground.data }], guard := none }) (v := ?_) rfl (by kernel_rfl) (by kernel_rfl) (by kernel_rfl) (fun _ _ _ h => h) (Or.inl ⟨by rfl, ?_⟩) (by assumption) ?_
    rotate_left
    · intro wS hSw
      try dsimp only at hSw
      go_split_ands
      go_simp
      try with_reducible rfl
    try simp only [Act.put, List.setIfInBounds_toArray, List.set_cons_zero, List.set_cons_succ]
    refine wpAnyH_take (i := 10) (oi := { dst := some 34, op := Go.Op.fieldAddr 32 (Go.Operand.tmp 1) 4, type := 0, pos := "ref.go:86", after := #[], guard := none }) (v := ?_) rfl (by kernel_rfl) (by kernel_rfl) (by kernel_rfl) (fun _ _ _ h => h) (Or.inl ⟨by rfl, ?_⟩) (by assumption) ?_
    rotate_left
    · intro wS hSw
      try dsimp only at hSw
      go_split_ands
      go_simp
      try with_reducible rfl
    try simp only [Act.put, List.setIfInBounds_toArray, List.set_cons_zero, List.set_cons_succ]
    refine wpAnyH_take (i := 11) (oi := { dst := some 35, op := Go.Op.fieldAddr 30 (Go.Operand.tmp 34) 0, type := 0, pos := "ref.go:86", after := #[{ on := 10, ground := Go.Ground.data }], guard := none }) (v := ?_) rfl (by kernel_rfl) (by kernel_rfl) (by kernel_rfl) (fun _ _ _ h => h) (Or.inl ⟨by rfl, ?_⟩) (by assumption) ?_
    rotate_left
    · intro wS hSw
      try dsimp only at hSw
      go_split_ands
      go_simp
      try with_reducible rfl
    try simp only [Act.put, List.setIfInBounds_toArray, List.set_cons_zero, List.set_cons_succ]
    refine wpAnyH_take (i := 12) (oi := { dst := some 36, op := Go.Op.load 24 (Go.Operand.tmp 35), type := 24, pos := "ref.go:86", after := #[{ on := 11, ground := Go.Ground.data }], guard := none }) (v := ?_) rfl (by kernel_rfl) (by kernel_rfl) (by kernel_rfl) (fun _ _ _ h => h) (Or.inl ⟨by rfl, ?_⟩) (by assumption) ?_
    rotate_left
    · intro wS hSw
      try dsimp only at hSw
      go_split_ands
      go_simp
      try with_reducible rfl
    try simp only [Act.put, List.setIfInBounds_toArray, List.set_cons_zero, List.set_cons_succ]
    refine wpAnyH_take (i := 13) (oi := { dst := some 37, op := Go.Op.fieldAddr 32 (Go.Operand.tmp 1) 4, type := 0, pos := "ref.go:86", after := #[], guard := none }) (v := ?_) rfl (by kernel_rfl) (by kernel_rfl) (by kernel_rfl) (fun _ _ _ h => h) (Or.inl ⟨by rfl, ?_⟩) (by assumption) ?_
    rotate_left
    · intro wS hSw
      try dsimp only at hSw
      go_split_ands
      go_simp
      try with_reducible rfl
    try simp only [Act.put, List.setIfInBounds_toArray, List.set_cons_zero, List.set_cons_succ]
    refine wpAnyH_take (i := 14) (oi := { dst := some 38, op := Go.Op.fieldAddr 30 (Go.Operand.tmp 37) 1, type := 0, pos := "ref.go:86", after := #[{ on := 13, ground := Go.Ground.data }], guard := none }) (v := ?_) rfl (by kernel_rfl) (by kernel_rfl) (by kernel_rfl) (fun _ _ _ h => h) (Or.inl ⟨by rfl, ?_⟩) (by assumption) ?_
    rotate_left
    · intro wS hSw
      try dsimp only at hSw
      go_split_ands
      go_simp
      try with_reducible rfl
    try simp only [Act.put, List.setIfInBounds_toArray, List.set_cons_zero, List.set_cons_succ]
    refine wpAnyH_take (i := 15) (oi := { dst := some 39, op := Go.Op.load 24 (Go.Operand.tmp 38), type := 24, pos := "ref.go:86", after := #[{ on := 14, ground := Go.Ground.data }], guard := none }) (v := ?_) rfl (by kernel_rfl) (by kernel_rfl) (by kernel_rfl) (fun _ _ _ h => h) (Or.inl ⟨by rfl, ?_⟩) (by assumption) ?_
    rotate_left
    · intro wS hSw
      try dsimp only at hSw
      go_split_ands
      go_simp
      try with_reducible rfl
    try simp only [Act.put, List.setIfInBounds_toArray, List.set_cons_zero, List.set_cons_succ]
    refine wpAnyH_ready (rs := [1]) (by kernel_rfl) (by simp) ?_
    refine AllReadyH.cons (o := { dst := some 25, op := Go.Op.buildSlice 40 2 #[(0, Go.Operand.const (Go.Value.int Go.IntKind.u8 8)), (1, Go.Operand.const (Go.Value.int Go.IntKind.u8 0))], type := 40, pos := "ref.go:86", after := #[], guard := none }) rfl (fun K hK => ?_) AllReadyH.nil
    go_simp
    have LB : Hid (Lz (wc.drew.alloc (.cells #[.int .u8 8, .int .u8 0] 5)) l (.slice (some ⟨wc.drew.heap.size, 0, none⟩) 2 2) [8, 0]) := Lib.hid (Lz.made (W := wc.drew) _ rfl rfl HQ.out.o5.lt)
    have HQ := Lib.hid (HQ.out.below (W' := (wc.drew.alloc (.cells #[.int .u8 8, .int .u8 0] 5))) ((Below.refl _ wc.drew).alloc (Nat.le_refl _) _))
    refine hK.out _ _ (⟨HQ.out.box.cell 8, HQ.out.box.cell 9, HQ.out.box.cell 10, HQ.out.box.cell 11, trivial⟩) (fun hHeld => ?_)
    clear hK K
    try simp only [Act.put, List.setIfInBounds_toArray, List.set_cons_zero, List.set_cons_succ]
    refine wpAnyH_ready (rs := [2]) (by kernel_rfl) (by simp) ?_
    refine AllReadyH.cons (o := { dst := some 26, op := Go.Op.call { callee := Go.Callee.builtin Go.Builtin.append, args := #[Go.Operand.tmp 24, Go.Operand.tmp 25], argTypes := #[40, 40] }, type := 40, pos := "ref.go:86", after := #[{ on := 0, ground := Go.Ground.data }, { on := 1, ground := Go.Ground.data }], guard := none }) rfl (fun K hK => ?_) AllReadyH.nil
    refine step_app5z rfl (.tmp 24) (.tmp 25) rfl HQ.out.o5 rfl LB.out rfl (by have := HLP2.out; simp [hdrS, hdr_len]; try omega) (some 26) rfl ?_
    rw [HP3.out]
    intro A21 c21 w21 l21 ho hn
    have HQ := Lib.hid (HQ.out.step ho hn)
    clear ho hn
    refine hK.out _ _ (⟨HQ.out.box.cell 8, HQ.out.box.cell 9, HQ.out.box.cell 10, HQ.out.box.cell 11, trivial⟩) (fun hHeld => ?_)
    clear hK K
    try simp only [Act.put, List.setIfInBounds_toArray, List.set_cons_zero, List.set_cons_succ]
    refine wpAnyH_ready (rs := [16]) (by kernel_rfl) (by simp) ?_
    refine AllReadyH.cons (o := { dst := some 40, op := Go.Op.call { callee := Go.Callee.value (Go.Operand.func 34), args := #[Go.Operand.tmp 27, Go.Operand.tmp 30, Go.Operand.tmp 33, Go.Operand.tmp 36, Go.Operand.tmp 39], argTypes := #[3, 3, 3, 24, 24] }, type := 40, pos := "ref.go:86", after := #[{ on := 3, ground := Go.Ground.data }, { on := 6, ground := Go.Ground.data }, { on := 9, ground := Go.Ground.data }, { on := 12, ground := Go.Ground.data }, { on := 15, ground := Go.Ground.data }, { on := 2, ground := Go.Ground.chain }], guard := none }) rfl (fun K hK => ?_) AllReadyH.nil
    go_simp
    go_at_call 34
    refine (HHd.out _).mono ?_
    rintro e w22 ⟨g22, c22, rfl, hrow, hg, hb⟩
    have LH : Hid (Lz w22 l21 (.slice (some ⟨g22, 0, none⟩) 20 c22) (hdrS x)) := Lib.hid (Lz.of_row hrow (hdr_len x _) (fun hm => Nat.lt_irrefl _ (Nat.lt_of_lt_of_le (HQ.out.o5.lt _ hm) hg)))
    have HQ := Lib.hid (HQ.out.below hb)
    clear hrow hg hb
    refine hK.out _ _ (⟨HQ.out.box.cell 8, HQ.out.box.cell 9, HQ.out.box.cell 10, HQ.out.box.cell 11, trivial⟩) (fun hHeld => ?_)
    clear hK K
    try simp only [Act.put, List.setIfInBounds_toArray, List.set_cons_zero, List.set_cons_succ]
    refine wpAnyH_ready (rs := [17]) (by kernel_rfl) (by simp) ?_
    refine AllReadyH.cons (o := { dst := some 41, op := Go.Op.call { callee := Go.Callee.builtin Go.Builtin.append, args := #[Go.Operand.tmp 26, Go.Operand.tmp 40], argTypes := #[40, 40] }, type := 40, pos := "ref.go:86", after := #[{ on := 2, ground := Go.Ground.data }, { on := 16, ground := Go.Ground.data }, { on := 16, ground := Go.Ground.chain }], guard := none }) rfl (fun K hK => ?_) AllReadyH.nil
    refine step_app5z rfl (.tmp 26) (.tmp 40) rfl HQ.out.o5 rfl LH.out rfl (by have := HLP3.out; simp [hdrS, hdr_len]; try omega) (some 41) rfl ?_
    rw [HP4.out]
    intro A23 c23 w23 l23 ho hn
    have HQ := Lib.hid (HQ.out.step ho hn)
    clear ho hn
    refine hK.out _ _ (⟨HQ.out.box.cell 8, HQ.out.box.cell 9, HQ.out.box.cell 10, HQ.out.box.cell 11, trivial⟩) (fun hHeld => ?_)
    clear hK K
    try simp only [Act.put, List.setIfInBounds_toArray, List.set_cons_zero, List.set_cons_succ]
    refine wpAnyH_take (i := 18) (oi := { dst := some 5, op := Go.Op.assign (Go.Operand.tmp 41), type := 40, pos := "ref.go:86", after := #[{ on := 17, ground := Go.Ground.data }, { on := 17, ground := Go.Ground.chain }, { on := 0, ground := Go.Ground.phase }, { on := 1, ground := Go.Ground.phase }, { on := 2, ground := Go.Ground.phase }, { on := 3, ground := Go.Ground.phase }, { on := 4, ground := Go.Ground.phase }, { on := 5, ground := Go.Ground.phase }, { on := 6, ground := Go.Ground.phase }, { on := 7, ground := Go.Ground.phase }, { on := 8, ground := Go.Ground.phase }, { on := 9, ground := Go.Ground.phase }, { on := 10, ground := Go.Ground.phase }, { on := 11, ground := Go.Ground.phase }, { on := 12, ground := Go.Ground.phase }, { on := 13, ground := Go.Ground.phase }, { on := 14, ground := Go.Ground.phase }, { on := 15, ground := Go.Ground.phase }, { on := 16, ground := Go.Ground.phase }, { on := 17, ground := Go.Ground.phase }], guard := none }) (v := ?_) rfl (by kernel_rfl) (by kernel_rfl) (by kernel_rfl) (fun _ _ _ h => h) (Or.inl ⟨by rfl, ?_⟩) (by assumption) ?_
    rotate_left
    · intro wS hSw
      try dsimp only at hSw
      go_split_ands
      go_simp
      try with_reducible rfl
    try simp only [Act.put, List.setIfInBounds_toArray, List.set_cons_zero, List.set_cons_succ]
    refine wpAnyH_done (by kernel_rfl) ?_ _
    go_wp2_with fail
    go_meet
    exact ⟨_, _, _, rfl, HQ.out⟩
  case rest =>
  obtain ⟨A, c, l, rfl, hq⟩ := hcut
  clear HQ c2 c11
  have HQ := Lib.hid hq
  clear hq
  go_upto_region 11 with fail
  go_cut [5] (fun v5 wx => ∃ A c l, v5 = .slice A (P6).length c ∧ QB w x l A (P6).length c (P6) wx)
  case first =>
    have HQ := Lib.hid (HQ.out.below (Below.refl _ _).drew)
    refine wp_region_held_drew (S := (fun w' => w'.cell? ⟨w.heap.size, 12, none⟩ = some (.int .i64 x.sp) ∧ w'.cell? ⟨w.heap.size, 13, none⟩ = some (.int .i64 x.dp) ∧ True)) (by kernel_rfl) (⟨HQ.out.box.cell 12, HQ.out.box.cell 13, trivial⟩) (fun hHeld => ?_)
    refine wpAnyH_take (i := 0) (oi := { dst := some 44, op := Go.Op.move (Go.Operand.tmp 5), type := 40, pos := "ref.go:88", after := #[], guard := none }) (v := ?_) rfl (by kernel_rfl) (by kernel_rfl) (by kernel_rfl) (fun _ _ _ h => h) (Or.inl ⟨by rfl, ?_⟩) (by assumption) ?_
    rotate_left
    · intro wS hSw
      try dsimp only at hSw
      go_split_ands
      go_simp
      try with_reducible rfl
    try simp only [Act.put, List.setIfInBounds_toArray, List.set_cons_zero, List.set_cons_succ]
    refine wpAnyH_take (i := 1) (oi := { dst := some 45, op := Go.Op.fieldAddr 32 (Go.Operand.tmp 1) 4, type := 0, pos := "ref.go:88", after := #[], guard := none }) (v := ?_) rfl (by kernel_rfl) (by kernel_rfl) (by kernel_rfl) (fun _ _ _ h => h) (Or.inl ⟨by rfl, ?_⟩) (by assumption) ?_
    rotate_left
    · intro wS hSw
      try dsimp only at hSw
      go_split_ands
      go_simp
      try with_reducible rfl
    try simp only [Act.put, List.setIfInBounds_toArray, List.set_cons_zero, List.set_cons_succ]
    refine wpAnyH_take (i := 2) (oi := { dst := some 46, op := Go.Op.fieldAddr 30 (Go.Operand.tmp 45) 4, type := 0, pos := "ref.go:88", after := #[{ on := 1, ground := Go.Ground.data }], guard := none }) (v := ?_) rfl (by kernel_rfl) (by kernel_rfl) (by kernel_rfl) (fun _ _ _ h => h) (Or.inl ⟨by rfl, ?_⟩) (by assumption) ?_
    rotate_left
    · intro wS hSw
      try dsimp only at hSw
      go_split_ands
      go_simp
      try with_reducible rfl
    try simp only [Act.put, List.setIfInBounds_toArray, List.set_cons_zero, List.set_cons_succ]
    refine wpAnyH_take (i := 3) (oi := { dst := some 47, op := Go.Op.load 3 (Go.Operand.tmp 46), type := 3, pos := "ref.go:88", after := #[{ on := 2, ground := Go.Ground.data }], guard := none }) (v := ?_) rfl (by kernel_rfl) (by kernel_rfl) (by kernel_rfl) (fun _ _ _ h => h) (Or.inl ⟨by rfl, ?_⟩) (by assumption) ?_
    rotate_left
    · intro wS hSw
      try dsimp only at hSw
      go_split_ands
      go_simp
      try with_reducible rfl
    try simp only [Act.put, List.setIfInBounds_toArray, List.set_cons_zero, List.set_cons_succ]
    refine wpAnyH_take (i := 4) (oi := { dst := some 48, op := Go.Op.convert 3 25 (Go.Operand.tmp 47), type := 25, pos := "ref.go:88", after := #[{ on := 3, ground := Go.Ground.data }], guard := none }) (v := ?_) rfl (by kernel_rfl) (by kernel_rfl) (by kernel_rfl) (fun _ _ _ h => h) (Or.inl ⟨by rfl, ?_⟩) (by assumption) ?_
    rotate_left
    · intro wS hSw
      try dsimp only at hSw
      go_split_ands
      go_simp
      try with_reducible rfl
    try simp only [Act.put, List.setIfInBounds_toArray, List.set_cons_zero, List.set_cons_succ]
    refine wpAnyH_take (i := 6) (oi := { dst := some 50, op := Go.Op.fieldAddr 32 (Go.Operand.tmp 1) 4, type := 0, pos := "ref.go:88", after := #[], guard := none }) (v := ?_) rfl (by kernel_rfl) (by kernel_rfl) (by kernel_rfl) (fun _ _ _ h => h) (Or.inl ⟨by rfl, ?_⟩) (by assumption) ?_
    rotate_left
    · intro wS hSw
      try dsimp only at hSw
      go_split_ands
      go_simp
      try with_reducible rfl
    try simp only [Act.put, List.setIfInBounds_toArray, List.set_cons_zero, List.set_cons_succ]
    refine wpAnyH_take (i := 7) (oi := { dst := some 51, op := Go.Op.fieldAddr 30 (Go.Operand.tmp 50) 5, type := 0, pos := "ref.go:88", after := #[{ on := 6, ground := Go.Ground.data }], guard := none }) (v := ?_) rfl (by kernel_rfl) (by kernel_rfl) (by kernel_rfl) (fun _ _ _ h => h) (Or.inl ⟨by rfl, ?_⟩) (by assumption) ?_
    rotate_left
    · intro wS hSw
      try dsimp only at hSw
      go_split_ands
      go_simp
      try with_reducible rfl
    try simp only [Act.put, List.setIfInBounds_toArray, List.set_cons_zero, List.set_cons_succ]
    refine wpAnyH_take (i := 8) (oi := { dst := some 52, op := Go.Op.load 3 (Go.Operand.tmp 51), type := 3, pos := "ref.go:88", after := #[{ on := 7, ground := Go.Ground.data }], guard := none }) (v := ?_) rfl (by kernel_rfl) (by kernel_rfl) (by kernel_rfl) (fun _ _ _ h => h) (Or.inl ⟨by rfl, ?_⟩) (by assumption) ?_
    rotate_left
    · intro wS hSw
      try dsimp only at hSw
      go_split_ands
      go_simp
      try with_reducible rfl
    try simp only [Act.put, List.setIfInBounds_toArray, List.set_cons_zero, List.set_cons_succ]
    refine wpAnyH_take (i := 9) (oi := { dst := some 53, op := Go.Op.convert 3 25 (Go.Operand.tmp 52), type := 25, pos := "ref.go:88", after := #[{ on := 8, ground := Go.Ground.data }], guard := none }) (v := ?_) rfl (by kernel_rfl) (by kernel_rfl) (by kernel_rfl) (fun _ _ _ h => h) (Or.inl ⟨by rfl, ?_⟩) (by assumption) ?_
    rotate_left
    · intro wS hSw
      try dsimp only at hSw
      go_split_ands
      go_simp
      try with_reducible rfl
    try simp only [Act.put, List.setIfInBounds_toArray, List.set_cons_zero, List.set_cons_succ]
    refine wpAnyH_ready (rs := [5]) (by kernel_rfl) (by simp) ?_
    refine AllReadyH.cons (o := { dst := some 49, op := Go.Op.call { callee := Go.Callee.value (Go.Operand.func 35), args := #[Go.Operand.tmp 44, Go.Operand.tmp 48, Go.Operand.const (Go.Value.int Go.IntKind.i64 2)], argTypes := #[40, 25, 3] }, type := 40, pos := "ref.go:88", after := #[{ on := 0, ground := Go.Ground.data }, { on := 4, ground := Go.Ground.data }], guard := none }) rfl (fun K hK => ?_) AllReadyH.nil
    go_simp
    go_at_call 35
    refine (rput7_2 _ _ P4 (x.sp) ⟨by omega, by omega⟩ (by have := HLP4.out; omega) _ HQ.out.o5).mono ?_
    rw [HP5.out]
    rintro e w5 ⟨A5, c5, l5, rfl, ho, hn⟩
    have HQ := Lib.hid (HQ.out.step ho hn)
    clear ho hn
    refine hK.out _ _ (⟨HQ.out.box.cell 12, HQ.out.box.cell 13, trivial⟩) (fun hHeld => ?_)
    clear hK K
    try simp only [Act.put, List.setIfInBounds_toArray, List.set_cons_zero, List.set_cons_succ]
    refine wpAnyH_ready (rs := [10]) (by kernel_rfl) (by simp) ?_
    refine AllReadyH.cons (o := { dst := some 54, op := Go.Op.call { callee := Go.Callee.value (Go.Operand.func 35), args := #[Go.Operand.tmp 49, Go.Operand.tmp 53, Go.Operand.const (Go.Value.int Go.IntKind.i64 2)], argTypes := #[40, 25, 3] }, type := 40, pos := "ref.go:88", after := #[{ on := 5, ground := Go.Ground.data }, { on := 9, ground := Go.Ground.data }, { on := 5, ground := Go.Ground.chain }], guard := none }) rfl (fun K hK => ?_) AllReadyH.nil
    go_simp
    go_at_call 35
    refine (rput7_2 _ _ P5 (x.dp) ⟨by omega, by omega⟩ (by have := HLP5.out; omega) _ HQ.out.o5).mono ?_
    rw [HP6.out]
    rintro e w10 ⟨A10, c10, l10, rfl, ho, hn⟩
    have HQ := Lib.hid (HQ.out.step ho hn)
    clear ho hn
    refine hK.out _ _ (⟨HQ.out.box.cell 12, HQ.out.box.cell 13, trivial⟩) (fun hHeld => ?_)
    clear hK K
    try simp only [Act.put, List.setIfInBounds_toArray, List.set_cons_zero, List.set_cons_succ]
    refine wpAnyH_take (i := 11) (oi := { dst := some 5, op := Go.Op.assign (Go.Operand.tmp 54), type := 40, pos := "ref.go:88", after := #[{ on := 10, ground := Go.Ground.data }, { on := 10, ground := Go.Ground.chain }, { on := 0, ground := Go.Ground.phase }, { on := 1, ground := Go.Ground.phase }, { on := 2, ground := Go.Ground.phase }, { on := 3, ground := Go.Ground.phase }, { on := 4, ground := Go.Ground.phase }, { on := 5, ground := Go.Ground.phase }, { on := 6, ground := Go.Ground.phase }, { on := 7, ground := Go.Ground.phase }, { on := 8, ground := Go.Ground.phase }, { on := 9, ground := Go.Ground.phase }, { on := 10, ground := Go.Ground.phase }], guard := none }) (v := ?_) rfl (by kernel_rfl) (by kernel_rfl) (by kernel_rfl) (fun _ _ _ h => h) (Or.inl ⟨by rfl, ?_⟩) (by assumption) ?_
    rotate_left
    · intro wS hSw
      try dsimp only at hSw
      go_split_ands
      go_simp
      try with_reducible rfl
    try simp only [Act.put, List.setIfInBounds_toArray, List.set_cons_zero, List.set_cons_succ]
    refine wpAnyH_done (by kernel_rfl) ?_ _
    go_wp2_with fail
    go_meet
    exact ⟨_, _, _, rfl, HQ.out⟩
  case rest =>
  obtain ⟨A, c, l, rfl, hq⟩ := hcut
  clear HQ
  have HQ := Lib.hid hq
  clear hq
  have HQk := Lib.hid (HQ.out.below (W' := wc.alloc (.cells #[.int .u8 0, .int .u8 16, .int .u8 0, .int .u8 0] 5)) ((Below.refl _ wc).alloc (Nat.le_refl _) _))
  have LB : Hid (Lz (wc.alloc (.cells #[.int .u8 0, .int .u8 16, .int .u8 0, .int .u8 0] 5)) l (.slice (some ⟨wc.heap.size, 0, none⟩) 4 4) [0, 16, 0, 0]) := Lib.hid (Lz.made _ rfl rfl HQ.out.o5.lt)
  clear HQ
  go_wp2_with (at_builtin; refine wpList_app5z rfl (.tmp 55) (.tmp 56) rfl HQk.out.o5 rfl LB.out rfl (by have := HLP6.out; simp; omega) (some 57) rfl ?_; rw [HP7.out]; intro A2 c2' w2 l2 ho hn; have HQ := Lib.hid (HQk.out.step ho hn); clear ho hn HQk LB; have c14 := HQ.out.box.cell 14; simp only [List.getElem?_toArray, List.getElem?_cons_zero, List.getElem?_cons_succ] at c14; skip)
  go_wp2_with (go_at_call 35; refine (rput7_8 _ _ P7 x.da ⟨by omega, by omega⟩ (by have := HLP7.out; omega) _ HQ.out.o5).mono ?_; rw [HFin.out]; rintro e w90 ⟨A9, c9, l9, rfl, ho, hn⟩; have HQ9 := Lib.hid (HQ.out.step ho hn); clear ho hn)
  obtain ⟨g, rfl, hrow, rfl⟩ := HQ9.out.o5.to (fenc_pos x) rfl
  have HG : Hid (Row w90 g c9 (fenc x) ∧ w.heap.size ≤ g ∧ Below w.heap.size w w90) := Lib.hid ⟨hrow, (HQ9.out.nx.below (by simp) (Nat.le_refl _)).2 g (by simp), HQ9.out.lo⟩
  clear hrow HQ9 HQ
  go_wp2_with fail
  go_ret2
  exact ⟨g, c9, rfl, HG.out⟩

set_option maxHeartbeats 4000000 in
theorem rbytes_2f (x : FR) (hx : x.ty) (hc : fchk x = 0) (hk : x.k = 2) (hp : pd x.pr = false) (w : World) : Calls Try.prog 33 #[.agg x.cs] w (Enc w x) := by
  have HChk : Hid (∀ W : World, Calls Try.prog 36 #[.agg #[.int .u64 x.s, .int .u64 x.d, .int .i64 x.k, .int .i64 x.op, .int .u64 x.sm, .int .u32 x.si, .int .u64 x.tm, .int .u32 x.ti, .int .u32 x.hs, .int .u32 x.hd, .int .i64 x.tl, .int .i64 x.pr, .int .i64 x.sp, .int .i64 x.dp, .int .u64 x.da]] W fun e w' => e = .returned (.int .i64 0) ∧ Below W.heap.size W w') := Lib.hid (fun W => hc ▸ rcheck_any x hx W)
  obtain ⟨hs1, hd1, _, hpe, h1, h2⟩ := fchk_zero hc
  have hs0 := hx.s.1
  have hd0 := hx.d.1
  obtain ⟨hda0, hda1⟩ := hx.da
  have HK := Lib.hid hk
  obtain ⟨⟨hhs0, hhs1⟩, ⟨hhd0, hhd1⟩, ⟨htl0, htl1⟩, ⟨hpr0, hpr1⟩, ⟨hsp0, hsp1⟩, ⟨hdp0, hdp1⟩⟩ := hx.okH (h2 hk)
  have hok := hx.okH (h2 hk)
  have wa0 : IntKind.u64.wrap x.sp = x.sp := wr64 _ (by omega) (by omega)
  have wb0 : x.sp % 18446744073709551616 = x.sp := by omega
  have wa1 : IntKind.u64.wrap x.dp = x.dp := wr64 _ (by omega) (by omega)
  have wb1 : x.dp % 18446744073709551616 = x.dp := by omega
  obtain ⟨P1, hP1⟩ : ∃ P : List Int, [] ++ be x.d 6 = P := ⟨_, rfl⟩
  have hlP1 : P1.length ≤ 40 := by rw [← hP1]; simp [be_length, hdrS, hdr_len]; try omega
  obtain ⟨P2, hP2⟩ : ∃ P : List Int, P1 ++ be x.s 6 = P := ⟨_, rfl⟩
  have hlP2 : P2.length ≤ 80 := by rw [← hP2]; simp [be_length, hdrS, hdr_len]; try omega
  obtain ⟨P3, hP3⟩ : ∃ P : List Int, P2 ++ [8, 0] = P := ⟨_, rfl⟩
  have hlP3 : P3.length ≤ 120 := by rw [← hP3]; simp [be_length, hdrS, hdr_len]; try omega
  obtain ⟨P4, hP4⟩ : ∃ P : List Int, P3 ++ hdrS x = P := ⟨_, rfl⟩
  have hlP4 : P4.length ≤ 160 := by rw [← hP4]; simp [be_length, hdrS, hdr_len]; try omega
  have HFin : Hid (P4 ++ be x.da 8 = fenc x) := Lib.hid (by
    have e : ([8, 0] : List Int) = be 2048 2 := by decide
    have e2 : ([0, 16, 0, 0] : List Int) = be 16 2 ++ be 0 2 := by decide
    rw [← hP4, ← hP3, ← hP2, ← hP1]
    unfold fenc fbody fcode bodyH
    rw [if_neg (by omega), if_pos hk, if_neg (by omega), if_pos hk, if_neg (by rw [hp]; decide), e]
    simp only [e2, List.nil_append, List.append_assoc])
  have HHd : Hid (∀ W : World, Calls Try.prog 34 #[.int .i64 28, .int .i64 x.tl, .int .i64 x.pr, .int .u32 x.hs, .int .u32 x.hd] W fun e w' => ∃ g c, e = .returned (.slice (some ⟨g, 0, none⟩) 20 c) ∧ Row w' g c (hdrS x) ∧ W.heap.size ≤ g ∧ Below W.heap.size W w') := Lib.hid (fun W => rheader_any x hok 28 (by unfold hsz; rw [hp]; rfl) (by decide) W)
  have HPd : Hid (∀ W : World, Calls Try.prog 61 #[.int .i64 x.pr] W fun e w' => e = .returned (.bool false) ∧ W = w') := Lib.hid (fun W => hp ▸ rported_any x.pr W)
  clear hc hpe h1 h2 hk hx hok hp
  have HP1 := Lib.hid hP1
  have HLP1 := Lib.hid hlP1
  have HP2 := Lib.hid hP2
  have HLP2 := Lib.hid hlP2
  have HP3 := Lib.hid hP3
  have HLP3 := Lib.hid hlP3
  have HP4 := Lib.hid hP4
  have HLP4 := Lib.hid hlP4
  clear hP1 hlP1 hP2 hlP2 hP3 hlP3 hP4 hlP4
  unfold FR.cs
  have HX0 : Hid (Has (w.alloc (.cells #[.int .u64 x.s, .int .u64 x.d, .int .i64 x.k, .int .i64 x.op, .int .u64 x.sm, .int .u32 x.si, .int .u64 x.tm, .int .u32 x.ti, .int .u32 x.hs, .int .u32 x.hd, .int .i64 x.tl, .int .i64 x.pr, .int .i64 x.sp, .int .i64 x.dp, .int .u64 x.da] 32)) w.heap.size 32 #[.int .u64 x.s, .int .u64 x.d, .int .i64 x.k, .int .i64 x.op, .int .u64 x.sm, .int .u32 x.si, .int .u64 x.tm, .int .u32 x.ti, .int .u32 x.hs, .int .u32 x.hd, .int .i64 x.tl, .int .i64 x.pr, .int .i64 x.sp, .int .i64 x.dp, .int .u64 x.da]) := Lib.hid (Has.new w _ _)
  have HL0 : Hid (Below w.heap.size w (w.alloc (.cells #[.int .u64 x.s, .int .u64 x.d, .int .i64 x.k, .int .i64 x.op, .int .u64 x.sm, .int .u32 x.si, .int .u64 x.tm, .int .u32 x.ti, .int .u32 x.hs, .int .u32 x.hd, .int .i64 x.tl, .int .i64 x.pr, .int .i64 x.sp, .int .i64 x.dp, .int .u64 x.da] 32))) := Lib.hid ((Below.refl _ w).alloc (Nat.le_refl _) _)
  go_enter Try.func33, Try.ntmps33
  go_upto_region 4 with (go_at_call 36; refine (HChk.out _).mono ?_; rintro e w1 ⟨rfl, hb⟩; have HQ : Hid (QB w x [] none 0 0 [] w1) := Lib.hid (QB.start (HL0.out.trans (hb.mono HL0.out.size)) (HX0.out.below hb)); clear hb HX0 HL0)
  go_upto_region 4 with fail
  go_cut [5] (fun v5 wx => ∃ A c l, v5 = .slice A (P2).length c ∧ QB w x l A (P2).length c (P2) wx)
  case first =>
    have HQ := Lib.hid (HQ.out.below (Below.refl _ _).drew)
    refine wp_region_held_drew (S := (fun w' => w'.cell? ⟨w.heap.size, 0, none⟩ = some (.int .u64 x.s) ∧ w'.cell? ⟨w.heap.size, 1, none⟩ = some (.int .u64 x.d) ∧ True)) (by kernel_rfl) (⟨HQ.out.box.cell 0, HQ.out.box.cell 1, trivial⟩) (fun hHeld => ?_)
    refine wpAnyH_take (i := 0) (oi := { dst := some 12, op := Go.Op.fieldAddr 32 (Go.Operand.tmp 1) 1, type := 0, pos := "ref.go:73", after := #[], guard := none }) (v := ?_) rfl (by kernel_rfl) (by kernel_rfl) (by kernel_rfl) (fun _ _ _ h => h) (Or.inl ⟨by rfl, ?_⟩) (by assumption) ?_
    rotate_left
    · intro wS hSw
      try dsimp only at hSw
      go_split_ands
      go_simp
      try with_reducible rfl
    try simp only [Act.put, List.setIfInBounds_toArray, List.set_cons_zero, List.set_cons_succ]
    refine wpAnyH_take (i := 1) (oi := { dst := some 13, op := Go.Op.load 26 (Go.Operand.tmp 12), type := 26, pos := "ref.go:73", after := #[{ on := 0, ground := Go.Ground.data }], guard := none }) (v := ?_) rfl (by kernel_rfl) (by kernel_rfl) (by kernel_rfl) (fun _ _ _ h => h) (Or.inl ⟨by rfl, ?_⟩) (by assumption) ?_
    rotate_left
    · intro wS hSw
      try dsimp only at hSw
      go_split_ands
      go_simp
      try with_reducible rfl
    try simp only [Act.put, List.setIfInBounds_toArray, List.set_cons_zero, List.set_cons_succ]
    refine wpAnyH_take (i := 3) (oi := { dst := some 15, op := Go.Op.fieldAddr 32 (Go.Operand.tmp 1) 0, type := 0, pos := "ref.go:73", after := #[], guard := none }) (v := ?_) rfl (by kernel_rfl) (by kernel_rfl) (by kernel_rfl) (fun _ _ _ h => h) (Or.inl ⟨by rfl, ?_⟩) (by assumption) ?_
    rotate_left
    · intro wS hSw
      try dsimp only at hSw
      go_split_ands
      go_simp
      try with_reducible rfl
    try simp only [Act.put, List.setIfInBounds_toArray, List.set_cons_zero, List.set_cons_succ]
    refine wpAnyH_take (i := 4) (oi := { dst := some 16, op := Go.Op.load 26 (Go.Operand.tmp 15), type := 26, pos := "ref.go:73", after := #[{ on := 3, ground := Go.Ground.data }], guard := none }) (v := ?_) rfl (by kernel_rfl) (by kernel_rfl) (by kernel_rfl) (fun _ _ _ h => h) (Or.inl ⟨by rfl, ?_⟩) (by assumption) ?_
    rotate_left
    · intro wS hSw
      try dsimp only at hSw
      go_split_ands
      go_simp
      try with_reducible rfl
    try simp only [Act.put, List.setIfInBounds_toArray, List.set_cons_zero, List.set_cons_succ]
    refine wpAnyH_ready (rs := [2]) (by kernel_rfl) (by simp) ?_
    refine AllReadyH.cons (o := { dst := some 14, op := Go.Op.call { callee := Go.Callee.value (Go.Operand.func 35), args := #[Go.Operand.const (Go.Value.slice none 0 0), Go.Operand.tmp 13, Go.Operand.const (Go.Value.int Go.IntKind.i64 6)], argTypes := #[40, 25, 3] }, type := 40, pos := "ref.go:73", after := #[{ on := 1, ground := Go.Ground.data }], guard := none }) rfl (fun K hK => ?_) AllReadyH.nil
    go_simp
    go_at_call 35
    refine (rput7_6 _ _ [] (x.d) ⟨by omega, by omega⟩ (by decide) _ HQ.out.o5).mono ?_
    rw [HP1.out]
    rintro e w2 ⟨A2, c2, l2, rfl, ho, hn⟩
    have HQ := Lib.hid (HQ.out.step ho hn)
    clear ho hn
    refine hK.out _ _ (⟨HQ.out.box.cell 0, HQ.out.box.cell 1, trivial⟩) (fun hHeld => ?_)
    clear hK K
    try simp only [Act.put, List.setIfInBounds_toArray, List.set_cons_zero, List.set_cons_succ]
    refine wpAnyH_ready (rs := [5]) (by kernel_rfl) (by simp) ?_
    refine AllReadyH.cons (o := { dst := some 17, op := Go.Op.call { callee := Go.Callee.value (Go.Operand.func 35), args := #[Go.Operand.tmp 14, Go.Operand.tmp 16, Go.Operand.const (Go.Value.int Go.IntKind.i64 6)], argTypes := #[40, 25, 3] }, type := 40, pos := "ref.go:73", after := #[{ on := 2, ground := Go.Ground.data }, { on := 4, ground := Go.Ground.data }, { on := 2, ground := Go.Ground.chain }], guard := none }) rfl (fun K hK => ?_) AllReadyH.nil
    go_simp
    go_at_call 35
    refine (rput7_6 _ _ P1 (x.s) ⟨by omega, by omega⟩ (by have := HLP1.out; omega) _ HQ.out.o5).mono ?_
    rw [HP2.out]
    rintro e w5 ⟨A5, c5, l5, rfl, ho, hn⟩
    have HQ := Lib.hid (HQ.out.step ho hn)
    clear ho hn
    refine hK.out _ _ (⟨HQ.out.box.cell 0, HQ.out.box.cell 1, trivial⟩) (fun hHeld => ?_)
    clear hK K
    try simp only [Act.put, List.setIfInBounds_toArray, List.set_cons_zero, List.set_cons_succ]
    refine wpAnyH_take (i := 6) (oi := { dst := some 5, op := Go.Op.assign (Go.Operand.tmp 17), type := 40, pos := "ref.go:73", after := #[{ on := 5, ground := Go.Ground.data }, { on := 5, ground := Go.Ground.chain }, { on := 0, ground := Go.Ground.phase }, { on := 1, ground := Go.Ground.phase }, { on := 2, ground := Go.Ground.phase }, { on := 3, ground := Go.Ground.phase }, { on := 4, ground := Go.Ground.phase }, { on := 5, ground := Go.Ground.phase }], guard := none }) (v := ?_) rfl (by kernel_rfl) (by kernel_rfl) (by kernel_rfl) (fun _ _ _ h => h) (Or.inl ⟨by rfl, ?_⟩) (by assumption) ?_
    rotate_left
    · intro wS hSw
      try dsimp only at hSw
      go_split_ands
      go_simp
      try with_reducible rfl
    try simp only [Act.put, List.setIfInBounds_toArray, List.set_cons_zero, List.set_cons_succ]
    refine wpAnyH_done (by kernel_rfl) ?_ _
    go_wp2_with fail
    go_meet
    exact ⟨_, _, _, rfl, HQ.out⟩
  case rest =>
  obtain ⟨A, c, l, rfl, hq⟩ := hcut
  clear HQ
  have HQ := Lib.hid hq
  clear hq
  have c2 := HQ.out.box.cell 2
  have c11 := HQ.out.box.cell 11
  simp only [List.getElem?_toArray, List.getElem?_cons_zero, List.getElem?_cons_succ] at c2 c11
  rw [HK.out] at c2
  go_upto_region 9 with (go_at_call 61; refine (HPd.out _).mono ?_; rintro e w9 ⟨rfl, rfl⟩)
  go_cut [5] (fun v5 wx => ∃ A c l, v5 = .slice A (P4).length c ∧ QB w x l A (P4).length c (P4) wx)
  case first =>
    have HQ := Lib.hid (HQ.out.below (Below.refl _ _).drew)
    refine wp_region_held_drew (S := (fun w' => w'.cell? ⟨w.heap.size, 8, none⟩ = some (.int .u32 x.hs) ∧ w'.cell? ⟨w.heap.size, 9, none⟩ = some (.int .u32 x.hd) ∧ w'.cell? ⟨w.heap.size, 10, none⟩ = some (.int .i64 x.tl) ∧ w'.cell? ⟨w.heap.size, 11, none⟩ = some (.int .i64 x.pr) ∧ True)) (by kernel_rfl) (⟨HQ.out.box.cell 8, HQ.out.box.cell 9, HQ.out.box.cell 10, HQ.out.box.cell 11, trivial⟩) (fun hHeld => ?_)
    refine wpAnyH_take (i := 0) (oi := { dst := some 24, op := Go.Op.move (Go.Operand.tmp 5), type := 40, pos := "ref.go:86", after := #[], guard := none }) (v := ?_) rfl (by kernel_rfl) (by kernel_rfl) (by kernel_rfl) (fun _ _ _ h => h) (Or.inl ⟨by rfl, ?_⟩) (by assumption) ?_
    rotate_left
    · intro wS hSw
      try dsimp only at hSw
      go_split_ands
      go_simp
      try with_reducible rfl
    try simp only [Act.put, List.setIfInBounds_toArray, List.set_cons_zero, List.set_cons_succ]
    refine wpAnyH_take (i := 3) (oi := { dst := some 27, op := Go.Op.move (Go.Operand.tmp 6), type := 3, pos := "ref.go:86", after := #[], guard := none }) (v := ?_) rfl (by kernel_rfl) (by kernel_rfl) (by kernel_rfl) (fun _ _ _ h => h) (Or.inl ⟨by rfl, ?_⟩) (by assumption) ?_
    rotate_left
    · intro wS hSw
      try dsimp only at hSw
      go_split_ands
      go_simp
      try with_reducible rfl
    try simp only [Act.put, List.setIfInBounds_toArray, List.set_cons_zero, List.set_cons_succ]
    refine wpAnyH_take (i := 4) (oi := { dst := some 28, op := Go.Op.fieldAddr 32 (Go.Operand.tmp 1) 4, type := 0, pos := "ref.go:86", after := #[], guard := none }) (v := ?_) rfl (by kernel_rfl) (by kernel_rfl) (by kernel_rfl) (fun _ _ _ h => h) (Or.inl ⟨by rfl, ?_⟩) (by assumption) ?_
    rotate_left
    · intro wS hSw
      try dsimp only at hSw
      go_split_ands
      go_simp
      try with_reducible rfl
    try simp only [Act.put, List.setIfInBounds_toArray, List.set_cons_zero, List.set_cons_succ]
    refine wpAnyH_take (i := 5) (oi := { dst := some 29, op := Go.Op.fieldAddr 30 (Go.Operand.tmp 28) 2, type := 0, pos := "ref.go:86", after := #[{ on := 4, ground := Go.Ground.data }], guard := none }) (v := ?_) rfl (by kernel_rfl) (by kernel_rfl) (by kernel_rfl) (fun _ _ _ h => h) (Or.inl ⟨by rfl, ?_⟩) (by assumption) ?_
    rotate_left
    · intro wS hSw
      try dsimp only at hSw
      go_split_ands
      go_simp
      try with_reducible rfl
    try simp only [Act.put, List.setIfInBounds_toArray, List.set_cons_zero, List.set_cons_succ]
    refine wpAnyH_take (i := 6) (oi := { dst := some 30, op := Go.Op.load 3 (Go.Operand.tmp 29), type := 3, pos := "ref.go:86", after := #[{ on := 5, ground := Go.Ground.data }], guard := none }) (v := ?_) rfl (by kernel_rfl) (by kernel_rfl) (by kernel_rfl) (fun _ _ _ h => h) (Or.inl ⟨by rfl, ?_⟩) (by assumption) ?_
    rotate_left
    · intro wS hSw
      try dsimp only at hSw
      go_split_ands
      go_simp
      try with_reducible rfl
    try simp only [Act.put, List.setIfInBounds_toArray, List.set_cons_zero, List.set_cons_succ]
    refine wpAnyH_take (i := 7) (oi := { dst := some 31, op := Go.Op.fieldAddr 32 (Go.Operand.tmp 1) 4, type := 0, pos := "ref.go:86", after := #[], guard := none }) (v := ?_) rfl (by kernel_rfl) (by kernel_rfl) (by kernel_rfl) (fun _ _ _ h => h) (Or.inl ⟨by rfl, ?_⟩) (by assumption) ?_
    rotate_left
    · intro wS hSw
      try dsimp only at hSw
      go_split_ands
      go_simp
      try with_reducible rfl
    try simp only [Act.put, List.setIfInBounds_toArray, List.set_cons_zero, List.set_cons_succ]
    refine wpAnyH_take (i := 8) (oi := { dst := some 32, op := Go.Op.fieldAddr 30 (Go.Operand.tmp 31) 3, type := 0, pos := "ref.go:86", after := #[{ on := 7, ground := Go.Ground.data }], guard := none }) (v := ?_) rfl (by kernel_rfl) (by kernel_rfl) (by kernel_rfl) (fun _ _ _ h => h) (Or.inl ⟨by rfl, ?_⟩) (by assumption) ?_
    rotate_left
    · intro wS hSw
      try dsimp only at hSw
      go_split_ands
      go_simp
      try with_reducible rfl
    try simp only [Act.put, List.setIfInBounds_toArray, List.set_cons_zero, List.set_cons_succ]
    refine wpAnyH_take (i := 9) (oi := { dst := some 33, op := Go.Op.load 3 (Go.Operand.tmp 32), type := 3, pos := "ref.go:86", after := #[{ on := 8, ground := Go.Ground.data }], guard := none }) (v := ?_) rfl (by kernel_rfl) (by kernel_rfl) (by kernel_rfl) (fun _ _ _ h => h) (Or.inl ⟨by rfl, ?_⟩) (by assumption) ?_
    rotate_left
    · intro wS hSw
      try dsimp only at hSw
      go_split_ands
      go_simp
      try with_reducible rfl
    try simp only [Act.put, List.setIfInBounds_toArray, List.set_cons_zero, List.set_cons_succ]
    refine wpAnyH_take (i := 10) (oi := { dst := some 34, op := Go.Op.fieldAddr 32 (Go.Operand.tmp 1) 4, type := 0, pos := "ref.go:86", after := #[], guard := none }) (v := ?_) rfl (by kernel_rfl) (by kernel_rfl) (by kernel_rfl) (fun _ _ _ h => h) (Or.inl ⟨by rfl, ?_⟩) (by assumption) ?_
    rotate_left
    · intro wS hSw
      try dsimp only at hSw
      go_split_ands
      go_simp
      try with_reducible rfl
    try simp only [Act.put, List.setIfInBounds_toArray, List.set_cons_zero, List.set_cons_succ]
    refine wpAnyH_take (i := 11) (oi := { dst := some 35, op := Go.Op.fieldAddr 30 (Go.Operand.tmp 34) 0, type := 0, pos := "ref.go:86", after := #[{ on := 10, ground := Go.Ground.data }], guard := none }) (v := ?_) rfl (by kernel_rfl) (by kernel_rfl) (by kernel_rfl) (fun _ _ _ h => h) (Or.inl ⟨by rfl, ?_⟩) (by assumption) ?_
    rotate_left
    · intro wS hSw
      try dsimp only at hSw
      go_split_ands
      go_simp
      try with_reducible rfl
    try simp only [Act.put, List.setIfInBounds_toArray, List.set_cons_zero, List.set_cons_succ]
    refine wpAnyH_take (i := 12) (oi := { dst := some 36, op := Go.Op.load 24 (Go.Operand.tmp 35), type := 24, pos := "ref.go:86", after := #[{ on := 11, ground := Go.Ground.data }], guard := none }) (v := ?_) rfl (by kernel_rfl) (by kernel_rfl) (by kernel_rfl) (fun _ _ _ h => h) (Or.inl ⟨by rfl, ?_⟩) (by assumption) ?_
    rotate_left
    · intro wS hSw
      try dsimp only at hSw
      go_split_ands
      go_simp
      try with_reducible rfl
    try simp only [Act.put, List.setIfInBounds_toArray, List.set_cons_zero, List.set_cons_succ]
    refine wpAnyH_take (i := 13) (oi := { dst := some 37, op := Go.Op.fieldAddr 32 (Go.Operand.tmp 1) 4, type := 0, pos := "ref.go:86", after := #[], guard := none }) (v := ?_) rfl (by kernel_rfl) (by kernel_rfl) (by kernel_rfl) (fun _ _ _ h => h) (Or.inl ⟨by rfl, ?_⟩) (by assumption) ?_
    rotate_left
    · intro wS hSw
      try dsimp only at hSw
      go_split_ands
      go_simp
      try with_reducible rfl
    try simp only [Act.put, List.setIfInBounds_toArray, List.set_cons_zero, List.set_cons_succ]
    refine wpAnyH_take (i := 14) (oi := { dst := some 38, op := Go.Op.fieldAddr 30 (Go.Operand.tmp 37) 1, type := 0, pos := "ref.go:86", after := #[{ on := 13, ground := Go.Ground.data }], guard := none }) (v := ?_) rfl (by kernel_rfl) (by kernel_rfl) (by kernel_rfl) (fun _ _ _ h => h) (Or.inl ⟨by rfl, ?_⟩) (by assumption) ?_
    rotate_left
    · intro wS hSw
      try dsimp only at hSw
      go_split_ands
      go_simp
      try with_reducible rfl
    try simp only [Act.put, List.setIfInBounds_toArray, List.set_cons_zero, List.set_cons_succ]
    refine wpAnyH_take (i := 15) (oi := { dst := some 39, op := Go.Op.load 24 (Go.Operand.tmp 38), type := 24, pos := "ref.go:86", after := #[{ on := 14, ground := Go.Ground.data }], guard := none }) (v := ?_) rfl (by kernel_rfl) (by kernel_rfl) (by kernel_rfl) (fun _ _ _ h => h) (Or.inl ⟨by rfl, ?_⟩) (by assumption) ?_
    rotate_left
    · intro wS hSw
      try dsimp only at hSw
      go_split_ands
      go_simp
      try with_reducible rfl
    try simp only [Act.put, List.setIfInBounds_toArray, List.set_cons_zero, List.set_cons_succ]
    refine wpAnyH_ready (rs := [1]) (by kernel_rfl) (by simp) ?_
    refine AllReadyH.cons (o := { dst := some 25, op := Go.Op.buildSlice 40 2 #[(0, Go.Operand.const (Go.Value.int Go.IntKind.u8 8)), (1, Go.Operand.const (Go.Value.int Go.IntKind.u8 0))], type := 40, pos := "ref.go:86", after := #[], guard := none }) rfl (fun K hK => ?_) AllReadyH.nil
    go_simp
    have LB : Hid (Lz (wc.drew.alloc (.cells #[.int .u8 8, .int .u8 0] 5)) l (.slice (some ⟨wc.drew.heap.size, 0, none⟩) 2 2) [8, 0]) := Lib.hid (Lz.made (W := wc.drew) _ rfl rfl HQ.out.o5.lt)
    have HQ := Lib.hid (HQ.out.below (W' := (wc.drew.alloc (.cells #[.int .u8 8, .int .u8 0] 5))) ((Below.refl _ wc.drew).alloc (Nat.le_refl _) _))
    refine hK.out _ _ (⟨HQ.out.box.cell 8, HQ.out.box.cell 9, HQ.out.box.cell 10, HQ.out.box.cell 11, trivial⟩) (fun hHeld => ?_)
    clear hK K
    try simp only [Act.put, List.setIfInBounds_toArray, List.set_cons_zero, List.set_cons_succ]
    refine wpAnyH_ready (rs := [2]) (by kernel_rfl) (by simp) ?_
    refine AllReadyH.cons (o := { dst := some 26, op := Go.Op.call { callee := Go.Callee.builtin Go.Builtin.append, args := #[Go.Operand.tmp 24, Go.Operand.tmp 25], argTypes := #[40, 40] }, type := 40, pos := "ref.go:86", after := #[{ on := 0, ground := Go.Ground.data }, { on := 1, ground := Go.Ground.data }], guard := none }) rfl (fun K hK => ?_) AllReadyH.nil
    refine step_app5z rfl (.tmp 24) (.tmp 25) rfl HQ.out.o5 rfl LB.out rfl (by have := HLP2.out; simp [hdrS, hdr_len]; try omega) (some 26) rfl ?_
    rw [HP3.out]
    intro A21 c21 w21 l21 ho hn
    have HQ := Lib.hid (HQ.out.step ho hn)
    clear ho hn
    refine hK.out _ _ (⟨HQ.out.box.cell 8, HQ.out.box.cell 9, HQ.out.box.cell 10, HQ.out.box.cell 11, trivial⟩) (fun hHeld => ?_)
    clear hK K
    try simp only [Act.put, List.setIfInBounds_toArray, List.set_cons_zero, List.set_cons_succ]
    refine wpAnyH_ready (rs := [16]) (by kernel_rfl) (by simp) ?_
    refine AllReadyH.cons (o := { dst := some 40, op := Go.Op.call { callee := Go.Callee.value (Go.Operand.func 34), args := #[Go.Operand.tmp 27, Go.Operand.tmp 30, Go.Operand.tmp 33, Go.Operand.tmp 36, Go.Operand.tmp 39], argTypes := #[3, 3, 3, 24, 24] }, type := 40, pos := "ref.go:86", after := #[{ on := 3, ground := Go.Ground.data }, { on := 6, ground := Go.Ground.data }, { on := 9, ground := Go.Ground.data }, { on := 12, ground := Go.Ground.data }, { on := 15, ground := Go.Ground.data }, { on := 2, ground := Go.Ground.chain }], guard := none }) rfl (fun K hK => ?_) AllReadyH.nil
    go_simp
    go_at_call 34
    refine (HHd.out _).mono ?_
    rintro e w22 ⟨g22, c22, rfl, hrow, hg, hb⟩
    have LH : Hid (Lz w22 l21 (.slice (some ⟨g22, 0, none⟩) 20 c22) (hdrS x)) := Lib.hid (Lz.of_row hrow (hdr_len x _) (fun hm => Nat.lt_irrefl _ (Nat.lt_of_lt_of_le (HQ.out.o5.lt _ hm) hg)))
    have HQ := Lib.hid (HQ.out.below hb)
    clear hrow hg hb
    refine hK.out _ _ (⟨HQ.out.box.cell 8, HQ.out.box.cell 9, HQ.out.box.cell 10, HQ.out.box.cell 11, trivial⟩) (fun hHeld => ?_)
    clear hK K
    try simp only [Act.put, List.setIfInBounds_toArray, List.set_cons_zero, List.set_cons_succ]
    refine wpAnyH_ready (rs := [17]) (by kernel_rfl) (by simp) ?_
    refine AllReadyH.cons (o := { dst := some 41, op := Go.Op.call { callee := Go.Callee.builtin Go.Builtin.append, args := #[Go.Operand.tmp 26, Go.Operand.tmp 40], argTypes := #[40, 40] }, type := 40, pos := "ref.go:86", after := #[{ on := 2, ground := Go.Ground.data }, { on := 16, ground := Go.Ground.data }, { on := 16, ground := Go.Ground.chain }], guard := none }) rfl (fun K hK => ?_) AllReadyH.nil
    refine step_app5z rfl (.tmp 26) (.tmp 40) rfl HQ.out.o5 rfl LH.out rfl (by have := HLP3.out; simp [hdrS, hdr_len]; try omega) (some 41) rfl ?_
    rw [HP4.out]
    intro A23 c23 w23 l23 ho hn
    have HQ := Lib.hid (HQ.out.step ho hn)
    clear ho hn
    refine hK.out _ _ (⟨HQ.out.box.cell 8, HQ.out.box.cell 9, HQ.out.box.cell 10, HQ.out.box.cell 11, trivial⟩) (fun hHeld => ?_)
    clear hK K
    try simp only [Act.put, List.setIfInBounds_toArray, List.set_cons_zero, List.set_cons_succ]
    refine wpAnyH_take (i := 18) (oi := { dst := some 5, op := Go.Op.assign (Go.Operand.tmp 41), type := 40, pos := "ref.go:86", after := #[{ on := 17, ground := Go.Ground.data }, { on := 17, ground := Go.Ground.chain }, { on := 0, ground := Go.Ground.phase }, { on := 1, ground := Go.Ground.phase }, { on := 2, ground := Go.Ground.phase }, { on := 3, ground := Go.Ground.phase }, { on := 4, ground := Go.Ground.phase }, { on := 5, ground := Go.Ground.phase }, { on := 6, ground := Go.Ground.phase }, { on := 7, ground := Go.Ground.phase }, { on := 8, ground := Go.Ground.phase }, { on := 9, ground := Go.Ground.phase }, { on := 10, ground := Go.Ground.phase }, { on := 11, ground := Go.Ground.phase }, { on := 12, ground := Go.Ground.phase }, { on := 13, ground := Go.Ground.phase }, { on := 14, ground := Go.Ground.phase }, { on := 15, ground := Go.Ground.phase }, { on := 16, ground := Go.Ground.phase }, { on := 17, ground := Go.Ground.phase }], guard := none }) (v := ?_) rfl (by kernel_rfl) (by kernel_rfl) (by kernel_rfl) (fun _ _ _ h => h) (Or.inl ⟨by rfl, ?_⟩) (by assumption) ?_
    rotate_left
    · intro wS hSw
      try dsimp only at hSw
      go_split_ands
      go_simp
      try with_reducible rfl
    try simp only [Act.put, List.setIfInBounds_toArray, List.set_cons_zero, List.set_cons_succ]
    refine wpAnyH_done (by kernel_rfl) ?_ _
    go_wp2_with fail
    go_meet
    exact ⟨_, _, _, rfl, HQ.out⟩
  case rest =>
  obtain ⟨A, c, l, rfl, hq⟩ := hcut
  clear HQ c2 c11
  have HQ := Lib.hid hq
  clear hq
  have c14 := HQ.out.box.cell 14; simp only [List.getElem?_toArray, List.getElem?_cons_zero, List.getElem?_cons_succ] at c14; skip
  go_wp2_with (go_at_call 35; refine (rput7_8 _ _ P4 x.da ⟨by omega, by omega⟩ (by have := HLP4.out; omega) _ HQ.out.o5).mono ?_; rw [HFin.out]; rintro e w90 ⟨A9, c9, l9, rfl, ho, hn⟩; have HQ9 := Lib.hid (HQ.out.step ho hn); clear ho hn)
  obtain ⟨g, rfl, hrow, rfl⟩ := HQ9.out.o5.to (fenc_pos x) rfl
  have HG : Hid (Row w90 g c9 (fenc x) ∧ w.heap.size ≤ g ∧ Below w.heap.size w w90) := Lib.hid ⟨hrow, (HQ9.out.nx.below (by simp) (Nat.le_refl _)).2 g (by simp), HQ9.out.lo⟩
  clear hrow HQ9 HQ
  go_wp2_with fail
  go_ret2
  exact ⟨g, c9, rfl, HG.out⟩

theorem rbytes_yes (x : FR) (hx : x.ty) (hc : fchk x = 0) (w : World) : Calls Try.prog 33 #[.agg x.cs] w (Enc w x) := by
  rcases perr_k (fchk_zero hc).2.2.2.1 with h | h | h
  · exact rbytes_0 x hx hc h w
  · exact rbytes_1 x hx hc h w
  · cases hp : pd x.pr
    · exact rbytes_2f x hx hc h hp w
    · exact rbytes_2t x hx hc h hp w

end Go.Proofs.Ytgdfpmnbofnjfaa
