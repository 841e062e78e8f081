/- NlriBack: the walk. -/
import Derived.Test.YtjachhgcoioohaaNrM
import Derived.Deep.RegionHeld3
import Derived.Deep.AppendLies
namespace Go.Proofs.Ytjachhgcoioohaa
open Go.RowKit Go.Maps Go.Shelf
set_option linter.unusedVariables false
set_option linter.unusedSimpArgs false
set_option maxRecDepth 100000

theorem own_far {w w' : World} {base size n base' size' n' : Nat} {e e' : TypeId} {v v' : Value} {xs xs' : List Value} (h : w.ownsRow base e size v n xs) (h' : w.ownsRow base' e' size' v' n' xs') (hne : e ≠ e') (hg : w.grownBy w' v'.ownBlock) : w'.ownsRow base e size v n xs := by
  refine ⟨h.1, ?_⟩
  rcases h.2 with h0 | ⟨g, cap, cur, hv, hb', hc, r⟩
  · exact .inl h0
  · subst hv
    have hh : Has w g e cur := hc
    exact .inr ⟨g, cap, cur, rfl, hb', hh.grown hg (hh.not_own hne h'), r⟩

theorem own_lt {w : World} {base size n : Nat} {e : TypeId} {v : Value} {xs : List Value} (h : w.ownsRow base e size v n xs) : ∀ g, v.ownBlock = some g → g < w.heap.size := by
  intro g hg
  rcases h.2 with ⟨h9, _⟩ | ⟨g', cap', cur', h9, _, h10, _⟩
  · rw [h9] at hg; cases hg
  · have hgg : g' = g := by rw [h9] at hg; simpa [Value.ownBlock] using hg
    have hh : Has w g' e cur' := h10
    rw [← hgg]
    exact hh.lt

/-- Two rows of one call, and nothing old turned. -/
structure XB (W3 : World) (v3 : Value) (n3 : Nat) (x3 : List Value) (v4 : Value) (n4 : Nat) (x4 : List Value) (w : World) : Prop where
  own3 : w.ownsRow W3.heap.size 5 1 v3 n3 x3
  own4 : w.ownsRow W3.heap.size 36 21 v4 n4 x4
  bel : Below W3.heap.size W3 w
theorem XB.below {W3 w w' : World} {v3 v4 : Value} {n3 n4 : Nat} {x3 x4 : List Value} (h : XB W3 v3 n3 x3 v4 n4 x4 w) (hb : Below w.heap.size w w') : XB W3 v3 n3 x3 v4 n4 x4 w' :=
  ⟨own_keep h.own3 hb, own_keep h.own4 hb, h.bel.trans (hb.mono h.bel.size)⟩
theorem XB.drew {W3 w : World} {v3 v4 : Value} {n3 n4 : Nat} {x3 x4 : List Value} (h : XB W3 v3 n3 x3 v4 n4 x4 w) : XB W3 v3 n3 x3 v4 n4 x4 w.drew := h.below (Below.refl _ w).drew
theorem XB.alloc {W3 w : World} {v3 v4 : Value} {n3 n4 : Nat} {x3 x4 : List Value} (h : XB W3 v3 n3 x3 v4 n4 x4 w) (o : Obj) : XB W3 v3 n3 x3 v4 n4 x4 (w.alloc o) := h.below ((Below.refl _ w).alloc (Nat.le_refl _) _)
theorem XB.app3 {W3 w w' : World} {v3 v4 v' : Value} {n3 n4 n' : Nat} {x3 x4 x' : List Value} (h : XB W3 v3 n3 x3 v4 n4 x4 w) (ho : w'.ownsRow W3.heap.size 5 1 v' n' x') (hg : w.grownBy w' v3.ownBlock) : XB W3 v' n' x' v4 n4 x4 w' :=
  ⟨ho, own_far h.own4 h.own3 (by decide) hg, own_bel h.own3 h.bel hg h.bel.size (Nat.le_refl _)⟩
theorem XB.app4 {W3 w w' : World} {v3 v4 v' : Value} {n3 n4 n' : Nat} {x3 x4 x' : List Value} (h : XB W3 v3 n3 x3 v4 n4 x4 w) (ho : w'.ownsRow W3.heap.size 36 21 v' n' x') (hg : w.grownBy w' v4.ownBlock) : XB W3 v3 n3 x3 v' n' x' w' :=
  ⟨own_far h.own3 h.own4 (by decide) hg, ho, own_bel h.own4 h.bel hg h.bel.size (Nat.le_refl _)⟩
theorem has_laid {w : World} {B : Nat} {x : NL} (h : Has w B 36 x.cs) : ∀ j u, x.l[j]? = some u → w.cell? ((⟨B, 0, none⟩ : Addr).add j) = some u := fun j u hu => by
  rw [Addr.add_mid, Nat.zero_add, h.cell, ← Array.getElem?_toList]
  exact hu

theorem step_build_nl {ops : Array Oper} {o : Oper} {a : Act} {w : World} {K : Act → World → Prop} {Q : Exit → Act → World → Prop} {E : Prop} (hgd : o.guard = none) (y : Operand) (hop : o.op = .buildSlice 38 1 #[(0, y)]) (x : NL) (hy : a.eval y = .agg x.cs)
    (h : K (a.put o.dst (.slice (some ⟨w.heap.size, 0, none⟩) 1 1)) (w.alloc (.cells x.cs 36))) :
    if Region.wanted o (yielded ops a.tmps) = true then Oper.wp Try.prog o a w K Q else E := by
  have hw : Region.wanted o (yielded ops a.tmps) = true := by simp [Region.wanted, hgd]
  rw [if_pos hw]
  obtain ⟨i0, hi, hz0, hz1, hz2⟩ := info_parts info_nlb
  have h21 : i0.size = 21 := hz1
  have e : (#[(0, y)].map fun (p : Nat × Operand) => (p.1, a.eval p.2)).toList = [(0, a.eval y)] := by simp
  have hf : Instr.fill (fun i => some (i * i0.size, i0.size)) ((Array.range (1 * i0.size)).map (nl0.v.cells[· % nl0.v.cells.size]!)) (#[(0, y)].map fun (p : Nat × Operand) => (p.1, a.eval p.2)).toList = some x.cs := by
    rw [h21, e, hy]
    exact fill_nl x
  unfold Oper.wp execOp
  simp only [hop, Sem.run_bind, run_buildSlice w 38 36 1 _ x.cs i0 nl0.v Try.underlying38 hi hz0 (by rw [h21]; decide) (by rw [h21]; decide) hf, Result.andThen_ok]
  exact h

theorem encs_le (L : List NL) : (encs L).length ≤ 42 * L.length := by
  induction L with
  | nil => simp [encs]
  | cons x L ih =>
    rw [encs_cons, List.length_append, enc_len, List.length_cons]
    have := NL.val_len x x.k.toNat
    omega

theorem encs_byte {L : List NL} (h : ∀ x ∈ L, x.ty ∧ chk x = 0) : ∀ v ∈ encs L, 0 ≤ v ∧ v ≤ 255 := by
  intro v hv
  simp only [encs, List.mem_flatten, List.mem_map] at hv
  obtain ⟨l, ⟨x, hx, rfl⟩, hv⟩ := hv
  exact enc_byte ((h x hx).1.ok (h x hx).2) (h x hx).2 v hv
theorem own_capm {W : World} {base k n c : Nat} {A : Option Addr} {xs : List Value} {e : TypeId} {size : Nat} (h : W.ownsRow base e size (.slice A n c) k xs) : c ≤ 9223372036854775807 := by
  rcases h.2 with ⟨h1, _⟩ | ⟨g, cap, cur, h1, _, _, h4, h5, h6, h7⟩
  · injection h1 with _ _ h3
    omega
  · injection h1 with _ _ h3
    simp only [maxLen] at *
    omega

theorem back_long (A : Option Addr) (n c : Nat) (h : 20 < n) (hb : n ≤ 9223372036854775807) (w : World) :
    Calls Try.prog 6 #[.slice A n c] w (Fin4 w) := by
  go_enter Try.func6, Try.ntmps6
  go_wp2_with fail
  refine (lives4 _).mono ?_
  rintro en w1 ⟨rfl, hb1⟩
  go_wp2_with fail
  go_ret
  exact ⟨rfl, hb1⟩

set_option maxHeartbeats 4000000 in
theorem back_any (A : Option Addr) (L : List NL) (c : Nat) (hm : L.length ≤ 20) (hc : L.length ≤ c) (hcm : c ≤ 9223372036854775807) (hty : ∀ x ∈ L, x.ty) (w : World) (hn : 0 < L.length → Nls w (.slice A L.length c) L) :
    Calls Try.prog 6 #[.slice A L.length c] w (Fin4 w) := by
  have HTy := Lib.hid hty
  have HN := Lib.hid hn
  clear hty hn
  go_enter Try.func6, Try.ntmps6
  go_wp2_with fail
  refine (lives4 _).mono ?_
  rintro en W3 ⟨rfl, hb1⟩
  have HN3 : Hid (0 < L.length → Nls W3 (.slice A L.length c) L) := Lib.hid (fun h => (HN.out h).below hb1)
  have HB3 := Lib.hid hb1
  clear hb1
  go_wp2_with fail
  go_loopw [3, 4, 5] (fun a s iv wr => ∃ (k : Nat) (M : List NL) (A3 : Option Addr) (c3 : Nat) (A4 : Option Addr) (c4 : Nat), k ≤ L.length ∧ M.length ≤ k ∧ a = .slice A3 (encs M).length c3 ∧ s = .slice A4 M.length c4 ∧ iv = .int .i64 k ∧ (∀ x ∈ M, x.ty ∧ chk x = 0) ∧ XB W3 (.slice A3 (encs M).length c3) (encs M).length (u8s (encs M)) (.slice A4 M.length c4) M.length (flatN M) wr) (fun _ _ iv _ => L.length - (intOf iv).toNat)
  case atStart => exact ⟨0, [], none, 0, none, 0, Nat.zero_le _, Nat.zero_le _, rfl, rfl, rfl, by simp, World.ownsRow_nil _ _ _ _, World.ownsRow_nil _ _ _ _, Below.refl _ _⟩
  case round =>
    obtain ⟨k, M, A3, c3, A4, c4, hk, hMk, rfl, rfl, rfl, hM, hXB⟩ := hrel
    have hMl := encs_le M
    have HM := Lib.hid hM
    have HXB := Lib.hid hXB
    obtain ⟨P, hP⟩ : ∃ P, (encs M).length = P := ⟨_, rfl⟩
    obtain ⟨m, hm0⟩ : ∃ m, M.length = m := ⟨_, rfl⟩
    have HP := Lib.hid (And.intro hP hm0)
    rw [hP] at hMl HXB ⊢
    rw [hm0] at hMl hMk HXB ⊢
    clear hM hXB hP hm0
    by_cases hlt : k < L.length
    · obtain ⟨b5, o5, c5', h5, hr5⟩ : ∃ b o c', (Value.slice A L.length c) = .slice (some ⟨b, o, none⟩) L.length c' ∧ W3.rangeAt b o (flatN L) := by
        rcases HN3.out (by omega) with ⟨_, h1⟩ | h1
        · rw [h1] at hlt; simp at hlt
        · exact h1
      injection h5 with h5 _ h6
      subst h5 h6
      have hx3 := range_at hr5 k hlt
      have hxt := HTy.out _ (List.getElem_mem hlt)
      obtain ⟨x, hx⟩ : ∃ x, L[k] = x := ⟨_, rfl⟩
      rw [hx] at hx3 hxt
      have HX := Lib.hid hx3
      have HXt := Lib.hid hxt
      have HXr := Lib.hid (range_below hx3 HXB.out.bel)
      clear hr5 hx hx3 hxt
      obtain ⟨ef, hef⟩ : ∃ ef, chk x = ef := ⟨_, rfl⟩
      have HEf := Lib.hid hef
      by_cases hz : ef = 0
      · have hcz : chk x = 0 := hef.trans hz
        have HCz := Lib.hid hcz
        have hkk := (chk_zero hcz).1
        have hvl := NL.val_len x x.k.toNat
        have hel := enc_len x
        obtain ⟨vl, hvle⟩ : ∃ vl, (x.val x.k.toNat).length = vl := ⟨_, rfl⟩
        rw [hvle] at hvl hel
        have HEn : Hid (enc x = [x.k, (vl : Int)] ++ x.val x.k.toNat) := Lib.hid (by rw [← hvle]; rfl)
        obtain ⟨kx, hkx⟩ : ∃ kx : Nat, x.k = kx := ⟨x.k.toNat, by omega⟩
        obtain ⟨E, hE⟩ : ∃ E, (enc x).length = E := ⟨_, rfl⟩
        have HEl := Lib.hid hE
        rw [hE] at hel
        have hel1 : E ≤ 2 + vl := by omega
        have hel2 : 2 + vl ≤ E := by omega
        have HKx := Lib.hid hkx
        rw [hkx] at hkk
        subst hz
        clear hef hcz hvle hE hkx hel
        obtain ⟨i0, hi0, hz0, hz1, hz2⟩ := info_parts info_u8
        obtain ⟨i1, hi1, hy0, hy1, hy2⟩ := info_parts info_nlb
        have hlt2 : (decide ((E : Int) < 2)) = false := by simp; omega
        have hwE : IntKind.i64.wrap ((E : Int) - 2) = (vl : Int) := by rw [IntWalk.i64_in _ (by omega)]; omega
        have hwk : IntKind.i64.wrap (kx : Int) = (kx : Int) := IntWalk.i64_in _ (by omega)
        have hwv : IntKind.i64.wrap (vl : Int) = (vl : Int) := IntWalk.i64_in _ (by omega)
        have hEl : 1 < E := by omega
        have hEl0 : 0 < E := by omega
        go_wp2_with (first
          | (refine wpList_load_mid rfl 36 (.tmp 24) rfl b5 (o5 + k * 21) rfl x.l _ HXr.out Try.underlying36 rfl (nl_fit_l x) ?_)
          | (refine wpList_load_mid rfl 36 (.tmp 32) rfl b5 (o5 + k * 21) rfl x.l _ HXs.out Try.underlying36 rfl (nl_fit_l x) ?_)
          | (go_at_call 10; refine (bytes_yes x HXt.out HCz.out _).mono ?_; rintro en w9 ⟨b9, c9, rfl, hrow9, hsz9, hb9⟩; have HX9 := Lib.hid (HXB.out.below hb9); have HR9 := Lib.hid hrow9; have HO9 : Hid (some b9 ≠ (Value.slice A3 P c3).ownBlock) := Lib.hid (fun e => by have := own_lt HXB.out.own3 _ e.symm; omega); have HXs := Lib.hid (range_below HX.out HX9.out.bel); rw [HEl.out]; clear hrow9 hsz9 hb9)
          | (go_at_call 15; refine (check_any x HXt.out.k _).mono ?_; rintro en w10 ⟨rfl, hb10⟩; rw [HCz.out]; have HX10 := Lib.hid (HX9.out.below hb10); have HR10 := Lib.hid (HR9.out.below hb10); clear hb10))
        have q0 : w10.cell? ⟨b9, 0, none⟩ = some (.int .u8 (kx : Int)) := by
          have h := HR10.out.cell 0 (by rw [HEl.out]; omega)
          simp only [HEn.out, List.cons_append, List.getElem_cons_zero, HKx.out] at h
          exact h
        have q1 : w10.cell? ⟨b9, 1, none⟩ = some (.int .u8 (vl : Int)) := by
          have h := HR10.out.cell 1 (by rw [HEl.out]; omega)
          simp only [HEn.out, List.cons_append, List.nil_append, List.getElem_cons_zero, List.getElem_cons_succ] at h
          exact h
        have q2 : w10.cell? ⟨b5, o5 + k * 21, none⟩ = some (.int .i64 (kx : Int)) := by
          have h := (range_below HX.out HX10.out.bel) 0 (.int .i64 x.k) rfl
          rw [HKx.out] at h
          exact h
        go_quiet (fail)
        have HXW : Hid (XB W3 (.slice A3 P c3) P (u8s (encs M)) (.slice A4 m c4) m (flatN M) (w10.drewN nq)) := Lib.hid (HX10.out.below ⟨rfl, rfl, rfl, Nat.le_refl _, fun _ _ => rfl⟩)
        have HRW : Hid (Row (w10.drewN nq) b9 c9 (enc x)) := Lib.hid (HR10.out.below ⟨rfl, rfl, rfl, Nat.le_refl _, fun _ _ => rfl⟩)
        clear q0 q1 q2 HX10 HR10 HX9 HR9 HXs HXr hwE hwk hwv hlt2
        obtain ⟨W, hW⟩ : ∃ W, w10.drewN nq = W := ⟨_, rfl⟩
        rw [hW] at HXW HRW ⊢
        clear hW
        go_wp2_with fail
        have HS0 : Hid (Below W3.heap.size W3 W.drew) := Lib.hid HXW.out.drew.bel
        refine wp_region_held_drew (S := fun w' => Below W3.heap.size W3 w') (by kernel_rfl) HS0.out (fun hHeld => ?_)
        refine wpAnyH_take (i := 0) (oi := { dst := some 72, op := Go.Op.move (Go.Operand.tmp 3), type := 23, pos := "law.go:95", after := #[], guard := none }) (v := ?_) rfl (by kernel_rfl) (by kernel_rfl) (by kernel_rfl) (fun _ _ _ h => h) (Or.inl ⟨by rfl, ?_⟩) (by assumption) ?_
        rotate_left
        · intro wS hSw
          clear hSw
          go_simp
          try with_reducible rfl
        try simp only [Act.put, List.setIfInBounds_toArray, List.set_cons_zero, List.set_cons_succ]
        refine wpAnyH_take (i := 1) (oi := { dst := some 73, op := Go.Op.move (Go.Operand.tmp 6), type := 23, pos := "law.go:95", after := #[], guard := none }) (v := ?_) rfl (by kernel_rfl) (by kernel_rfl) (by kernel_rfl) (fun _ _ _ h => h) (Or.inl ⟨by rfl, ?_⟩) (by assumption) ?_
        rotate_left
        · intro wS hSw
          clear hSw
          go_simp
          try with_reducible rfl
        try simp only [Act.put, List.setIfInBounds_toArray, List.set_cons_zero, List.set_cons_succ]
        refine wpAnyH_take (i := 3) (oi := { dst := some 75, op := Go.Op.move (Go.Operand.tmp 4), type := 38, pos := "law.go:95", after := #[], guard := none }) (v := ?_) rfl (by kernel_rfl) (by kernel_rfl) (by kernel_rfl) (fun _ _ _ h => h) (Or.inl ⟨by rfl, ?_⟩) (by assumption) ?_
        rotate_left
        · intro wS hSw
          clear hSw
          go_simp
          try with_reducible rfl
        try simp only [Act.put, List.setIfInBounds_toArray, List.set_cons_zero, List.set_cons_succ]
        refine wpAnyH_take (i := 4) (oi := { dst := some 76, op := Go.Op.move (Go.Operand.tmp 0), type := 38, pos := "law.go:95", after := #[], guard := none }) (v := ?_) rfl (by kernel_rfl) (by kernel_rfl) (by kernel_rfl) (fun _ _ _ h => h) (Or.inl ⟨by rfl, ?_⟩) (by assumption) ?_
        rotate_left
        · intro wS hSw
          clear hSw
          go_simp
          try with_reducible rfl
        try simp only [Act.put, List.setIfInBounds_toArray, List.set_cons_zero, List.set_cons_succ]
        refine wpAnyH_take (i := 5) (oi := { dst := some 77, op := Go.Op.move (Go.Operand.tmp 5), type := 3, pos := "law.go:95", after := #[], guard := none }) (v := ?_) rfl (by kernel_rfl) (by kernel_rfl) (by kernel_rfl) (fun _ _ _ h => h) (Or.inl ⟨by rfl, ?_⟩) (by assumption) ?_
        rotate_left
        · intro wS hSw
          clear hSw
          go_simp
          try with_reducible rfl
        try simp only [Act.put, List.setIfInBounds_toArray, List.set_cons_zero, List.set_cons_succ]
        refine wpAnyH_take (i := 6) (oi := { dst := some 78, op := Go.Op.indexAddr 38 (Go.Operand.tmp 76) (Go.Operand.tmp 77), type := 0, pos := "law.go:95", after := #[{ on := 4, ground := Go.Ground.data }, { on := 5, ground := Go.Ground.data }], guard := none }) (v := ?_) rfl (by kernel_rfl) (by kernel_rfl) (by kernel_rfl) (fun _ _ _ h => h) (Or.inl ⟨by rfl, ?_⟩) (by assumption) ?_
        rotate_left
        · intro wS hSw
          clear hSw
          go_simp
          try with_reducible rfl
        try simp only [Act.put, List.setIfInBounds_toArray, List.set_cons_zero, List.set_cons_succ]
        refine wpAnyH_take (i := 7) (oi := { dst := some 79, op := Go.Op.load 36 (Go.Operand.tmp 78), type := 36, pos := "law.go:95", after := #[{ on := 6, ground := Go.Ground.data }], guard := none }) (v := .agg x.cs) rfl (by kernel_rfl) (by kernel_rfl) (by kernel_rfl) (fun _ _ _ h => h) (yieldsIf_load_mid (by rfl) 36 (.tmp 78) rfl b5 (o5 + k * 21) rfl x.l _ (fun _ h => range_below HX.out h) Try.underlying36 rfl (nl_fit_l x)) (by assumption) ?_
        try simp only [Act.put, List.setIfInBounds_toArray, List.set_cons_zero, List.set_cons_succ]
        refine wpAnyH_ready (rs := [2, 8]) (by kernel_rfl) (by simp) ?_
        have HZ0 : Hid (XB W3 (.slice A3 P c3) P (u8s (encs M)) (.slice A4 m c4) m (flatN M) W.drew) := Lib.hid HXW.out.drew
        have HN0 : Hid (Row W.drew b9 c9 (enc x)) := Lib.hid (HRW.out.below (Below.refl _ W).drew)
        have hfit : m + 1 ≤ L.length := by omega
        have HNx : Hid ((encs (M ++ [x])).length = P + E ∧ (M ++ [x]).length = m + 1 ∧ u8s (encs (M ++ [x])) = u8s (encs M) ++ u8s (enc x) ∧ flatN (M ++ [x]) = flatN M ++ x.l) := Lib.hid ⟨by rw [encs_snoc, List.length_append, HP.out.1, HEl.out], by simp [HP.out.2], by rw [encs_snoc]; simp [u8s], by rw [flatN_app]; simp [flatN]⟩
        refine AllReadyH.cons rfl (fun K hK => ?_) (AllReadyH.cons rfl (fun K hK => ?_) AllReadyH.nil)
        · refine step_append_lies _ rfl (.tmp 72) (.tmp 73) 23 rfl W3.heap.size 5 i0 (.int .u8 0) 1 1 Try.underlying23 hi0 hz0 hz1 hz2 rfl (by decide) (.slice A3 P c3) P (u8s (encs M)) rfl HZ0.out.own3 ⟨b9, 0, none⟩ E c9 (u8s (enc x)) rfl (by simp [HEl.out]) (Sl.at_ HN0.out.all) (u8s_one _) (by omega) (by unfold maxLen; omega) (by omega) HZ0.out.bel.size _ rfl ?_
          intro g3 d3 w3 hown3 hgrow3 hor3 hlt3
          have HZ1 : Hid (XB W3 (.slice (some ⟨g3, 0, none⟩) (P + E) d3) (P + E) (u8s (encs M) ++ u8s (enc x)) (.slice A4 m c4) m (flatN M) w3) := Lib.hid (HZ0.out.app3 hown3 hgrow3)
          refine hK.out _ _ (HZ1.out.bel) (fun hHeld => ?_)
          clear hK K
          try simp only [Act.put, List.setIfInBounds_toArray, List.set_cons_zero, List.set_cons_succ]
          refine wpAnyH_ready (rs := [8]) (by kernel_rfl) (by simp) ?_
          refine AllReadyH.cons rfl (fun K hK => ?_) AllReadyH.nil
          refine step_build_nl rfl (.tmp 79) rfl x rfl ?_
          have HZ2 := Lib.hid (HZ1.out.alloc (.cells x.cs 36))
          have HLd : Hid (Has (w3.alloc (.cells x.cs 36)) w3.heap.size 36 x.cs) := Lib.hid (Has.new _ _ _)
          refine hK.out _ _ (HZ2.out.bel) (fun hHeld => ?_)
          clear hK K
          try simp only [Act.put, List.setIfInBounds_toArray, List.set_cons_zero, List.set_cons_succ]
          refine wpAnyH_ready (rs := [9]) (by kernel_rfl) (by simp) ?_
          refine AllReadyH.cons rfl (fun K hK => ?_) AllReadyH.nil
          refine step_append_lies _ rfl (.tmp 75) (.tmp 80) 38 rfl W3.heap.size 36 i1 nl0.v 21 80 Try.underlying38 hi1 hy0 hy1 hy2 rfl (by decide) (.slice A4 m c4) m (flatN M) rfl HZ2.out.own4 ⟨w3.heap.size, 0, none⟩ 1 1 x.l rfl rfl (has_laid HLd.out) x.l_one (by omega) (by unfold maxLen; omega) (by omega) HZ2.out.bel.size _ rfl ?_
          intro g4 d4 w4 hown4 hgrow4 hor4 hlt4
          have HZ3 := Lib.hid (HZ2.out.app4 hown4 hgrow4)
          refine hK.out _ _ (HZ3.out.bel) (fun hHeld => ?_)
          clear hK K
          try simp only [Act.put, List.setIfInBounds_toArray, List.set_cons_zero, List.set_cons_succ]
          refine wpAnyH_take (i := 10) (oi := { dst := some 3, op := Go.Op.assign (Go.Operand.tmp 74), type := 23, pos := "law.go:95", after := #[{ on := 2, ground := Go.Ground.data }, { on := 9, ground := Go.Ground.chain }, { on := 0, ground := Go.Ground.phase }, { on := 1, ground := Go.Ground.phase }, { on := 2, ground := Go.Ground.phase }, { on := 3, ground := Go.Ground.textOnly Go.Departure.lateStores }, { on := 4, ground := Go.Ground.textOnly Go.Departure.lateStores }, { on := 5, ground := Go.Ground.textOnly Go.Departure.lateStores }, { on := 6, ground := Go.Ground.textOnly Go.Departure.lateStores }, { on := 7, ground := Go.Ground.textOnly Go.Departure.lateStores }, { on := 8, ground := Go.Ground.textOnly Go.Departure.lateStores }, { on := 9, ground := Go.Ground.textOnly Go.Departure.lateStoresUnsure }], guard := none }) (v := ?_) rfl (by kernel_rfl) (by kernel_rfl) (by kernel_rfl) (fun _ _ _ h => h) (Or.inl ⟨by rfl, ?_⟩) (by assumption) ?_
          rotate_left
          · intro wS hSw
            clear hSw
            go_simp
            try with_reducible rfl
          try simp only [Act.put, List.setIfInBounds_toArray, List.set_cons_zero, List.set_cons_succ]
          refine wpAnyH_take (i := 11) (oi := { dst := some 4, op := Go.Op.assign (Go.Operand.tmp 81), type := 38, pos := "law.go:95", after := #[{ on := 9, ground := Go.Ground.data }, { on := 10, ground := Go.Ground.chain }, { on := 0, ground := Go.Ground.phase }, { on := 1, ground := Go.Ground.phase }, { on := 2, ground := Go.Ground.phase }, { on := 3, ground := Go.Ground.phase }, { on := 4, ground := Go.Ground.phase }, { on := 5, ground := Go.Ground.phase }, { on := 6, ground := Go.Ground.phase }, { on := 7, ground := Go.Ground.phase }, { on := 8, ground := Go.Ground.phase }, { on := 9, ground := Go.Ground.phase }, { on := 10, ground := Go.Ground.phase }], guard := none }) (v := ?_) rfl (by kernel_rfl) (by kernel_rfl) (by kernel_rfl) (fun _ _ _ h => h) (Or.inl ⟨by rfl, ?_⟩) (by assumption) ?_
          rotate_left
          · intro wS hSw
            clear hSw
            go_simp
            try with_reducible rfl
          try simp only [Act.put, List.setIfInBounds_toArray, List.set_cons_zero, List.set_cons_succ]
          refine wpAnyH_done (by kernel_rfl) ?_ _
          go_wp2_with fail
          go_roundw
          case rel =>
            refine ⟨k + 1, M ++ [x], _, _, _, _, by omega, by rw [HNx.out.2.1]; omega, by rw [HNx.out.1], by rw [HNx.out.2.1], by go_num, ?_, ?_⟩
            · intro z hz
              rcases List.mem_append.1 hz with hz | hz
              · exact HM.out z hz
              · rw [List.mem_singleton.1 hz]; exact ⟨HXt.out, HCz.out⟩
            · have h := HZ3.out
              rw [← HNx.out.2.2.1, ← HNx.out.2.2.2, ← HNx.out.1, ← HNx.out.2.1] at h
              exact h
          case measure => simp [intOf]; omega
        · refine step_build_nl rfl (.tmp 79) rfl x rfl ?_
          have HZ1 := Lib.hid (HZ0.out.alloc (.cells x.cs 36))
          have HLd : Hid (Has (W.drew.alloc (.cells x.cs 36)) W.drew.heap.size 36 x.cs) := Lib.hid (Has.new _ _ _)
          have HN1 : Hid (Row (W.drew.alloc (.cells x.cs 36)) b9 c9 (enc x)) := Lib.hid (HN0.out.below ((Below.refl _ W.drew).alloc (Nat.le_refl _) _))
          refine hK.out _ _ (HZ1.out.bel) (fun hHeld => ?_)
          clear hK K
          try simp only [Act.put, List.setIfInBounds_toArray, List.set_cons_zero, List.set_cons_succ]
          refine wpAnyH_ready (rs := [2]) (by kernel_rfl) (by simp) ?_
          refine AllReadyH.cons rfl (fun K hK => ?_) AllReadyH.nil
          refine step_append_lies _ rfl (.tmp 72) (.tmp 73) 23 rfl W3.heap.size 5 i0 (.int .u8 0) 1 1 Try.underlying23 hi0 hz0 hz1 hz2 rfl (by decide) (.slice A3 P c3) P (u8s (encs M)) rfl HZ1.out.own3 ⟨b9, 0, none⟩ E c9 (u8s (enc x)) rfl (by simp [HEl.out]) (Sl.at_ HN1.out.all) (u8s_one _) (by omega) (by unfold maxLen; omega) (by omega) HZ1.out.bel.size _ rfl ?_
          intro g3 d3 w3 hown3 hgrow3 hor3 hlt3
          have HZ2 : Hid (XB W3 (.slice (some ⟨g3, 0, none⟩) (P + E) d3) (P + E) (u8s (encs M) ++ u8s (enc x)) (.slice A4 m c4) m (flatN M) w3) := Lib.hid (HZ1.out.app3 hown3 hgrow3)
          have HLe : Hid (Has w3 W.drew.heap.size 36 x.cs) := Lib.hid (HLd.out.grown hgrow3 (HLd.out.not_own (by decide) HZ1.out.own3))
          refine hK.out _ _ (HZ2.out.bel) (fun hHeld => ?_)
          clear hK K
          try simp only [Act.put, List.setIfInBounds_toArray, List.set_cons_zero, List.set_cons_succ]
          refine wpAnyH_ready (rs := [9]) (by kernel_rfl) (by simp) ?_
          refine AllReadyH.cons rfl (fun K hK => ?_) AllReadyH.nil
          refine step_append_lies _ rfl (.tmp 75) (.tmp 80) 38 rfl W3.heap.size 36 i1 nl0.v 21 80 Try.underlying38 hi1 hy0 hy1 hy2 rfl (by decide) (.slice A4 m c4) m (flatN M) rfl HZ2.out.own4 ⟨W.drew.heap.size, 0, none⟩ 1 1 x.l rfl rfl (has_laid HLe.out) x.l_one (by omega) (by unfold maxLen; omega) (by omega) HZ2.out.bel.size _ rfl ?_
          intro g4 d4 w4 hown4 hgrow4 hor4 hlt4
          have HZ3 := Lib.hid (HZ2.out.app4 hown4 hgrow4)
          refine hK.out _ _ (HZ3.out.bel) (fun hHeld => ?_)
          clear hK K
          try simp only [Act.put, List.setIfInBounds_toArray, List.set_cons_zero, List.set_cons_succ]
          refine wpAnyH_take (i := 10) (oi := { dst := some 3, op := Go.Op.assign (Go.Operand.tmp 74), type := 23, pos := "law.go:95", after := #[{ on := 2, ground := Go.Ground.data }, { on := 9, ground := Go.Ground.chain }, { on := 0, ground := Go.Ground.phase }, { on := 1, ground := Go.Ground.phase }, { on := 2, ground := Go.Ground.phase }, { on := 3, ground := Go.Ground.textOnly Go.Departure.lateStores }, { on := 4, ground := Go.Ground.textOnly Go.Departure.lateStores }, { on := 5, ground := Go.Ground.textOnly Go.Departure.lateStores }, { on := 6, ground := Go.Ground.textOnly Go.Departure.lateStores }, { on := 7, ground := Go.Ground.textOnly Go.Departure.lateStores }, { on := 8, ground := Go.Ground.textOnly Go.Departure.lateStores }, { on := 9, ground := Go.Ground.textOnly Go.Departure.lateStoresUnsure }], guard := none }) (v := ?_) rfl (by kernel_rfl) (by kernel_rfl) (by kernel_rfl) (fun _ _ _ h => h) (Or.inl ⟨by rfl, ?_⟩) (by assumption) ?_
          rotate_left
          · intro wS hSw
            clear hSw
            go_simp
            try with_reducible rfl
          try simp only [Act.put, List.setIfInBounds_toArray, List.set_cons_zero, List.set_cons_succ]
          refine wpAnyH_take (i := 11) (oi := { dst := some 4, op := Go.Op.assign (Go.Operand.tmp 81), type := 38, pos := "law.go:95", after := #[{ on := 9, ground := Go.Ground.data }, { on := 10, ground := Go.Ground.chain }, { on := 0, ground := Go.Ground.phase }, { on := 1, ground := Go.Ground.phase }, { on := 2, ground := Go.Ground.phase }, { on := 3, ground := Go.Ground.phase }, { on := 4, ground := Go.Ground.phase }, { on := 5, ground := Go.Ground.phase }, { on := 6, ground := Go.Ground.phase }, { on := 7, ground := Go.Ground.phase }, { on := 8, ground := Go.Ground.phase }, { on := 9, ground := Go.Ground.phase }, { on := 10, ground := Go.Ground.phase }], guard := none }) (v := ?_) rfl (by kernel_rfl) (by kernel_rfl) (by kernel_rfl) (fun _ _ _ h => h) (Or.inl ⟨by rfl, ?_⟩) (by assumption) ?_
          rotate_left
          · intro wS hSw
            clear hSw
            go_simp
            try with_reducible rfl
          try simp only [Act.put, List.setIfInBounds_toArray, List.set_cons_zero, List.set_cons_succ]
          refine wpAnyH_done (by kernel_rfl) ?_ _
          go_wp2_with fail
          go_roundw
          case rel =>
            refine ⟨k + 1, M ++ [x], _, _, _, _, by omega, by rw [HNx.out.2.1]; omega, by rw [HNx.out.1], by rw [HNx.out.2.1], by go_num, ?_, ?_⟩
            · intro z hz
              rcases List.mem_append.1 hz with hz | hz
              · exact HM.out z hz
              · rw [List.mem_singleton.1 hz]; exact ⟨HXt.out, HCz.out⟩
            · have h := HZ3.out
              rw [← HNx.out.2.2.1, ← HNx.out.2.2.2, ← HNx.out.1, ← HNx.out.2.1] at h
              exact h
          case measure => simp [intOf]; omega
      · have hcn : chk x ≠ 0 := fun h => hz (hef.symm.trans h)
        have HCn := Lib.hid hcn
        have hzb : (ef != 0) = true := by simpa using hz
        clear hef hcn hz
        go_wp2_with (first
          | (refine wpList_load_mid rfl 36 (.tmp 24) rfl b5 (o5 + k * 21) rfl x.l _ HXr.out Try.underlying36 rfl (nl_fit_l x) ?_)
          | (refine wpList_load_mid rfl 36 (.tmp 32) rfl b5 (o5 + k * 21) rfl x.l _ HXs.out Try.underlying36 rfl (nl_fit_l x) ?_)
          | (go_at_call 10; refine (bytes_no x HXt.out HCn.out _).mono ?_; rintro en w9 ⟨rfl, hb9⟩; rw [HEf.out]; have HX9 := Lib.hid (HXB.out.below hb9); have HXs := Lib.hid (range_below HX.out HX9.out.bel); clear hb9)
          | (go_at_call 15; refine (check_any x HXt.out.k _).mono ?_; rintro en w10 ⟨rfl, hb10⟩; rw [HEf.out]; have HX10 := Lib.hid (HX9.out.below hb10); clear hb10))
        go_roundw
        case rel => exact ⟨k + 1, M, A3, c3, A4, c4, by omega, by rw [HP.out.2]; omega, by rw [HP.out.1], by rw [HP.out.2], by go_num, HM.out, by rw [HP.out.1, HP.out.2]; exact HX10.out⟩
        case measure => simp [intOf]; omega
    · have hke : k = L.length := by omega
      have HBy : Hid (∀ v ∈ encs M, 0 ≤ v ∧ v ≤ 255) := Lib.hid (encs_byte HM.out)
      have hrd := readP_encs HM.out
      have HRd := Lib.hid hrd
      have HAll : Hid (Arr wr (.slice A3 P c3) (encs M)) := Lib.hid (by
        rcases HXB.out.own3.2 with ⟨h1, h2⟩ | ⟨g, cap, cur, h1, h2, h3, h4, h5, h6, h7⟩
        · rw [h1]
          exact .inl ⟨rfl, List.eq_nil_of_length_eq_zero (by rw [HP.out.1]; exact h2)⟩
        · rw [h1, ← HP.out.1]
          refine .inr ⟨_, cap, rfl, fun j u hu => ?_⟩
          have hh : Has wr g 5 cur := h3
          rw [Addr.add_mid, Nat.zero_add, hh.cell j, ← Array.getElem?_toList]
          rw [← h7, List.getElem?_take] at hu
          split at hu
          · exact hu
          · cases hu)
      have hcap := own_cap HXB.out.own3
      have hcm3 := own_capm HXB.out.own3
      have HC := Lib.hid (show ∃ A0 n0 c0, (Value.slice A3 P c3) = .slice A0 n0 c0 ∧ n0 ≤ c0 ∧ c0 ≤ 9223372036854775807 from ⟨A3, P, c3, rfl, hcap, hcm3⟩)
      have hlt9 : (encs M).length ≤ 4000 := by rw [HP.out.1]; omega
      have HWn : Hid (Nls wr (.slice A4 m c4) M) := Lib.hid (own_nls (by have h := HXB.out.own4; rw [← HP.out.2] at h ⊢; exact h))
      have HBw : Hid (Below w.heap.size w wr) := Lib.hid (HB3.out.trans (HXB.out.bel.mono HB3.out.size))
      clear hcap hcm3 hrd
      go_wp2_with fail
      refine (read_arr (.slice A3 P c3) (encs M) wr HAll.out HC.out hlt9 HBy.out).mono ?_
      rintro en w9 ⟨v13, rfl, hown13, hb9⟩
      rw [HRd.out] at hown13 ⊢
      have hn13 := own_nls hown13
      rw [HP.out.2] at hown13
      obtain ⟨A13, c13, rfl⟩ := own_form hown13
      have HB9 : Hid (Below w.heap.size w w9) := Lib.hid (HBw.out.trans (hb9.mono HBw.out.size))
      have HY9 : Hid (Nls w9 (.slice A13 m c13) M ∧ Nls w9 (.slice A4 m c4) M) := Lib.hid ⟨hn13, HWn.out.below hb9⟩
      have heq := eql_ft 0 0 0 0
      simp only [beq_self_eq_true, Bool.and_self] at heq
      clear hown13 hb9 hn13 hlt9
      go_wp2_with fail
      refine (same_nl _ _ M _ (HY9.out.1.below ((Below.refl _ w9).alloc (Nat.le_refl _) _)) (HY9.out.2.below ((Below.refl _ w9).alloc (Nat.le_refl _) _)) (by rw [HP.out.2]; omega)).mono ?_
      rintro en w10 ⟨rfl, q, rfl⟩
      go_wp2_with fail
      go_ret
      exact ⟨rfl, below_drewN (HB9.out.alloc HB9.out.size _) q⟩

end Go.Proofs.Ytjachhgcoioohaa
