/- Routes: Check. -/
import Derived.Test.YthhajknmokomjaaZNlC
import Derived.Test.YthhajknmokomjaaZNlE
import Derived.Deep.RegionHeld3
import Derived.Deep.DeepCutAuto
import Derived.Deep.CutBlock
import Derived.Shelf.Abstract
namespace Go.Proofs.Ythhajknmokomjaa
open Go.RowKit Go.Maps Go.Shelf
set_option linter.unusedVariables false
set_option maxRecDepth 100000

theorem meth_shape (k : Nat) (h1 : 1 ≤ k) (h5 : k ≤ 5) (n : Nat) (w : World) : (method (n + 1) (tk k) (.agg #[]) "leafmesh/nlri.shape").run Try.prog w = .ok (fsh k, .agg #[]) w := by
  have q1 : (method (n + 1) (tk 1) (.agg #[]) "leafmesh/nlri.shape").run Try.prog w = .ok (fsh 1, .agg #[]) w := by kernel_rfl
  have q2 : (method (n + 1) (tk 2) (.agg #[]) "leafmesh/nlri.shape").run Try.prog w = .ok (fsh 2, .agg #[]) w := by kernel_rfl
  have q3 : (method (n + 1) (tk 3) (.agg #[]) "leafmesh/nlri.shape").run Try.prog w = .ok (fsh 3, .agg #[]) w := by kernel_rfl
  have q4 : (method (n + 1) (tk 4) (.agg #[]) "leafmesh/nlri.shape").run Try.prog w = .ok (fsh 4, .agg #[]) w := by kernel_rfl
  have q5 : (method (n + 1) (tk 5) (.agg #[]) "leafmesh/nlri.shape").run Try.prog w = .ok (fsh 5, .agg #[]) w := by kernel_rfl
  have h : k = 1 ∨ k = 2 ∨ k = 3 ∨ k = 4 ∨ k = 5 := by omega
  rcases h with rfl | rfl | rfl | rfl | rfl
  · exact q1
  · exact q2
  · exact q3
  · exact q4
  · exact q5
theorem call_shape (k : Nat) (h1 : 1 ≤ k) (h5 : k ≤ 5) (args : Array Value) (w : World) : (callFunc (fsh k) args).run Try.prog w = .ok (.enter (fsh k) args) w := by
  have q1 : (callFunc (fsh 1) args).run Try.prog w = .ok (.enter (fsh 1) args) w := by kernel_rfl
  have q2 : (callFunc (fsh 2) args).run Try.prog w = .ok (.enter (fsh 2) args) w := by kernel_rfl
  have q3 : (callFunc (fsh 3) args).run Try.prog w = .ok (.enter (fsh 3) args) w := by kernel_rfl
  have q4 : (callFunc (fsh 4) args).run Try.prog w = .ok (.enter (fsh 4) args) w := by kernel_rfl
  have q5 : (callFunc (fsh 5) args).run Try.prog w = .ok (.enter (fsh 5) args) w := by kernel_rfl
  have h : k = 1 ∨ k = 2 ∨ k = 3 ∨ k = 4 ∨ k = 5 := by omega
  rcases h with rfl | rfl | rfl | rfl | rfl
  · exact q1
  · exact q2
  · exact q3
  · exact q4
  · exact q5

/-- The numbers that are too great. -/
def NL.far (x : NL) : Bool := decide (281474976710655 < x.mac) || decide (16777215 < x.l1) || decide (16777215 < x.l2) || !vld x.pl
/-- What Check answers. -/
def chk (x : NL) : Int :=
  if x.k < 1 ∨ 5 < x.k then 6 else if x.same (x.sh x.k.toNat) = false then 3 else if x.far then 2 else if (cl x.pip x.pl == x.pip) = false then 3 else 0

theorem chk_no {x : NL} (h : x.k < 1 ∨ 5 < x.k) : chk x = 6 := by unfold chk; rw [if_pos h]
theorem chk_form {x : NL} {k : Nat} (hk : x.k = k) (h1 : 1 ≤ k) (h5 : k ≤ 5) (h : x.same (x.sh k) = false) : chk x = 3 := by
  unfold chk; rw [if_neg (by omega), show x.k.toNat = k by omega, if_pos h]
theorem chk_rest {x : NL} {k : Nat} (hk : x.k = k) (h1 : 1 ≤ k) (h5 : k ≤ 5) (h : x.same (x.sh k) = true) : chk x = if x.far then 2 else if (cl x.pip x.pl == x.pip) = false then 3 else 0 := by
  unfold chk; rw [if_neg (by omega), show x.k.toNat = k by omega, if_neg (by simp [h])]

theorem check_no (x : NL) (h : x.k < 1 ∨ 5 < x.k) (hwf : (Lit.int .i64 x.k).wf = true) (w : World) :
    Calls Try.prog 10 #[x.v] w fun e w' => e = .returned (.int .i64 (chk x)) ∧ Below w.heap.size w w' := by
  rw [NL.v_eq, chk_no h]
  obtain ⟨k, hk⟩ : ∃ k, x.k = k := ⟨_, rfl⟩
  have hbox := Has.new w 31 x.cs
  have hc0 := hbox.n0
  rw [hk] at hc0 h hwf
  have HS : Hid (∀ w' : World, Has w' w.heap.size 31 x.cs → (w'.cell? ⟨w.heap.size, 0, none⟩ = some (.int .i64 k) ∧ Has w' w.heap.size 31 x.cs)) := Lib.hid (fun w' h' => ⟨hk ▸ h'.n0, h'⟩)
  have HB : Hid (Has (w.alloc (.cells x.cs 31)).drew w.heap.size 31 x.cs) := Lib.hid hbox
  have HB0 : Hid (Below w.heap.size w (w.alloc (.cells x.cs 31)).drew) := Lib.hid ((Below.refl _ w).alloc (Nat.le_refl _) _).drew
  have HK := Lib.hid (And.intro h hwf)
  clear hbox hc0 hk h hwf
  go_enter Try.func10, Try.ntmps10
  go_wp2_with fail
  go_region_held3 (fun w' => w'.cell? ⟨w.heap.size, 0, none⟩ = some (.int .i64 k) ∧ Has w' w.heap.size 31 x.cs)
    (first | exact HS.out _ HB.out | exact HS.out _ (HB.out.below hb2))
    (first
      | (go_at_call 23; refine (codings_any _).mono ?_; rintro e w2 ⟨b, rfl, hm, hb2⟩; have hl := look_no w2 b 5 hm k HK.out.1 HK.out.2))
  go_wp2_with fail
  go_ret
  exact ⟨rfl, HB0.out.trans (hb2.mono HB0.out.size)⟩

set_option maxHeartbeats 2000000 in
theorem check_yes (x : NL) (k : Nat) (hk : x.k = k) (h1 : 1 ≤ k) (h5 : k ≤ 5) (w : World) :
    Calls Try.prog 10 #[x.v] w fun e w' => e = .returned (.int .i64 (chk x)) ∧ Below w.heap.size w w' := by
  rw [NL.v_eq]
  have hbox := Has.new w 31 x.cs
  have hc0 := hbox.n0
  rw [hk] at hc0
  have HS : Hid (∀ w' : World, Has w' w.heap.size 31 x.cs → (w'.cell? ⟨w.heap.size, 0, none⟩ = some (.int .i64 (k : Int)) ∧ Has w' w.heap.size 31 x.cs)) := Lib.hid (fun w' h' => ⟨hk ▸ h'.n0, h'⟩)
  have HB : Hid (Has (w.alloc (.cells x.cs 31)).drew w.heap.size 31 x.cs) := Lib.hid hbox
  have HB0 : Hid (Below w.heap.size w (w.alloc (.cells x.cs 31)).drew) := Lib.hid ((Below.refl _ w).alloc (Nat.le_refl _) _).drew
  have HK := Lib.hid hk
  clear hbox hc0 hk
  go_enter Try.func10, Try.ntmps10
  go_wp2_with fail
  go_region_held3 (fun w' => w'.cell? ⟨w.heap.size, 0, none⟩ = some (.int .i64 (k : Int)) ∧ Has w' w.heap.size 31 x.cs)
    (first | exact HS.out _ HB.out | exact HS.out _ (HB.out.below hb2))
    (first
      | (go_at_call 23; refine (codings_any _).mono ?_; rintro e w2 ⟨b, rfl, hm, hb2⟩; have hl := look_yes w2 b 5 hm k h1 h5 true; simp only [if_true] at hl))
  have HB2 := Lib.hid (HB.out.below hb2)
  have HBel2 : Hid (Below w.heap.size w w2) := Lib.hid (HB0.out.trans (hb2.mono HB0.out.size))
  clear hm hb2 hl HB HB0
  have c16 := HB2.out.n16
  have c17 := HB2.out.n17
  have hlt2 := HB2.out.lt
  obtain ⟨q, er, hcl, hqe⟩ : ∃ (q : Value) (er : Int), (∀ W, Calls Try.prog 28 #[pfx x.pip x.pl] W fun e w' => e = .returned (.tuple #[q, .int .i64 er]) ∧ G W w') ∧ ((vld x.pl = true ∧ q = pfx (cl x.pip x.pl) x.pl ∧ er = 0) ∨ (vld x.pl = false ∧ q = pfx 0 0 ∧ er = 2)) := by
    by_cases hv : vld x.pl = true
    · exact ⟨_, _, fun W => clean_yes x.pip x.pl hv W, .inl ⟨hv, rfl, rfl⟩⟩
    · have hv : vld x.pl = false := by simpa using hv
      exact ⟨_, _, fun W => clean_no x.pip x.pl hv W, .inr ⟨hv, rfl, rfl⟩⟩
  obtain ⟨qp, ql, rfl⟩ : ∃ qp ql, q = pfx qp ql := by
    rcases hqe with ⟨_, h, _⟩ | ⟨_, h, _⟩
    · exact ⟨_, _, h⟩
    · exact ⟨_, _, h⟩
  have HC := Lib.hid hcl
  have HQ := Lib.hid hqe
  clear hcl hqe
  go_upto_block 0 with (go_at_call 28; refine (HC.out _).mono ?_; rintro e w3 ⟨rfl, hg3⟩; have HB3 := Lib.hid (HB2.out.below hg3.below); have HG3 : Hid (Below w.heap.size w w3) := Lib.hid (HBel2.out.trans (hg3.below.mono HBel2.out.size)); clear hg3)
  have hlt3 := HB3.out.lt
  have HB4 : Hid (Has (w3.alloc (.cells #[.int .u32 qp, .int .i64 ql] 29)) w.heap.size 31 x.cs) := Lib.hid (HB3.out.below ((Below.refl _ w3).alloc (Nat.le_refl _) _))
  have HP4 : Hid (Has (w3.alloc (.cells #[.int .u32 qp, .int .i64 ql] 29)) w3.heap.size 29 #[.int .u32 qp, .int .i64 ql]) := Lib.hid (Has.new _ _ _)
  have HG4 : Hid (Below w.heap.size w (w3.alloc (.cells #[.int .u32 qp, .int .i64 ql] 29))) := Lib.hid (HG3.out.alloc HG3.out.size _)
  generalize hW4 : w3.alloc (.cells #[.int .u32 qp, .int .i64 ql] 29) = W4 at *
  clear hW4 HB2 HBel2 HB3 HG3 c16 c17 HC
  obtain ⟨bs, hbs⟩ : ∃ b, x.same (x.sh k) = b := ⟨_, rfl⟩
  have hneq := neq_nl x (x.sh k)
  rw [hbs] at hneq
  have HBs := Lib.hid hbs
  have hme := meth_shape k h1 h5
  have hcf := call_shape k h1 h5
  have HS5 : Hid (Has W4.drew w.heap.size 31 x.cs ∧ Below W4.heap.size W4 W4.drew) := Lib.hid ⟨HB4.out, (Below.refl _ W4).drew⟩
  clear hbs
  go_wp2_with fail
  refine wp_region_held_drew (S := (fun w' => Has w' w.heap.size 31 x.cs ∧ Below W4.heap.size W4 w')) (by kernel_rfl) HS5.out (fun hHeld => ?_)
  refine wpAnyH_take (i := 0) (oi := { dst := some 23, op := Go.Op.load 31 (Go.Operand.tmp 1), type := 31, pos := "nlri.go:35", after := #[], guard := none }) (v := .agg x.cs) rfl (by kernel_rfl) (by kernel_rfl) (by kernel_rfl) (fun _ _ _ h => h) (yields_nl (by rfl) (.tmp 1) rfl (w.heap.size) rfl x (fun _ h => ⟨_, h.1⟩)) (by assumption) ?_
  try simp only [Act.put, List.setIfInBounds_toArray, List.set_cons_zero, List.set_cons_succ]
  refine wpAnyH_take (i := 1) (oi := { dst := some 24, op := Go.Op.move (Go.Operand.tmp 3), type := 57, pos := "nlri.go:35", after := #[], guard := none }) (v := ?_) rfl (by kernel_rfl) (by kernel_rfl) (by kernel_rfl) (fun _ _ _ h => h) (Or.inl ⟨by rfl, ?_⟩) (by assumption) ?_
  rotate_left
  · intro wS hSw
    try dsimp only at hSw
    go_split_ands
    go_simp
    try with_reducible rfl
  try simp only [Act.put, List.setIfInBounds_toArray, List.set_cons_zero, List.set_cons_succ]
  refine wpAnyH_take (i := 2) (oi := { dst := some 25, op := Go.Op.load 31 (Go.Operand.tmp 1), type := 31, pos := "nlri.go:35", after := #[], guard := none }) (v := .agg x.cs) rfl (by kernel_rfl) (by kernel_rfl) (by kernel_rfl) (fun _ _ _ h => h) (yields_nl (by rfl) (.tmp 1) rfl (w.heap.size) rfl x (fun _ h => ⟨_, h.1⟩)) (by assumption) ?_
  try simp only [Act.put, List.setIfInBounds_toArray, List.set_cons_zero, List.set_cons_succ]
  refine wpAnyH_ready (rs := [3]) (by kernel_rfl) (by simp) ?_
  refine AllReadyH.cons (o := { dst := some 26, op := Go.Op.call { callee := Go.Callee.invoke (Go.Operand.tmp 24) "leafmesh/nlri.shape", args := #[Go.Operand.tmp 25], argTypes := #[31] }, type := 31, pos := "nlri.go:35", after := #[{ on := 1, ground := Go.Ground.data }, { on := 2, ground := Go.Ground.data }], guard := none }) rfl (fun K hK => ?_) AllReadyH.nil
  go_simp
  go_at_fn (fsh k)
  refine (shape_any k h1 h5 x _).mono ?_
  rintro e w5 ⟨rfl, hb5⟩
  refine hK.out _ _ ?_ (fun hHeld => ?_)
  · exact ⟨Has.below (w := W4.drew) HB4.out hb5, (Below.refl _ W4).drew.trans hb5⟩
  clear hK K
  try simp only [Act.put, List.setIfInBounds_toArray, List.set_cons_zero, List.set_cons_succ]
  refine wpAnyH_take (i := 4) (oi := { dst := some 27, op := Go.Op.binOp Go.BinOp.neq 31 (Go.Operand.tmp 23) (Go.Operand.tmp 26) 31, type := 4, pos := "nlri.go:35", after := #[{ on := 0, ground := Go.Ground.data }, { on := 3, ground := Go.Ground.data }], guard := none }) (v := ?_) rfl (by kernel_rfl) (by kernel_rfl) (by kernel_rfl) (fun _ _ _ h => h) (Or.inl ⟨by rfl, ?_⟩) (by assumption) ?_
  rotate_left
  · intro wS hSw
    try dsimp only at hSw
    go_split_ands
    go_simp
    try with_reducible rfl
  try simp only [Act.put, List.setIfInBounds_toArray, List.set_cons_zero, List.set_cons_succ]
  refine wpAnyH_take (i := 5) (oi := { dst := some 22, op := Go.Op.assign (Go.Operand.tmp 27), type := 4, pos := "nlri.go:35", after := #[{ on := 4, ground := Go.Ground.data }, { on := 3, ground := Go.Ground.chain }], guard := none }) (v := ?_) rfl (by kernel_rfl) (by kernel_rfl) (by kernel_rfl) (fun _ _ _ h => h) (Or.inl ⟨by rfl, ?_⟩) (by assumption) ?_
  rotate_left
  · intro wS hSw
    try dsimp only at hSw
    go_split_ands
    go_simp
    try with_reducible rfl
  try simp only [Act.put, List.setIfInBounds_toArray, List.set_cons_zero, List.set_cons_succ]
  refine wpAnyH_done (by kernel_rfl) ?_ _
  have HB6 : Hid (Has w5 w.heap.size 31 x.cs) := Lib.hid (Has.below (w := W4.drew) HB4.out hb5)
  have HP6 : Hid (Has w5 w3.heap.size 29 #[.int .u32 qp, .int .i64 ql]) := Lib.hid (Has.below (w := W4.drew) HP4.out hb5)
  have HG6 : Hid (Below w.heap.size w w5) := Lib.hid (HG4.out.trans (((Below.refl _ W4).drew.trans hb5).mono HG4.out.size))
  clear hb5 hneq hme hcf HB4 HP4 HG4 HS5 hHeld
  cases bs
  · have HE := Lib.hid (chk_form HK.out h1 h5 HBs.out)
    go_wp2_with fail
    go_ret
    exact ⟨by rw [HE.out]; rfl, HG6.out⟩
  · have HCh := Lib.hid (chk_rest HK.out h1 h5 HBs.out)
    have c13 := HB6.out.n13
    have c19 := HB6.out.n19
    have c20 := HB6.out.n20
    have c16 := HB6.out.n16
    have c17 := HB6.out.n17
    have p0 := HP6.out.cell 0
    have p1 := HP6.out.cell 1
    simp only [List.getElem?_toArray, List.getElem?_cons_zero, List.getElem?_cons_succ] at p0 p1
    clear HB6 HP6
    obtain ⟨b1, hb1⟩ : ∃ b, decide (281474976710655 < x.mac) = b := ⟨_, rfl⟩
    obtain ⟨b2, hb2⟩ : ∃ b, decide (16777215 < x.l1) = b := ⟨_, rfl⟩
    obtain ⟨b3, hb3⟩ : ∃ b, decide (16777215 < x.l2) = b := ⟨_, rfl⟩
    have hfar : x.far = (b1 || b2 || b3 || !vld x.pl) := by unfold NL.far; rw [hb1, hb2, hb3]
    have HFar := Lib.hid hfar
    clear hfar
    cases b1
    case true =>
      have e : x.far = true := by rw [HFar.out]; rfl
      have HE : Hid (chk x = 2) := Lib.hid (by rw [HCh.out, if_pos e])
      clear e
      go_wp2_with fail
      go_ret
      exact ⟨by rw [HE.out]; rfl, HG6.out⟩
    cases b2
    case true =>
      have e : x.far = true := by rw [HFar.out]; rfl
      have HE : Hid (chk x = 2) := Lib.hid (by rw [HCh.out, if_pos e])
      clear e
      go_wp2_with fail
      go_ret
      exact ⟨by rw [HE.out]; rfl, HG6.out⟩
    cases b3
    case true =>
      have e : x.far = true := by rw [HFar.out]; rfl
      have HE : Hid (chk x = 2) := Lib.hid (by rw [HCh.out, if_pos e])
      clear e
      go_wp2_with fail
      go_ret
      exact ⟨by rw [HE.out]; rfl, HG6.out⟩
    rcases HQ.out with ⟨hv, hq, rfl⟩ | ⟨hv, hq, rfl⟩
    · have e : ¬ x.far = true := by rw [HFar.out, hv]; decide
      rw [if_neg e] at HCh
      injection hq with hq
      simp only [Array.mk.injEq, List.cons.injEq, Value.int.injEq, true_and, and_true] at hq
      obtain ⟨rfl, rfl⟩ := hq
      obtain ⟨cp, hcp⟩ : ∃ c, cl x.pip x.pl = c := ⟨_, rfl⟩
      rw [hcp] at p0 HCh
      clear e hv
      by_cases hc : cp = x.pip
      · have hd : (x.pip == cp) = true := by simp [hc]
        have hd2 : ¬ (cp == x.pip) = false := by simp [hc]
        have hll : (x.pl == x.pl) = true := by simp
        have HE : Hid (chk x = 0) := Lib.hid (by rw [HCh.out, if_neg hd2])
        clear hd2 hc hcp
        go_wp2_with fail
        go_ret
        exact ⟨by rw [HE.out]; rfl, HG6.out⟩
      · have hd : (x.pip == cp) = false := by simp; exact fun h => hc h.symm
        have hd2 : (cp == x.pip) = false := by simpa using hc
        have HE : Hid (chk x = 3) := Lib.hid (by rw [HCh.out, if_pos hd2])
        clear hd2 hc hcp
        go_wp2_with fail
        go_ret
        exact ⟨by rw [HE.out]; rfl, HG6.out⟩
    · have e : x.far = true := by rw [HFar.out, hv]; rfl
      have HE : Hid (chk x = 2) := Lib.hid (by rw [HCh.out, if_pos e])
      clear e hv
      go_wp2_with fail
      go_ret
      exact ⟨by rw [HE.out]; rfl, HG6.out⟩

theorem check_any (x : NL) (hwf : (Lit.int .i64 x.k).wf = true) (w : World) :
    Calls Try.prog 10 #[x.v] w fun e w' => e = .returned (.int .i64 (chk x)) ∧ Below w.heap.size w w' := by
  by_cases h : x.k < 1 ∨ 5 < x.k
  · exact check_no x h hwf w
  · exact check_yes x x.k.toNat (by omega) (by omega) (by omega) w

end Go.Proofs.Ythhajknmokomjaa
