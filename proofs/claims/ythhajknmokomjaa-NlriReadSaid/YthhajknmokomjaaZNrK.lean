/- Routes read: two lists of routes that are the same; faults compared. -/
import Derived.Test.YthhajknmokomjaaZNrJ
namespace Go.Proofs.Ythhajknmokomjaa
open Go.RowKit Go.Maps
set_option linter.unusedVariables false
set_option linter.unusedSimpArgs false
set_option maxRecDepth 100000

theorem nl_same_self (x : NL) : x.same x = true := NL.same_iff.2 rfl
theorem ft_stood : Try.prog.stoodInHeld 47 = false := by kernel_rfl
theorem ft_eq (d : Nat) (p l q m : Int) (w : World) : (Op.equalIn (d + 2) 47 (.agg #[.int .i64 p, .int .i64 l]) (.agg #[.int .i64 q, .int .i64 m])).run Try.prog w = .ok ((p == q) && (l == m)) w := by
  rw [run_equalIn_struct w (d + 1) 47 _ _ Try.underlying47 ft_stood]
  have h := fld_step (d := d + 1) (xs := #[.int .i64 p, .int .i64 l]) (ys := #[.int .i64 q, .int .i64 m]) (f := (Try.prog.fieldsOf 47).toList[0]'(by decide)) (fs := [(Try.prog.fieldsOf 47).toList[1]'(by decide)]) (w := w) (.int .i64 p) (.int .i64 q) (by decide) (by kernel_rfl) (by kernel_rfl) (run_equalIn_int w d 35 .i64 .i64 p q Try.underlying35)
    (fld_step (w := w) (.int .i64 l) (.int .i64 m) (by decide) (by kernel_rfl) (by kernel_rfl) (run_equalIn_int w d 3 .i64 .i64 l m Try.underlying3) (fld_nil _ _ _ _ _))
  rw [Bool.and_true] at h
  exact h
theorem neq_ft (p l q m : Int) (w : World) : (binOp .neq 47 (.agg #[.int .i64 p, .int .i64 l]) (.agg #[.int .i64 q, .int .i64 m])).run Try.prog w = .ok (.bool (!((p == q) && (l == m)))) w := by
  rw [run_neq_struct, ft_eq 9998]; rfl
theorem eql_ft (p l q m : Int) (w : World) : (binOp .eql 47 (.agg #[.int .i64 p, .int .i64 l]) (.agg #[.int .i64 q, .int .i64 m])).run Try.prog w = .ok (.bool ((p == q) && (l == m))) w := by
  rw [run_eql_struct, ft_eq 9998]; rfl

set_option maxHeartbeats 1000000 in
/-- The same routes compared. -/
theorem same_nl (v v2 : Value) (L : List NL) (w : World) (h : Nls w v L) (h2 : Nls w v2 L) (hm : L.length ≤ 1000000) :
    Calls Try.prog 21 #[v, v2] w fun e w' => e = .returned (.bool true) ∧ ∃ n, w' = w.drewN n := by
  by_cases h0 : L.length = 0
  · obtain ⟨A, c, rfl⟩ := h.form
    obtain ⟨A2, c2, rfl⟩ := h2.form
    rw [h0]
    clear h h2 h0
    go_enter Try.func21, Try.ntmps21
    go_wp2
    go_loop [5] (fun i => i = .int .i64 0) (fun i => 0)
    case atStart => rfl
    case round =>
      subst hrel
      go_wp2
      go_ret
      exact ⟨rfl, 0, rfl⟩
  · obtain ⟨b, o, c, rfl, hs⟩ : ∃ b o c, v = .slice (some ⟨b, o, none⟩) L.length c ∧ w.rangeAt b o (flatN L) := by
      rcases h with ⟨_, h1⟩ | h1
      · rw [h1] at h0; exact absurd rfl h0
      · exact h1
    obtain ⟨b2, o2, c2, rfl, hs2⟩ : ∃ b o c, v2 = .slice (some ⟨b, o, none⟩) L.length c ∧ w.rangeAt b o (flatN L) := by
      rcases h2 with ⟨_, h1⟩ | h1
      · rw [h1] at h0; exact absurd rfl h0
      · exact h1
    have HS := Lib.hid hs
    have HS2 := Lib.hid hs2
    clear hs hs2 h h2 h0
    go_enter Try.func21, Try.ntmps21
    go_wp2
    go_loopw [5] (fun i wr => ∃ k q : Nat, k ≤ L.length ∧ i = .int .i64 k ∧ wr = w.drewN q) (fun i _ => L.length - (intOf i).toNat)
    case atStart => exact ⟨0, 0, Nat.zero_le _, rfl, rfl⟩
    case round =>
      obtain ⟨k, q, hk, rfl, rfl⟩ := hrel
      by_cases hlt : k < L.length
      · have q1 := range_at HS.out k hlt
        have q2 := range_at HS2.out k hlt
        obtain ⟨x, hx⟩ : ∃ x, L[k] = x := ⟨_, rfl⟩
        rw [hx] at q1 q2
        have hbne := neq_nl x x
        rw [nl_same_self] at hbne
        simp only [Bool.not_true] at hbne
        have HSd : Hid ((w.drewN q).drew.rangeAt b (o + k * 21) x.l ∧ (w.drewN q).drew.rangeAt b2 (o2 + k * 21) x.l) := Lib.hid ⟨q1, q2⟩
        clear hx q1 q2
        go_wp2
        refine wp_region_held_drew (S := (fun w' => w'.rangeAt b (o + k * 21) x.l ∧ w'.rangeAt b2 (o2 + k * 21) x.l)) (by kernel_rfl) HSd.out (fun hHeld => ?_)
        refine wpAnyH_take (i := 0) (oi := { dst := some 17, op := Go.Op.move (Go.Operand.tmp 0), type := 45, pos := "kit.go:13", after := #[], guard := none }) (v := ?_) rfl (by kernel_rfl) (by kernel_rfl) (by kernel_rfl) (fun _ _ _ h => h) (Or.inl ⟨by rfl, ?_⟩) (by assumption) ?_
        rotate_left
        · intro wS hSw
          clear hSw
          go_simp
          try with_reducible rfl
        try simp only [Act.put, List.setIfInBounds_toArray, List.set_cons_zero, List.set_cons_succ]
        refine wpAnyH_take (i := 1) (oi := { dst := some 18, op := Go.Op.move (Go.Operand.tmp 5), type := 3, pos := "kit.go:13", after := #[], guard := none }) (v := ?_) rfl (by kernel_rfl) (by kernel_rfl) (by kernel_rfl) (fun _ _ _ h => h) (Or.inl ⟨by rfl, ?_⟩) (by assumption) ?_
        rotate_left
        · intro wS hSw
          clear hSw
          go_simp
          try with_reducible rfl
        try simp only [Act.put, List.setIfInBounds_toArray, List.set_cons_zero, List.set_cons_succ]
        refine wpAnyH_take (i := 2) (oi := { dst := some 19, op := Go.Op.indexAddr 45 (Go.Operand.tmp 17) (Go.Operand.tmp 18), type := 0, pos := "kit.go:13", after := #[{ on := 0, ground := Go.Ground.data }, { on := 1, ground := Go.Ground.data }], guard := none }) (v := ?_) rfl (by kernel_rfl) (by kernel_rfl) (by kernel_rfl) (fun _ _ _ h => h) (Or.inl ⟨by rfl, ?_⟩) (by assumption) ?_
        rotate_left
        · intro wS hSw
          clear hSw
          go_simp
          try with_reducible rfl
        try simp only [Act.put, List.setIfInBounds_toArray, List.set_cons_zero, List.set_cons_succ]
        refine wpAnyH_take (i := 3) (oi := { dst := some 20, op := Go.Op.load 31 (Go.Operand.tmp 19), type := 31, pos := "kit.go:13", after := #[{ on := 2, ground := Go.Ground.data }], guard := none }) (v := .agg x.cs) rfl (by kernel_rfl) (by kernel_rfl) (by kernel_rfl) (fun _ _ _ h => h) (yieldsIf_load_mid (by rfl) 31 (.tmp 19) rfl b (o + k * 21) rfl x.l _ (fun _ h => h.1) Try.underlying31 rfl (nl_fit_l x)) (by assumption) ?_
        try simp only [Act.put, List.setIfInBounds_toArray, List.set_cons_zero, List.set_cons_succ]
        refine wpAnyH_take (i := 4) (oi := { dst := some 21, op := Go.Op.move (Go.Operand.tmp 1), type := 45, pos := "kit.go:13", after := #[], guard := none }) (v := ?_) rfl (by kernel_rfl) (by kernel_rfl) (by kernel_rfl) (fun _ _ _ h => h) (Or.inl ⟨by rfl, ?_⟩) (by assumption) ?_
        rotate_left
        · intro wS hSw
          clear hSw
          go_simp
          try with_reducible rfl
        try simp only [Act.put, List.setIfInBounds_toArray, List.set_cons_zero, List.set_cons_succ]
        refine wpAnyH_take (i := 5) (oi := { dst := some 22, op := Go.Op.move (Go.Operand.tmp 5), type := 3, pos := "kit.go:13", after := #[], guard := none }) (v := ?_) rfl (by kernel_rfl) (by kernel_rfl) (by kernel_rfl) (fun _ _ _ h => h) (Or.inl ⟨by rfl, ?_⟩) (by assumption) ?_
        rotate_left
        · intro wS hSw
          clear hSw
          go_simp
          try with_reducible rfl
        try simp only [Act.put, List.setIfInBounds_toArray, List.set_cons_zero, List.set_cons_succ]
        refine wpAnyH_take (i := 6) (oi := { dst := some 23, op := Go.Op.indexAddr 45 (Go.Operand.tmp 21) (Go.Operand.tmp 22), type := 0, pos := "kit.go:13", after := #[{ on := 4, ground := Go.Ground.data }, { on := 5, ground := Go.Ground.data }], guard := none }) (v := ?_) rfl (by kernel_rfl) (by kernel_rfl) (by kernel_rfl) (fun _ _ _ h => h) (Or.inl ⟨by rfl, ?_⟩) (by assumption) ?_
        rotate_left
        · intro wS hSw
          clear hSw
          go_simp
          try with_reducible rfl
        try simp only [Act.put, List.setIfInBounds_toArray, List.set_cons_zero, List.set_cons_succ]
        refine wpAnyH_take (i := 7) (oi := { dst := some 24, op := Go.Op.load 31 (Go.Operand.tmp 23), type := 31, pos := "kit.go:13", after := #[{ on := 6, ground := Go.Ground.data }], guard := none }) (v := .agg x.cs) rfl (by kernel_rfl) (by kernel_rfl) (by kernel_rfl) (fun _ _ _ h => h) (yieldsIf_load_mid (by rfl) 31 (.tmp 23) rfl b2 (o2 + k * 21) rfl x.l _ (fun _ h => h.2) Try.underlying31 rfl (nl_fit_l x)) (by assumption) ?_
        try simp only [Act.put, List.setIfInBounds_toArray, List.set_cons_zero, List.set_cons_succ]
        refine wpAnyH_take (i := 8) (oi := { dst := some 25, op := Go.Op.binOp Go.BinOp.neq 31 (Go.Operand.tmp 20) (Go.Operand.tmp 24) 31, type := 4, pos := "kit.go:13", after := #[{ on := 3, ground := Go.Ground.data }, { on := 7, ground := Go.Ground.data }], guard := none }) (v := ?_) rfl (by kernel_rfl) (by kernel_rfl) (by kernel_rfl) (fun _ _ _ h => h) (Or.inl ⟨by rfl, ?_⟩) (by assumption) ?_
        rotate_left
        · intro wS hSw
          clear hSw
          go_simp
          try with_reducible rfl
        try simp only [Act.put, List.setIfInBounds_toArray, List.set_cons_zero, List.set_cons_succ]
        refine wpAnyH_done (by kernel_rfl) ?_ _
        go_wp2
        go_roundw
        case rel => exact ⟨k + 1, q + 1, by omega, by go_num, by rfl⟩
        case measure => simp [intOf]; omega
      · have hke : k = L.length := by omega
        subst hke
        go_wp2
        go_ret
        exact ⟨rfl, _, rfl⟩

end Go.Proofs.Ythhajknmokomjaa
