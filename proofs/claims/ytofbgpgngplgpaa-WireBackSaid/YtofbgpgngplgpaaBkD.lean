/- WireBack: the walk. -/
import Derived.Test.YtofbgpgngplgpaaBkC
import Derived.Test.YtofbgpgngplgpaaAct
import Derived.Deep.RegionHeld3
import Derived.Deep.AppendLies
import Derived.Deep.DeepCutAuto
import Derived.Deep.CutBlock
namespace Go.Proofs.Ytofbgpgngplgpaa
open Go.RowKit
set_option linter.unusedVariables false
set_option maxRecDepth 100000

theorem info_int : (Try.prog.info? 3).map (fun i => (i.zero, i.size, i.bytes)) = some (some (.int .i64 0), 1, 8) := by kernel_rfl
theorem info_u64 : (Try.prog.info? 32).map (fun i => (i.zero, i.size, i.bytes)) = some (some (.int .u64 0), 1, 8) := by kernel_rfl

theorem back_long (v : Value) (A : Option Addr) (n c : Nat) (hv : v = .slice A n c) (h : 60 < n) (hb : n ≤ 9223372036854775807) (w : World) :
    Calls Try.prog 4 #[v] w fun e w' => e = .returned (.bool true) ∧ Below w.heap.size w w' := by
  subst hv
  go_enter Try.func4, Try.ntmps4
  go_wp2_with fail
  refine (lives_any _).mono ?_
  rintro en w1 ⟨rfl, hb1⟩
  go_wp2_with fail
  go_ret
  exact ⟨rfl, hb1⟩

set_option maxHeartbeats 4000000 in
theorem back_walk (v : Value) (ks : List ActV) (w : World) (hk : Acts w v ks) (h1 : ks.length ≤ 60) :
    Calls Try.prog 4 #[v] w fun e w' => e = .returned (.bool true) ∧ Below w.heap.size w w' := by
  have hk3 : ∃ A3 c3, v = .slice A3 ks.length c3 := by
    rcases hk with ⟨rfl, rfl⟩ | ⟨ad, c3, h, _⟩
    · exact ⟨none, 0, rfl⟩
    · exact ⟨_, c3, h⟩
  obtain ⟨A3, c3, rfl⟩ := hk3
  have HK := Lib.hid hk
  have hd1 : decide ((60 : Int) < (ks.length : Int)) = false := by simp; omega
  clear hk
  go_enter Try.func4, Try.ntmps4
  go_wp2_with fail
  refine (lives_any _).mono ?_
  rintro en w1 ⟨rfl, hb1⟩
  have HB1 := Lib.hid hb1
  clear hb1
  go_wp2_with fail
  refine (wnewL 65536 (by omega) _).mono ?_
  rintro en w2 ⟨g, l0, rfl, hw, hl, hb⟩
  have HW2 : Hid (WrL w2 l0 g ⟨65536, [], []⟩ ∧ (∀ k ∈ l0, w.heap.size ≤ k) ∧ Below w.heap.size w w2) := Lib.hid ⟨hw, fun k hk => Nat.le_trans HB1.out.size (hl k hk), HB1.out.trans (hb.mono HB1.out.size)⟩
  clear hw hl hb HB1
  go_wp2_with fail
  refine (wmarkL g l0 _ _ HW2.out.1).mono ?_
  rw [stw_mark]
  rintro en w3 ⟨rfl, l1, hw, hn⟩
  have HI0 : Hid (BI w g l1 [] [] [] (.slice none 0 0) (.slice none 0 0) w3) := Lib.hid (by
    have hb := hn.below HW2.out.2.1 HW2.out.2.2.size
    exact ⟨hw, hb.2, ⟨rfl, .inl ⟨rfl, rfl⟩⟩, ⟨rfl, .inl ⟨rfl, rfl⟩⟩, HW2.out.2.2.trans hb.1⟩)
  clear hw hn HW2
  go_wp2_with fail
  go_loopw [7, 8, 9] (fun v7 v8 i wr => ∃ (k : Nat) (F : List (Nat × Int)) (l : List Nat), k ≤ ks.length ∧ F.length ≤ k ∧ i = .int .i64 k ∧ (∀ p ∈ F, p.1 < 6 ∧ 0 ≤ p.2 ∧ p.2 < 256 ^ sz p.1) ∧ BI w g l F F F v7 v8 wr) (fun _ _ i _ => ks.length - (intOf i).toNat)
  case atStart => exact ⟨0, [], l1, Nat.zero_le _, Nat.le_refl _, rfl, by simp, HI0.out⟩
  case round =>
    obtain ⟨k, F, l, hkl, hF, rfl, hfit, hbi⟩ := hrel
    clear HI0
    by_cases hlt : k < ks.length
    · obtain ⟨b3, o3, rfl, _, hat⟩ := HK.out.at_ (by omega)
      have hact := hat k hlt
      obtain ⟨x, hx⟩ : ∃ x, ks[k] = x := ⟨_, rfl⟩
      rw [hx] at hact
      have hk0 := (hact.below hbi.bel).c0
      obtain ⟨kind, hkind⟩ : ∃ y, x.k = y := ⟨_, rfl⟩
      rw [hkind] at hk0
      have HI := Lib.hid hbi
      have HF := Lib.hid hfit
      obtain ⟨nn, hnn⟩ : ∃ y, x.n = y := ⟨_, rfl⟩
      have hN : ∀ W' : World, Below w.heap.size w W' → (W'.cell? ⟨b3, o3 + k * 4 + 2, none⟩ = some (.int .u64 nn) ∧ Below w.heap.size w W') := fun W' hb => ⟨hnn ▸ (hact.below hb).c2, hb⟩
      have HN := Lib.hid hN
      have hn0 : 0 ≤ nn ∧ nn < 18446744073709551616 := by
        rcases HK.out with ⟨h0, _⟩ | ⟨ad, c, _, h2⟩
        · cases h0
        · have h3 := (h2 k hlt).ok2
          rw [hx, hnn] at h3
          exact h3
      obtain ⟨hn0, hn1⟩ := hn0
      clear hat hact hx hkind hnn hbi hfit hN
      go_wp2_with fail
      refine (pick_any kind 6 (by omega) (by omega) _).mono ?_
      rintro en wr' ⟨rfl, rfl⟩
      have hp0 := Int.emod_nonneg kind (show (6 : Int) ≠ 0 by omega)
      have hp1 := Int.emod_lt_of_pos kind (show (0 : Int) < 6 by omega)
      obtain ⟨m, hm⟩ : ∃ m : Nat, kind % 6 = m := ⟨(kind % 6).toNat, by omega⟩
      rw [hm] at hp0 hp1 ⊢
      have hm6 : m < 6 := by omega
      clear hm hp0 hp1 hk0
      go_upto_region 15 with fail
      go_cut [7, 8, 11] (fun v7 v8 v11 wx => ∃ t : Bool, v11 = .bool t ∧ (t = true ↔ nn < 256 ^ sz m) ∧ BI w g l F F F v7 v8 wx)
      case first =>
        by_cases h5 : m = 5
        · subst h5
          go_wp2_with fail
          go_quiet (fail)
          go_wp2_with fail
          go_meet
          exact ⟨_, rfl, by simpa [sz] using hn1, HI.out.below ⟨rfl, rfl, rfl, Nat.le_refl _, fun _ _ => rfl⟩⟩
        · have hk2 := (HN.out _ HI.out.bel).1
          have hd : decide ((m : Int) = 5) = false := by simp; omega
          have h6 : m = 0 ∨ m = 1 ∨ m = 2 ∨ m = 3 ∨ m = 4 := by omega
          clear h5
          rcases h6 with rfl | rfl | rfl | rfl | rfl
          · have hwr : IntKind.i64.wrap 8 = 8 := by decide
            have hsz : (nn / 256 == 0) = decide (nn < 256 ^ sz 0) := by
              rw [Bool.eq_iff_iff]
              simp [sz]
              omega
            obtain ⟨t, ht⟩ : ∃ t, decide (nn < 256 ^ sz 0) = t := ⟨_, rfl⟩
            have HT : Hid (t = true ↔ nn < 256 ^ sz 0) := Lib.hid (by rw [← ht]; exact decide_eq_true_iff)
            rw [ht] at hsz
            clear ht
            go_wp2_with fail
            refine wp_region_held_drew (S := (fun w' => w'.cell? ⟨b3, o3 + k * 4 + 2, none⟩ = some (.int .u64 nn) ∧ Below w.heap.size w w')) (by kernel_rfl) (by first | exact HN.out _ HI.out.drew.bel | exact HN.out _ HI.out.bel) (fun hHeld => ?_)
            refine wpAnyH_take (i := 0) (oi := { dst := some 42, op := Go.Op.move (Go.Operand.tmp 10), type := 3, pos := "law.go:196", after := #[], guard := none }) (v := ?_) rfl (by kernel_rfl) (by kernel_rfl) (by kernel_rfl) (fun _ _ _ h => h) (Or.inl ⟨by rfl, ?_⟩) (by assumption) ?_
            rotate_left
            · intro wS hSw
              try dsimp only at hSw
              go_split_ands
              go_simp
              try with_reducible rfl
            try simp only [Act.put, List.setIfInBounds_toArray, List.set_cons_zero, List.set_cons_succ]
            refine wpAnyH_take (i := 1) (oi := { dst := some 43, op := Go.Op.binOp Go.BinOp.eql 3 (Go.Operand.tmp 42) (Go.Operand.const (Go.Value.int Go.IntKind.i64 5)) 3, type := 4, pos := "law.go:196", after := #[{ on := 0, ground := Go.Ground.data }], guard := none }) (v := ?_) rfl (by kernel_rfl) (by kernel_rfl) (by kernel_rfl) (fun _ _ _ h => h) (Or.inl ⟨by rfl, ?_⟩) (by assumption) ?_
            rotate_left
            · intro wS hSw
              try dsimp only at hSw
              go_split_ands
              go_simp
              try with_reducible rfl
            try simp only [Act.put, List.setIfInBounds_toArray, List.set_cons_zero, List.set_cons_succ]
            refine wpAnyH_take (i := 2) (oi := { dst := some 44, op := Go.Op.move (Go.Operand.tmp 43), type := 4, pos := "law.go:196", after := #[{ on := 1, ground := Go.Ground.data }], guard := none }) (v := ?_) rfl (by kernel_rfl) (by kernel_rfl) (by kernel_rfl) (fun _ _ _ h => h) (Or.inl ⟨by rfl, ?_⟩) (by assumption) ?_
            rotate_left
            · intro wS hSw
              try dsimp only at hSw
              go_split_ands
              go_simp
              try with_reducible rfl
            try simp only [Act.put, List.setIfInBounds_toArray, List.set_cons_zero, List.set_cons_succ]
            refine wpAnyH_take (i := 3) (oi := { dst := some 45, op := Go.Op.move (Go.Operand.tmp 0), type := 22, pos := "law.go:196", after := #[{ on := 2, ground := Go.Ground.guard }], guard := some (2, false) }) (v := ?_) rfl (by kernel_rfl) (by kernel_rfl) (by kernel_rfl) (fun _ _ _ h => h) (Or.inl ⟨by rfl, ?_⟩) (by assumption) ?_
            rotate_left
            · intro wS hSw
              try dsimp only at hSw
              go_split_ands
              go_simp
              try with_reducible rfl
            try simp only [Act.put, List.setIfInBounds_toArray, List.set_cons_zero, List.set_cons_succ]
            refine wpAnyH_take (i := 4) (oi := { dst := some 46, op := Go.Op.move (Go.Operand.tmp 9), type := 3, pos := "law.go:196", after := #[{ on := 2, ground := Go.Ground.guard }], guard := some (2, false) }) (v := ?_) rfl (by kernel_rfl) (by kernel_rfl) (by kernel_rfl) (fun _ _ _ h => h) (Or.inl ⟨by rfl, ?_⟩) (by assumption) ?_
            rotate_left
            · intro wS hSw
              try dsimp only at hSw
              go_split_ands
              go_simp
              try with_reducible rfl
            try simp only [Act.put, List.setIfInBounds_toArray, List.set_cons_zero, List.set_cons_succ]
            refine wpAnyH_take (i := 5) (oi := { dst := some 47, op := Go.Op.indexAddr 22 (Go.Operand.tmp 45) (Go.Operand.tmp 46), type := 0, pos := "law.go:196", after := #[{ on := 3, ground := Go.Ground.data }, { on := 4, ground := Go.Ground.data }, { on := 2, ground := Go.Ground.guard }], guard := some (2, false) }) (v := ?_) rfl (by kernel_rfl) (by kernel_rfl) (by kernel_rfl) (fun _ _ _ h => h) (Or.inl ⟨by rfl, ?_⟩) (by assumption) ?_
            rotate_left
            · intro wS hSw
              try dsimp only at hSw
              go_split_ands
              go_simp
              try with_reducible rfl
            try simp only [Act.put, List.setIfInBounds_toArray, List.set_cons_zero, List.set_cons_succ]
            refine wpAnyH_take (i := 6) (oi := { dst := some 48, op := Go.Op.fieldAddr 35 (Go.Operand.tmp 47) 2, type := 0, pos := "law.go:196", after := #[{ on := 5, ground := Go.Ground.data }, { on := 2, ground := Go.Ground.guard }], guard := some (2, false) }) (v := ?_) rfl (by kernel_rfl) (by kernel_rfl) (by kernel_rfl) (fun _ _ _ h => h) (Or.inl ⟨by rfl, ?_⟩) (by assumption) ?_
            rotate_left
            · intro wS hSw
              try dsimp only at hSw
              go_split_ands
              go_simp
              try with_reducible rfl
            try simp only [Act.put, List.setIfInBounds_toArray, List.set_cons_zero, List.set_cons_succ]
            refine wpAnyH_take (i := 7) (oi := { dst := some 49, op := Go.Op.load 32 (Go.Operand.tmp 48), type := 32, pos := "law.go:196", after := #[{ on := 6, ground := Go.Ground.data }, { on := 2, ground := Go.Ground.guard }], guard := some (2, false) }) (v := ?_) rfl (by kernel_rfl) (by kernel_rfl) (by kernel_rfl) (fun _ _ _ h => h) (Or.inl ⟨by rfl, ?_⟩) (by assumption) ?_
            rotate_left
            · intro wS hSw
              try dsimp only at hSw
              go_split_ands
              go_simp
              try with_reducible rfl
            try simp only [Act.put, List.setIfInBounds_toArray, List.set_cons_zero, List.set_cons_succ]
            refine wpAnyH_take (i := 9) (oi := { dst := some 51, op := Go.Op.move (Go.Operand.tmp 10), type := 3, pos := "law.go:196", after := #[{ on := 2, ground := Go.Ground.guard }], guard := some (2, false) }) (v := ?_) rfl (by kernel_rfl) (by kernel_rfl) (by kernel_rfl) (fun _ _ _ h => h) (Or.inl ⟨by rfl, ?_⟩) (by assumption) ?_
            rotate_left
            · intro wS hSw
              try dsimp only at hSw
              go_split_ands
              go_simp
              try with_reducible rfl
            try simp only [Act.put, List.setIfInBounds_toArray, List.set_cons_zero, List.set_cons_succ]
            refine wpAnyH_ready (rs := [8]) (by kernel_rfl) (by simp) ?_
            refine AllReadyH.cons (o := { dst := some 50, op := Go.Op.call { callee := Go.Callee.value (Go.Operand.func 12), args := #[], argTypes := #[] }, type := 39, pos := "law.go:196", after := #[{ on := 2, ground := Go.Ground.chain }, { on := 2, ground := Go.Ground.guard }], guard := some (2, false) }) rfl (fun K hK => ?_) AllReadyH.nil
            go_simp
            refine (sizes_any _).mono ?_
            rintro en w9 ⟨rfl, rfl⟩
            try go_simp
            refine hK.out _ _ ?_ (fun hHeld => ?_)
            · first | exact HN.out _ HI.out.drew.bel | exact HN.out _ (HI.out.drew.alloc _).bel | exact HN.out _ (HI.out.alloc _).bel | exact HN.out _ (HI.out.alloc _).drew.bel
            clear hK K
            try simp only [Act.put, List.setIfInBounds_toArray, List.set_cons_zero, List.set_cons_succ]
            refine wpAnyH_take (i := 10) (oi := { dst := some 52, op := Go.Op.indexAddr 39 (Go.Operand.tmp 50) (Go.Operand.tmp 51), type := 0, pos := "law.go:196", after := #[{ on := 8, ground := Go.Ground.data }, { on := 9, ground := Go.Ground.data }, { on := 2, ground := Go.Ground.guard }], guard := some (2, false) }) (v := ?_) rfl (by kernel_rfl) (by kernel_rfl) (by kernel_rfl) (fun _ _ _ h => h) (Or.inl ⟨by rfl, ?_⟩) (by assumption) ?_
            rotate_left
            · intro wS hSw
              try dsimp only at hSw
              go_split_ands
              go_simp
              try with_reducible rfl
            try simp only [Act.put, List.setIfInBounds_toArray, List.set_cons_zero, List.set_cons_succ]
            refine wpAnyH_ready (rs := [11]) (by kernel_rfl) (by simp) ?_
            refine AllReadyH.cons (o := { dst := some 53, op := Go.Op.load 3 (Go.Operand.tmp 52), type := 3, pos := "law.go:196", after := #[{ on := 10, ground := Go.Ground.data }, { on := 2, ground := Go.Ground.guard }], guard := some (2, false) }) rfl (fun K hK => ?_) AllReadyH.nil
            go_simp
            skip
            refine hK.out _ _ ?_ (fun hHeld => ?_)
            · first | exact HN.out _ HI.out.drew.bel | exact HN.out _ (HI.out.drew.alloc _).bel | exact HN.out _ (HI.out.alloc _).bel | exact HN.out _ (HI.out.alloc _).drew.bel
            clear hK K
            try simp only [Act.put, List.setIfInBounds_toArray, List.set_cons_zero, List.set_cons_succ]
            refine wpAnyH_take (i := 12) (oi := { dst := some 54, op := Go.Op.binOp Go.BinOp.mul 3 (Go.Operand.const (Go.Value.int Go.IntKind.i64 8)) (Go.Operand.tmp 53) 3, type := 3, pos := "law.go:196", after := #[{ on := 11, ground := Go.Ground.data }, { on := 2, ground := Go.Ground.guard }], guard := some (2, false) }) (v := ?_) rfl (by kernel_rfl) (by kernel_rfl) (by kernel_rfl) (fun _ _ _ h => h) (Or.inl ⟨by rfl, ?_⟩) (by assumption) ?_
            rotate_left
            · intro wS hSw
              try dsimp only at hSw
              go_split_ands
              go_simp
              try with_reducible rfl
            try simp only [Act.put, List.setIfInBounds_toArray, List.set_cons_zero, List.set_cons_succ]
            refine wpAnyH_take (i := 13) (oi := { dst := some 55, op := Go.Op.binOp Go.BinOp.shr 32 (Go.Operand.tmp 49) (Go.Operand.tmp 54) 3, type := 32, pos := "law.go:196", after := #[{ on := 7, ground := Go.Ground.data }, { on := 12, ground := Go.Ground.data }, { on := 2, ground := Go.Ground.guard }], guard := some (2, false) }) (v := ?_) rfl (by kernel_rfl) (by kernel_rfl) (by kernel_rfl) (fun _ _ _ h => h) (Or.inl ⟨by rfl, ?_⟩) (by assumption) ?_
            rotate_left
            · intro wS hSw
              try dsimp only at hSw
              go_split_ands
              go_simp
              try with_reducible rfl
            try simp only [Act.put, List.setIfInBounds_toArray, List.set_cons_zero, List.set_cons_succ]
            refine wpAnyH_take (i := 14) (oi := { dst := some 56, op := Go.Op.binOp Go.BinOp.eql 32 (Go.Operand.tmp 55) (Go.Operand.const (Go.Value.int Go.IntKind.u64 0)) 32, type := 4, pos := "law.go:196", after := #[{ on := 13, ground := Go.Ground.data }, { on := 2, ground := Go.Ground.guard }], guard := some (2, false) }) (v := ?_) rfl (by kernel_rfl) (by kernel_rfl) (by kernel_rfl) (fun _ _ _ h => h) (Or.inl ⟨by rfl, ?_⟩) (by assumption) ?_
            rotate_left
            · intro wS hSw
              try dsimp only at hSw
              go_split_ands
              go_simp
              try with_reducible rfl
            try simp only [Act.put, List.setIfInBounds_toArray, List.set_cons_zero, List.set_cons_succ]
            refine wpAnyH_take (i := 15) (oi := { dst := some 57, op := Go.Op.pick (Go.Operand.tmp 44) (Go.Operand.const (Go.Value.bool true)) (Go.Operand.tmp 56), type := 4, pos := "law.go:196", after := #[{ on := 2, ground := Go.Ground.data }, { on := 14, ground := Go.Ground.data }], guard := none }) (v := ?_) rfl (by kernel_rfl) (by kernel_rfl) (by kernel_rfl) (fun _ _ _ h => h) (Or.inl ⟨by rfl, ?_⟩) (by assumption) ?_
            rotate_left
            · intro wS hSw
              try dsimp only at hSw
              go_split_ands
              go_simp
              try with_reducible rfl
            try simp only [Act.put, List.setIfInBounds_toArray, List.set_cons_zero, List.set_cons_succ]
            refine wpAnyH_take (i := 16) (oi := { dst := some 11, op := Go.Op.assign (Go.Operand.tmp 57), type := 4, pos := "law.go:196", after := #[{ on := 15, ground := Go.Ground.data }, { on := 8, ground := Go.Ground.chain }, { on := 0, ground := Go.Ground.phase }, { on := 1, ground := Go.Ground.phase }, { on := 2, ground := Go.Ground.phase }, { on := 3, ground := Go.Ground.phase }, { on := 4, ground := Go.Ground.phase }, { on := 5, ground := Go.Ground.phase }, { on := 6, ground := Go.Ground.phase }, { on := 7, ground := Go.Ground.phase }, { on := 8, ground := Go.Ground.phase }, { on := 9, ground := Go.Ground.phase }, { on := 10, ground := Go.Ground.phase }, { on := 11, ground := Go.Ground.phase }, { on := 12, ground := Go.Ground.phase }, { on := 13, ground := Go.Ground.phase }, { on := 14, ground := Go.Ground.phase }, { on := 15, ground := Go.Ground.phase }], guard := none }) (v := ?_) rfl (by kernel_rfl) (by kernel_rfl) (by kernel_rfl) (fun _ _ _ h => h) (Or.inl ⟨by rfl, ?_⟩) (by assumption) ?_
            rotate_left
            · intro wS hSw
              try dsimp only at hSw
              go_split_ands
              go_simp
              try with_reducible rfl
            try simp only [Act.put, List.setIfInBounds_toArray, List.set_cons_zero, List.set_cons_succ]
            refine wpAnyH_done (by kernel_rfl) ?_ _
            go_wp2_with fail
            go_meet
            exact ⟨_, rfl, HT.out, (HI.out.alloc _).drew⟩
          · have hwr : IntKind.i64.wrap 16 = 16 := by decide
            have hsz : (nn / 65536 == 0) = decide (nn < 256 ^ sz 1) := by
              rw [Bool.eq_iff_iff]
              simp [sz]
              omega
            obtain ⟨t, ht⟩ : ∃ t, decide (nn < 256 ^ sz 1) = t := ⟨_, rfl⟩
            have HT : Hid (t = true ↔ nn < 256 ^ sz 1) := Lib.hid (by rw [← ht]; exact decide_eq_true_iff)
            rw [ht] at hsz
            clear ht
            go_wp2_with fail
            refine wp_region_held_drew (S := (fun w' => w'.cell? ⟨b3, o3 + k * 4 + 2, none⟩ = some (.int .u64 nn) ∧ Below w.heap.size w w')) (by kernel_rfl) (by first | exact HN.out _ HI.out.drew.bel | exact HN.out _ HI.out.bel) (fun hHeld => ?_)
            refine wpAnyH_take (i := 0) (oi := { dst := some 42, op := Go.Op.move (Go.Operand.tmp 10), type := 3, pos := "law.go:196", after := #[], guard := none }) (v := ?_) rfl (by kernel_rfl) (by kernel_rfl) (by kernel_rfl) (fun _ _ _ h => h) (Or.inl ⟨by rfl, ?_⟩) (by assumption) ?_
            rotate_left
            · intro wS hSw
              try dsimp only at hSw
              go_split_ands
              go_simp
              try with_reducible rfl
            try simp only [Act.put, List.setIfInBounds_toArray, List.set_cons_zero, List.set_cons_succ]
            refine wpAnyH_take (i := 1) (oi := { dst := some 43, op := Go.Op.binOp Go.BinOp.eql 3 (Go.Operand.tmp 42) (Go.Operand.const (Go.Value.int Go.IntKind.i64 5)) 3, type := 4, pos := "law.go:196", after := #[{ on := 0, ground := Go.Ground.data }], guard := none }) (v := ?_) rfl (by kernel_rfl) (by kernel_rfl) (by kernel_rfl) (fun _ _ _ h => h) (Or.inl ⟨by rfl, ?_⟩) (by assumption) ?_
            rotate_left
            · intro wS hSw
              try dsimp only at hSw
              go_split_ands
              go_simp
              try with_reducible rfl
            try simp only [Act.put, List.setIfInBounds_toArray, List.set_cons_zero, List.set_cons_succ]
            refine wpAnyH_take (i := 2) (oi := { dst := some 44, op := Go.Op.move (Go.Operand.tmp 43), type := 4, pos := "law.go:196", after := #[{ on := 1, ground := Go.Ground.data }], guard := none }) (v := ?_) rfl (by kernel_rfl) (by kernel_rfl) (by kernel_rfl) (fun _ _ _ h => h) (Or.inl ⟨by rfl, ?_⟩) (by assumption) ?_
            rotate_left
            · intro wS hSw
              try dsimp only at hSw
              go_split_ands
              go_simp
              try with_reducible rfl
            try simp only [Act.put, List.setIfInBounds_toArray, List.set_cons_zero, List.set_cons_succ]
            refine wpAnyH_take (i := 3) (oi := { dst := some 45, op := Go.Op.move (Go.Operand.tmp 0), type := 22, pos := "law.go:196", after := #[{ on := 2, ground := Go.Ground.guard }], guard := some (2, false) }) (v := ?_) rfl (by kernel_rfl) (by kernel_rfl) (by kernel_rfl) (fun _ _ _ h => h) (Or.inl ⟨by rfl, ?_⟩) (by assumption) ?_
            rotate_left
            · intro wS hSw
              try dsimp only at hSw
              go_split_ands
              go_simp
              try with_reducible rfl
            try simp only [Act.put, List.setIfInBounds_toArray, List.set_cons_zero, List.set_cons_succ]
            refine wpAnyH_take (i := 4) (oi := { dst := some 46, op := Go.Op.move (Go.Operand.tmp 9), type := 3, pos := "law.go:196", after := #[{ on := 2, ground := Go.Ground.guard }], guard := some (2, false) }) (v := ?_) rfl (by kernel_rfl) (by kernel_rfl) (by kernel_rfl) (fun _ _ _ h => h) (Or.inl ⟨by rfl, ?_⟩) (by assumption) ?_
            rotate_left
            · intro wS hSw
              try dsimp only at hSw
              go_split_ands
              go_simp
              try with_reducible rfl
            try simp only [Act.put, List.setIfInBounds_toArray, List.set_cons_zero, List.set_cons_succ]
            refine wpAnyH_take (i := 5) (oi := { dst := some 47, op := Go.Op.indexAddr 22 (Go.Operand.tmp 45) (Go.Operand.tmp 46), type := 0, pos := "law.go:196", after := #[{ on := 3, ground := Go.Ground.data }, { on := 4, ground := Go.Ground.data }, { on := 2, ground := Go.Ground.guard }], guard := some (2, false) }) (v := ?_) rfl (by kernel_rfl) (by kernel_rfl) (by kernel_rfl) (fun _ _ _ h => h) (Or.inl ⟨by rfl, ?_⟩) (by assumption) ?_
            rotate_left
            · intro wS hSw
              try dsimp only at hSw
              go_split_ands
              go_simp
              try with_reducible rfl
            try simp only [Act.put, List.setIfInBounds_toArray, List.set_cons_zero, List.set_cons_succ]
            refine wpAnyH_take (i := 6) (oi := { dst := some 48, op := Go.Op.fieldAddr 35 (Go.Operand.tmp 47) 2, type := 0, pos := "law.go:196", after := #[{ on := 5, ground := Go.Ground.data }, { on := 2, ground := Go.Ground.guard }], guard := some (2, false) }) (v := ?_) rfl (by kernel_rfl) (by kernel_rfl) (by kernel_rfl) (fun _ _ _ h => h) (Or.inl ⟨by rfl, ?_⟩) (by assumption) ?_
            rotate_left
            · intro wS hSw
              try dsimp only at hSw
              go_split_ands
              go_simp
              try with_reducible rfl
            try simp only [Act.put, List.setIfInBounds_toArray, List.set_cons_zero, List.set_cons_succ]
            refine wpAnyH_take (i := 7) (oi := { dst := some 49, op := Go.Op.load 32 (Go.Operand.tmp 48), type := 32, pos := "law.go:196", after := #[{ on := 6, ground := Go.Ground.data }, { on := 2, ground := Go.Ground.guard }], guard := some (2, false) }) (v := ?_) rfl (by kernel_rfl) (by kernel_rfl) (by kernel_rfl) (fun _ _ _ h => h) (Or.inl ⟨by rfl, ?_⟩) (by assumption) ?_
            rotate_left
            · intro wS hSw
              try dsimp only at hSw
              go_split_ands
              go_simp
              try with_reducible rfl
            try simp only [Act.put, List.setIfInBounds_toArray, List.set_cons_zero, List.set_cons_succ]
            refine wpAnyH_take (i := 9) (oi := { dst := some 51, op := Go.Op.move (Go.Operand.tmp 10), type := 3, pos := "law.go:196", after := #[{ on := 2, ground := Go.Ground.guard }], guard := some (2, false) }) (v := ?_) rfl (by kernel_rfl) (by kernel_rfl) (by kernel_rfl) (fun _ _ _ h => h) (Or.inl ⟨by rfl, ?_⟩) (by assumption) ?_
            rotate_left
            · intro wS hSw
              try dsimp only at hSw
              go_split_ands
              go_simp
              try with_reducible rfl
            try simp only [Act.put, List.setIfInBounds_toArray, List.set_cons_zero, List.set_cons_succ]
            refine wpAnyH_ready (rs := [8]) (by kernel_rfl) (by simp) ?_
            refine AllReadyH.cons (o := { dst := some 50, op := Go.Op.call { callee := Go.Callee.value (Go.Operand.func 12), args := #[], argTypes := #[] }, type := 39, pos := "law.go:196", after := #[{ on := 2, ground := Go.Ground.chain }, { on := 2, ground := Go.Ground.guard }], guard := some (2, false) }) rfl (fun K hK => ?_) AllReadyH.nil
            go_simp
            refine (sizes_any _).mono ?_
            rintro en w9 ⟨rfl, rfl⟩
            try go_simp
            refine hK.out _ _ ?_ (fun hHeld => ?_)
            · first | exact HN.out _ HI.out.drew.bel | exact HN.out _ (HI.out.drew.alloc _).bel | exact HN.out _ (HI.out.alloc _).bel | exact HN.out _ (HI.out.alloc _).drew.bel
            clear hK K
            try simp only [Act.put, List.setIfInBounds_toArray, List.set_cons_zero, List.set_cons_succ]
            refine wpAnyH_take (i := 10) (oi := { dst := some 52, op := Go.Op.indexAddr 39 (Go.Operand.tmp 50) (Go.Operand.tmp 51), type := 0, pos := "law.go:196", after := #[{ on := 8, ground := Go.Ground.data }, { on := 9, ground := Go.Ground.data }, { on := 2, ground := Go.Ground.guard }], guard := some (2, false) }) (v := ?_) rfl (by kernel_rfl) (by kernel_rfl) (by kernel_rfl) (fun _ _ _ h => h) (Or.inl ⟨by rfl, ?_⟩) (by assumption) ?_
            rotate_left
            · intro wS hSw
              try dsimp only at hSw
              go_split_ands
              go_simp
              try with_reducible rfl
            try simp only [Act.put, List.setIfInBounds_toArray, List.set_cons_zero, List.set_cons_succ]
            refine wpAnyH_ready (rs := [11]) (by kernel_rfl) (by simp) ?_
            refine AllReadyH.cons (o := { dst := some 53, op := Go.Op.load 3 (Go.Operand.tmp 52), type := 3, pos := "law.go:196", after := #[{ on := 10, ground := Go.Ground.data }, { on := 2, ground := Go.Ground.guard }], guard := some (2, false) }) rfl (fun K hK => ?_) AllReadyH.nil
            go_simp
            skip
            refine hK.out _ _ ?_ (fun hHeld => ?_)
            · first | exact HN.out _ HI.out.drew.bel | exact HN.out _ (HI.out.drew.alloc _).bel | exact HN.out _ (HI.out.alloc _).bel | exact HN.out _ (HI.out.alloc _).drew.bel
            clear hK K
            try simp only [Act.put, List.setIfInBounds_toArray, List.set_cons_zero, List.set_cons_succ]
            refine wpAnyH_take (i := 12) (oi := { dst := some 54, op := Go.Op.binOp Go.BinOp.mul 3 (Go.Operand.const (Go.Value.int Go.IntKind.i64 8)) (Go.Operand.tmp 53) 3, type := 3, pos := "law.go:196", after := #[{ on := 11, ground := Go.Ground.data }, { on := 2, ground := Go.Ground.guard }], guard := some (2, false) }) (v := ?_) rfl (by kernel_rfl) (by kernel_rfl) (by kernel_rfl) (fun _ _ _ h => h) (Or.inl ⟨by rfl, ?_⟩) (by assumption) ?_
            rotate_left
            · intro wS hSw
              try dsimp only at hSw
              go_split_ands
              go_simp
              try with_reducible rfl
            try simp only [Act.put, List.setIfInBounds_toArray, List.set_cons_zero, List.set_cons_succ]
            refine wpAnyH_take (i := 13) (oi := { dst := some 55, op := Go.Op.binOp Go.BinOp.shr 32 (Go.Operand.tmp 49) (Go.Operand.tmp 54) 3, type := 32, pos := "law.go:196", after := #[{ on := 7, ground := Go.Ground.data }, { on := 12, ground := Go.Ground.data }, { on := 2, ground := Go.Ground.guard }], guard := some (2, false) }) (v := ?_) rfl (by kernel_rfl) (by kernel_rfl) (by kernel_rfl) (fun _ _ _ h => h) (Or.inl ⟨by rfl, ?_⟩) (by assumption) ?_
            rotate_left
            · intro wS hSw
              try dsimp only at hSw
              go_split_ands
              go_simp
              try with_reducible rfl
            try simp only [Act.put, List.setIfInBounds_toArray, List.set_cons_zero, List.set_cons_succ]
            refine wpAnyH_take (i := 14) (oi := { dst := some 56, op := Go.Op.binOp Go.BinOp.eql 32 (Go.Operand.tmp 55) (Go.Operand.const (Go.Value.int Go.IntKind.u64 0)) 32, type := 4, pos := "law.go:196", after := #[{ on := 13, ground := Go.Ground.data }, { on := 2, ground := Go.Ground.guard }], guard := some (2, false) }) (v := ?_) rfl (by kernel_rfl) (by kernel_rfl) (by kernel_rfl) (fun _ _ _ h => h) (Or.inl ⟨by rfl, ?_⟩) (by assumption) ?_
            rotate_left
            · intro wS hSw
              try dsimp only at hSw
              go_split_ands
              go_simp
              try with_reducible rfl
            try simp only [Act.put, List.setIfInBounds_toArray, List.set_cons_zero, List.set_cons_succ]
            refine wpAnyH_take (i := 15) (oi := { dst := some 57, op := Go.Op.pick (Go.Operand.tmp 44) (Go.Operand.const (Go.Value.bool true)) (Go.Operand.tmp 56), type := 4, pos := "law.go:196", after := #[{ on := 2, ground := Go.Ground.data }, { on := 14, ground := Go.Ground.data }], guard := none }) (v := ?_) rfl (by kernel_rfl) (by kernel_rfl) (by kernel_rfl) (fun _ _ _ h => h) (Or.inl ⟨by rfl, ?_⟩) (by assumption) ?_
            rotate_left
            · intro wS hSw
              try dsimp only at hSw
              go_split_ands
              go_simp
              try with_reducible rfl
            try simp only [Act.put, List.setIfInBounds_toArray, List.set_cons_zero, List.set_cons_succ]
            refine wpAnyH_take (i := 16) (oi := { dst := some 11, op := Go.Op.assign (Go.Operand.tmp 57), type := 4, pos := "law.go:196", after := #[{ on := 15, ground := Go.Ground.data }, { on := 8, ground := Go.Ground.chain }, { on := 0, ground := Go.Ground.phase }, { on := 1, ground := Go.Ground.phase }, { on := 2, ground := Go.Ground.phase }, { on := 3, ground := Go.Ground.phase }, { on := 4, ground := Go.Ground.phase }, { on := 5, ground := Go.Ground.phase }, { on := 6, ground := Go.Ground.phase }, { on := 7, ground := Go.Ground.phase }, { on := 8, ground := Go.Ground.phase }, { on := 9, ground := Go.Ground.phase }, { on := 10, ground := Go.Ground.phase }, { on := 11, ground := Go.Ground.phase }, { on := 12, ground := Go.Ground.phase }, { on := 13, ground := Go.Ground.phase }, { on := 14, ground := Go.Ground.phase }, { on := 15, ground := Go.Ground.phase }], guard := none }) (v := ?_) rfl (by kernel_rfl) (by kernel_rfl) (by kernel_rfl) (fun _ _ _ h => h) (Or.inl ⟨by rfl, ?_⟩) (by assumption) ?_
            rotate_left
            · intro wS hSw
              try dsimp only at hSw
              go_split_ands
              go_simp
              try with_reducible rfl
            try simp only [Act.put, List.setIfInBounds_toArray, List.set_cons_zero, List.set_cons_succ]
            refine wpAnyH_done (by kernel_rfl) ?_ _
            go_wp2_with fail
            go_meet
            exact ⟨_, rfl, HT.out, (HI.out.alloc _).drew⟩
          · have hwr : IntKind.i64.wrap 24 = 24 := by decide
            have hsz : (nn / 16777216 == 0) = decide (nn < 256 ^ sz 2) := by
              rw [Bool.eq_iff_iff]
              simp [sz]
              omega
            obtain ⟨t, ht⟩ : ∃ t, decide (nn < 256 ^ sz 2) = t := ⟨_, rfl⟩
            have HT : Hid (t = true ↔ nn < 256 ^ sz 2) := Lib.hid (by rw [← ht]; exact decide_eq_true_iff)
            rw [ht] at hsz
            clear ht
            go_wp2_with fail
            refine wp_region_held_drew (S := (fun w' => w'.cell? ⟨b3, o3 + k * 4 + 2, none⟩ = some (.int .u64 nn) ∧ Below w.heap.size w w')) (by kernel_rfl) (by first | exact HN.out _ HI.out.drew.bel | exact HN.out _ HI.out.bel) (fun hHeld => ?_)
            refine wpAnyH_take (i := 0) (oi := { dst := some 42, op := Go.Op.move (Go.Operand.tmp 10), type := 3, pos := "law.go:196", after := #[], guard := none }) (v := ?_) rfl (by kernel_rfl) (by kernel_rfl) (by kernel_rfl) (fun _ _ _ h => h) (Or.inl ⟨by rfl, ?_⟩) (by assumption) ?_
            rotate_left
            · intro wS hSw
              try dsimp only at hSw
              go_split_ands
              go_simp
              try with_reducible rfl
            try simp only [Act.put, List.setIfInBounds_toArray, List.set_cons_zero, List.set_cons_succ]
            refine wpAnyH_take (i := 1) (oi := { dst := some 43, op := Go.Op.binOp Go.BinOp.eql 3 (Go.Operand.tmp 42) (Go.Operand.const (Go.Value.int Go.IntKind.i64 5)) 3, type := 4, pos := "law.go:196", after := #[{ on := 0, ground := Go.Ground.data }], guard := none }) (v := ?_) rfl (by kernel_rfl) (by kernel_rfl) (by kernel_rfl) (fun _ _ _ h => h) (Or.inl ⟨by rfl, ?_⟩) (by assumption) ?_
            rotate_left
            · intro wS hSw
              try dsimp only at hSw
              go_split_ands
              go_simp
              try with_reducible rfl
            try simp only [Act.put, List.setIfInBounds_toArray, List.set_cons_zero, List.set_cons_succ]
            refine wpAnyH_take (i := 2) (oi := { dst := some 44, op := Go.Op.move (Go.Operand.tmp 43), type := 4, pos := "law.go:196", after := #[{ on := 1, ground := Go.Ground.data }], guard := none }) (v := ?_) rfl (by kernel_rfl) (by kernel_rfl) (by kernel_rfl) (fun _ _ _ h => h) (Or.inl ⟨by rfl, ?_⟩) (by assumption) ?_
            rotate_left
            · intro wS hSw
              try dsimp only at hSw
              go_split_ands
              go_simp
              try with_reducible rfl
            try simp only [Act.put, List.setIfInBounds_toArray, List.set_cons_zero, List.set_cons_succ]
            refine wpAnyH_take (i := 3) (oi := { dst := some 45, op := Go.Op.move (Go.Operand.tmp 0), type := 22, pos := "law.go:196", after := #[{ on := 2, ground := Go.Ground.guard }], guard := some (2, false) }) (v := ?_) rfl (by kernel_rfl) (by kernel_rfl) (by kernel_rfl) (fun _ _ _ h => h) (Or.inl ⟨by rfl, ?_⟩) (by assumption) ?_
            rotate_left
            · intro wS hSw
              try dsimp only at hSw
              go_split_ands
              go_simp
              try with_reducible rfl
            try simp only [Act.put, List.setIfInBounds_toArray, List.set_cons_zero, List.set_cons_succ]
            refine wpAnyH_take (i := 4) (oi := { dst := some 46, op := Go.Op.move (Go.Operand.tmp 9), type := 3, pos := "law.go:196", after := #[{ on := 2, ground := Go.Ground.guard }], guard := some (2, false) }) (v := ?_) rfl (by kernel_rfl) (by kernel_rfl) (by kernel_rfl) (fun _ _ _ h => h) (Or.inl ⟨by rfl, ?_⟩) (by assumption) ?_
            rotate_left
            · intro wS hSw
              try dsimp only at hSw
              go_split_ands
              go_simp
              try with_reducible rfl
            try simp only [Act.put, List.setIfInBounds_toArray, List.set_cons_zero, List.set_cons_succ]
            refine wpAnyH_take (i := 5) (oi := { dst := some 47, op := Go.Op.indexAddr 22 (Go.Operand.tmp 45) (Go.Operand.tmp 46), type := 0, pos := "law.go:196", after := #[{ on := 3, ground := Go.Ground.data }, { on := 4, ground := Go.Ground.data }, { on := 2, ground := Go.Ground.guard }], guard := some (2, false) }) (v := ?_) rfl (by kernel_rfl) (by kernel_rfl) (by kernel_rfl) (fun _ _ _ h => h) (Or.inl ⟨by rfl, ?_⟩) (by assumption) ?_
            rotate_left
            · intro wS hSw
              try dsimp only at hSw
              go_split_ands
              go_simp
              try with_reducible rfl
            try simp only [Act.put, List.setIfInBounds_toArray, List.set_cons_zero, List.set_cons_succ]
            refine wpAnyH_take (i := 6) (oi := { dst := some 48, op := Go.Op.fieldAddr 35 (Go.Operand.tmp 47) 2, type := 0, pos := "law.go:196", after := #[{ on := 5, ground := Go.Ground.data }, { on := 2, ground := Go.Ground.guard }], guard := some (2, false) }) (v := ?_) rfl (by kernel_rfl) (by kernel_rfl) (by kernel_rfl) (fun _ _ _ h => h) (Or.inl ⟨by rfl, ?_⟩) (by assumption) ?_
            rotate_left
            · intro wS hSw
              try dsimp only at hSw
              go_split_ands
              go_simp
              try with_reducible rfl
            try simp only [Act.put, List.setIfInBounds_toArray, List.set_cons_zero, List.set_cons_succ]
            refine wpAnyH_take (i := 7) (oi := { dst := some 49, op := Go.Op.load 32 (Go.Operand.tmp 48), type := 32, pos := "law.go:196", after := #[{ on := 6, ground := Go.Ground.data }, { on := 2, ground := Go.Ground.guard }], guard := some (2, false) }) (v := ?_) rfl (by kernel_rfl) (by kernel_rfl) (by kernel_rfl) (fun _ _ _ h => h) (Or.inl ⟨by rfl, ?_⟩) (by assumption) ?_
            rotate_left
            · intro wS hSw
              try dsimp only at hSw
              go_split_ands
              go_simp
              try with_reducible rfl
            try simp only [Act.put, List.setIfInBounds_toArray, List.set_cons_zero, List.set_cons_succ]
            refine wpAnyH_take (i := 9) (oi := { dst := some 51, op := Go.Op.move (Go.Operand.tmp 10), type := 3, pos := "law.go:196", after := #[{ on := 2, ground := Go.Ground.guard }], guard := some (2, false) }) (v := ?_) rfl (by kernel_rfl) (by kernel_rfl) (by kernel_rfl) (fun _ _ _ h => h) (Or.inl ⟨by rfl, ?_⟩) (by assumption) ?_
            rotate_left
            · intro wS hSw
              try dsimp only at hSw
              go_split_ands
              go_simp
              try with_reducible rfl
            try simp only [Act.put, List.setIfInBounds_toArray, List.set_cons_zero, List.set_cons_succ]
            refine wpAnyH_ready (rs := [8]) (by kernel_rfl) (by simp) ?_
            refine AllReadyH.cons (o := { dst := some 50, op := Go.Op.call { callee := Go.Callee.value (Go.Operand.func 12), args := #[], argTypes := #[] }, type := 39, pos := "law.go:196", after := #[{ on := 2, ground := Go.Ground.chain }, { on := 2, ground := Go.Ground.guard }], guard := some (2, false) }) rfl (fun K hK => ?_) AllReadyH.nil
            go_simp
            refine (sizes_any _).mono ?_
            rintro en w9 ⟨rfl, rfl⟩
            try go_simp
            refine hK.out _ _ ?_ (fun hHeld => ?_)
            · first | exact HN.out _ HI.out.drew.bel | exact HN.out _ (HI.out.drew.alloc _).bel | exact HN.out _ (HI.out.alloc _).bel | exact HN.out _ (HI.out.alloc _).drew.bel
            clear hK K
            try simp only [Act.put, List.setIfInBounds_toArray, List.set_cons_zero, List.set_cons_succ]
            refine wpAnyH_take (i := 10) (oi := { dst := some 52, op := Go.Op.indexAddr 39 (Go.Operand.tmp 50) (Go.Operand.tmp 51), type := 0, pos := "law.go:196", after := #[{ on := 8, ground := Go.Ground.data }, { on := 9, ground := Go.Ground.data }, { on := 2, ground := Go.Ground.guard }], guard := some (2, false) }) (v := ?_) rfl (by kernel_rfl) (by kernel_rfl) (by kernel_rfl) (fun _ _ _ h => h) (Or.inl ⟨by rfl, ?_⟩) (by assumption) ?_
            rotate_left
            · intro wS hSw
              try dsimp only at hSw
              go_split_ands
              go_simp
              try with_reducible rfl
            try simp only [Act.put, List.setIfInBounds_toArray, List.set_cons_zero, List.set_cons_succ]
            refine wpAnyH_ready (rs := [11]) (by kernel_rfl) (by simp) ?_
            refine AllReadyH.cons (o := { dst := some 53, op := Go.Op.load 3 (Go.Operand.tmp 52), type := 3, pos := "law.go:196", after := #[{ on := 10, ground := Go.Ground.data }, { on := 2, ground := Go.Ground.guard }], guard := some (2, false) }) rfl (fun K hK => ?_) AllReadyH.nil
            go_simp
            skip
            refine hK.out _ _ ?_ (fun hHeld => ?_)
            · first | exact HN.out _ HI.out.drew.bel | exact HN.out _ (HI.out.drew.alloc _).bel | exact HN.out _ (HI.out.alloc _).bel | exact HN.out _ (HI.out.alloc _).drew.bel
            clear hK K
            try simp only [Act.put, List.setIfInBounds_toArray, List.set_cons_zero, List.set_cons_succ]
            refine wpAnyH_take (i := 12) (oi := { dst := some 54, op := Go.Op.binOp Go.BinOp.mul 3 (Go.Operand.const (Go.Value.int Go.IntKind.i64 8)) (Go.Operand.tmp 53) 3, type := 3, pos := "law.go:196", after := #[{ on := 11, ground := Go.Ground.data }, { on := 2, ground := Go.Ground.guard }], guard := some (2, false) }) (v := ?_) rfl (by kernel_rfl) (by kernel_rfl) (by kernel_rfl) (fun _ _ _ h => h) (Or.inl ⟨by rfl, ?_⟩) (by assumption) ?_
            rotate_left
            · intro wS hSw
              try dsimp only at hSw
              go_split_ands
              go_simp
              try with_reducible rfl
            try simp only [Act.put, List.setIfInBounds_toArray, List.set_cons_zero, List.set_cons_succ]
            refine wpAnyH_take (i := 13) (oi := { dst := some 55, op := Go.Op.binOp Go.BinOp.shr 32 (Go.Operand.tmp 49) (Go.Operand.tmp 54) 3, type := 32, pos := "law.go:196", after := #[{ on := 7, ground := Go.Ground.data }, { on := 12, ground := Go.Ground.data }, { on := 2, ground := Go.Ground.guard }], guard := some (2, false) }) (v := ?_) rfl (by kernel_rfl) (by kernel_rfl) (by kernel_rfl) (fun _ _ _ h => h) (Or.inl ⟨by rfl, ?_⟩) (by assumption) ?_
            rotate_left
            · intro wS hSw
              try dsimp only at hSw
              go_split_ands
              go_simp
              try with_reducible rfl
            try simp only [Act.put, List.setIfInBounds_toArray, List.set_cons_zero, List.set_cons_succ]
            refine wpAnyH_take (i := 14) (oi := { dst := some 56, op := Go.Op.binOp Go.BinOp.eql 32 (Go.Operand.tmp 55) (Go.Operand.const (Go.Value.int Go.IntKind.u64 0)) 32, type := 4, pos := "law.go:196", after := #[{ on := 13, ground := Go.Ground.data }, { on := 2, ground := Go.Ground.guard }], guard := some (2, false) }) (v := ?_) rfl (by kernel_rfl) (by kernel_rfl) (by kernel_rfl) (fun _ _ _ h => h) (Or.inl ⟨by rfl, ?_⟩) (by assumption) ?_
            rotate_left
            · intro wS hSw
              try dsimp only at hSw
              go_split_ands
              go_simp
              try with_reducible rfl
            try simp only [Act.put, List.setIfInBounds_toArray, List.set_cons_zero, List.set_cons_succ]
            refine wpAnyH_take (i := 15) (oi := { dst := some 57, op := Go.Op.pick (Go.Operand.tmp 44) (Go.Operand.const (Go.Value.bool true)) (Go.Operand.tmp 56), type := 4, pos := "law.go:196", after := #[{ on := 2, ground := Go.Ground.data }, { on := 14, ground := Go.Ground.data }], guard := none }) (v := ?_) rfl (by kernel_rfl) (by kernel_rfl) (by kernel_rfl) (fun _ _ _ h => h) (Or.inl ⟨by rfl, ?_⟩) (by assumption) ?_
            rotate_left
            · intro wS hSw
              try dsimp only at hSw
              go_split_ands
              go_simp
              try with_reducible rfl
            try simp only [Act.put, List.setIfInBounds_toArray, List.set_cons_zero, List.set_cons_succ]
            refine wpAnyH_take (i := 16) (oi := { dst := some 11, op := Go.Op.assign (Go.Operand.tmp 57), type := 4, pos := "law.go:196", after := #[{ on := 15, ground := Go.Ground.data }, { on := 8, ground := Go.Ground.chain }, { on := 0, ground := Go.Ground.phase }, { on := 1, ground := Go.Ground.phase }, { on := 2, ground := Go.Ground.phase }, { on := 3, ground := Go.Ground.phase }, { on := 4, ground := Go.Ground.phase }, { on := 5, ground := Go.Ground.phase }, { on := 6, ground := Go.Ground.phase }, { on := 7, ground := Go.Ground.phase }, { on := 8, ground := Go.Ground.phase }, { on := 9, ground := Go.Ground.phase }, { on := 10, ground := Go.Ground.phase }, { on := 11, ground := Go.Ground.phase }, { on := 12, ground := Go.Ground.phase }, { on := 13, ground := Go.Ground.phase }, { on := 14, ground := Go.Ground.phase }, { on := 15, ground := Go.Ground.phase }], guard := none }) (v := ?_) rfl (by kernel_rfl) (by kernel_rfl) (by kernel_rfl) (fun _ _ _ h => h) (Or.inl ⟨by rfl, ?_⟩) (by assumption) ?_
            rotate_left
            · intro wS hSw
              try dsimp only at hSw
              go_split_ands
              go_simp
              try with_reducible rfl
            try simp only [Act.put, List.setIfInBounds_toArray, List.set_cons_zero, List.set_cons_succ]
            refine wpAnyH_done (by kernel_rfl) ?_ _
            go_wp2_with fail
            go_meet
            exact ⟨_, rfl, HT.out, (HI.out.alloc _).drew⟩
          · have hwr : IntKind.i64.wrap 32 = 32 := by decide
            have hsz : (nn / 4294967296 == 0) = decide (nn < 256 ^ sz 3) := by
              rw [Bool.eq_iff_iff]
              simp [sz]
              omega
            obtain ⟨t, ht⟩ : ∃ t, decide (nn < 256 ^ sz 3) = t := ⟨_, rfl⟩
            have HT : Hid (t = true ↔ nn < 256 ^ sz 3) := Lib.hid (by rw [← ht]; exact decide_eq_true_iff)
            rw [ht] at hsz
            clear ht
            go_wp2_with fail
            refine wp_region_held_drew (S := (fun w' => w'.cell? ⟨b3, o3 + k * 4 + 2, none⟩ = some (.int .u64 nn) ∧ Below w.heap.size w w')) (by kernel_rfl) (by first | exact HN.out _ HI.out.drew.bel | exact HN.out _ HI.out.bel) (fun hHeld => ?_)
            refine wpAnyH_take (i := 0) (oi := { dst := some 42, op := Go.Op.move (Go.Operand.tmp 10), type := 3, pos := "law.go:196", after := #[], guard := none }) (v := ?_) rfl (by kernel_rfl) (by kernel_rfl) (by kernel_rfl) (fun _ _ _ h => h) (Or.inl ⟨by rfl, ?_⟩) (by assumption) ?_
            rotate_left
            · intro wS hSw
              try dsimp only at hSw
              go_split_ands
              go_simp
              try with_reducible rfl
            try simp only [Act.put, List.setIfInBounds_toArray, List.set_cons_zero, List.set_cons_succ]
            refine wpAnyH_take (i := 1) (oi := { dst := some 43, op := Go.Op.binOp Go.BinOp.eql 3 (Go.Operand.tmp 42) (Go.Operand.const (Go.Value.int Go.IntKind.i64 5)) 3, type := 4, pos := "law.go:196", after := #[{ on := 0, ground := Go.Ground.data }], guard := none }) (v := ?_) rfl (by kernel_rfl) (by kernel_rfl) (by kernel_rfl) (fun _ _ _ h => h) (Or.inl ⟨by rfl, ?_⟩) (by assumption) ?_
            rotate_left
            · intro wS hSw
              try dsimp only at hSw
              go_split_ands
              go_simp
              try with_reducible rfl
            try simp only [Act.put, List.setIfInBounds_toArray, List.set_cons_zero, List.set_cons_succ]
            refine wpAnyH_take (i := 2) (oi := { dst := some 44, op := Go.Op.move (Go.Operand.tmp 43), type := 4, pos := "law.go:196", after := #[{ on := 1, ground := Go.Ground.data }], guard := none }) (v := ?_) rfl (by kernel_rfl) (by kernel_rfl) (by kernel_rfl) (fun _ _ _ h => h) (Or.inl ⟨by rfl, ?_⟩) (by assumption) ?_
            rotate_left
            · intro wS hSw
              try dsimp only at hSw
              go_split_ands
              go_simp
              try with_reducible rfl
            try simp only [Act.put, List.setIfInBounds_toArray, List.set_cons_zero, List.set_cons_succ]
            refine wpAnyH_take (i := 3) (oi := { dst := some 45, op := Go.Op.move (Go.Operand.tmp 0), type := 22, pos := "law.go:196", after := #[{ on := 2, ground := Go.Ground.guard }], guard := some (2, false) }) (v := ?_) rfl (by kernel_rfl) (by kernel_rfl) (by kernel_rfl) (fun _ _ _ h => h) (Or.inl ⟨by rfl, ?_⟩) (by assumption) ?_
            rotate_left
            · intro wS hSw
              try dsimp only at hSw
              go_split_ands
              go_simp
              try with_reducible rfl
            try simp only [Act.put, List.setIfInBounds_toArray, List.set_cons_zero, List.set_cons_succ]
            refine wpAnyH_take (i := 4) (oi := { dst := some 46, op := Go.Op.move (Go.Operand.tmp 9), type := 3, pos := "law.go:196", after := #[{ on := 2, ground := Go.Ground.guard }], guard := some (2, false) }) (v := ?_) rfl (by kernel_rfl) (by kernel_rfl) (by kernel_rfl) (fun _ _ _ h => h) (Or.inl ⟨by rfl, ?_⟩) (by assumption) ?_
            rotate_left
            · intro wS hSw
              try dsimp only at hSw
              go_split_ands
              go_simp
              try with_reducible rfl
            try simp only [Act.put, List.setIfInBounds_toArray, List.set_cons_zero, List.set_cons_succ]
            refine wpAnyH_take (i := 5) (oi := { dst := some 47, op := Go.Op.indexAddr 22 (Go.Operand.tmp 45) (Go.Operand.tmp 46), type := 0, pos := "law.go:196", after := #[{ on := 3, ground := Go.Ground.data }, { on := 4, ground := Go.Ground.data }, { on := 2, ground := Go.Ground.guard }], guard := some (2, false) }) (v := ?_) rfl (by kernel_rfl) (by kernel_rfl) (by kernel_rfl) (fun _ _ _ h => h) (Or.inl ⟨by rfl, ?_⟩) (by assumption) ?_
            rotate_left
            · intro wS hSw
              try dsimp only at hSw
              go_split_ands
              go_simp
              try with_reducible rfl
            try simp only [Act.put, List.setIfInBounds_toArray, List.set_cons_zero, List.set_cons_succ]
            refine wpAnyH_take (i := 6) (oi := { dst := some 48, op := Go.Op.fieldAddr 35 (Go.Operand.tmp 47) 2, type := 0, pos := "law.go:196", after := #[{ on := 5, ground := Go.Ground.data }, { on := 2, ground := Go.Ground.guard }], guard := some (2, false) }) (v := ?_) rfl (by kernel_rfl) (by kernel_rfl) (by kernel_rfl) (fun _ _ _ h => h) (Or.inl ⟨by rfl, ?_⟩) (by assumption) ?_
            rotate_left
            · intro wS hSw
              try dsimp only at hSw
              go_split_ands
              go_simp
              try with_reducible rfl
            try simp only [Act.put, List.setIfInBounds_toArray, List.set_cons_zero, List.set_cons_succ]
            refine wpAnyH_take (i := 7) (oi := { dst := some 49, op := Go.Op.load 32 (Go.Operand.tmp 48), type := 32, pos := "law.go:196", after := #[{ on := 6, ground := Go.Ground.data }, { on := 2, ground := Go.Ground.guard }], guard := some (2, false) }) (v := ?_) rfl (by kernel_rfl) (by kernel_rfl) (by kernel_rfl) (fun _ _ _ h => h) (Or.inl ⟨by rfl, ?_⟩) (by assumption) ?_
            rotate_left
            · intro wS hSw
              try dsimp only at hSw
              go_split_ands
              go_simp
              try with_reducible rfl
            try simp only [Act.put, List.setIfInBounds_toArray, List.set_cons_zero, List.set_cons_succ]
            refine wpAnyH_take (i := 9) (oi := { dst := some 51, op := Go.Op.move (Go.Operand.tmp 10), type := 3, pos := "law.go:196", after := #[{ on := 2, ground := Go.Ground.guard }], guard := some (2, false) }) (v := ?_) rfl (by kernel_rfl) (by kernel_rfl) (by kernel_rfl) (fun _ _ _ h => h) (Or.inl ⟨by rfl, ?_⟩) (by assumption) ?_
            rotate_left
            · intro wS hSw
              try dsimp only at hSw
              go_split_ands
              go_simp
              try with_reducible rfl
            try simp only [Act.put, List.setIfInBounds_toArray, List.set_cons_zero, List.set_cons_succ]
            refine wpAnyH_ready (rs := [8]) (by kernel_rfl) (by simp) ?_
            refine AllReadyH.cons (o := { dst := some 50, op := Go.Op.call { callee := Go.Callee.value (Go.Operand.func 12), args := #[], argTypes := #[] }, type := 39, pos := "law.go:196", after := #[{ on := 2, ground := Go.Ground.chain }, { on := 2, ground := Go.Ground.guard }], guard := some (2, false) }) rfl (fun K hK => ?_) AllReadyH.nil
            go_simp
            refine (sizes_any _).mono ?_
            rintro en w9 ⟨rfl, rfl⟩
            try go_simp
            refine hK.out _ _ ?_ (fun hHeld => ?_)
            · first | exact HN.out _ HI.out.drew.bel | exact HN.out _ (HI.out.drew.alloc _).bel | exact HN.out _ (HI.out.alloc _).bel | exact HN.out _ (HI.out.alloc _).drew.bel
            clear hK K
            try simp only [Act.put, List.setIfInBounds_toArray, List.set_cons_zero, List.set_cons_succ]
            refine wpAnyH_take (i := 10) (oi := { dst := some 52, op := Go.Op.indexAddr 39 (Go.Operand.tmp 50) (Go.Operand.tmp 51), type := 0, pos := "law.go:196", after := #[{ on := 8, ground := Go.Ground.data }, { on := 9, ground := Go.Ground.data }, { on := 2, ground := Go.Ground.guard }], guard := some (2, false) }) (v := ?_) rfl (by kernel_rfl) (by kernel_rfl) (by kernel_rfl) (fun _ _ _ h => h) (Or.inl ⟨by rfl, ?_⟩) (by assumption) ?_
            rotate_left
            · intro wS hSw
              try dsimp only at hSw
              go_split_ands
              go_simp
              try with_reducible rfl
            try simp only [Act.put, List.setIfInBounds_toArray, List.set_cons_zero, List.set_cons_succ]
            refine wpAnyH_ready (rs := [11]) (by kernel_rfl) (by simp) ?_
            refine AllReadyH.cons (o := { dst := some 53, op := Go.Op.load 3 (Go.Operand.tmp 52), type := 3, pos := "law.go:196", after := #[{ on := 10, ground := Go.Ground.data }, { on := 2, ground := Go.Ground.guard }], guard := some (2, false) }) rfl (fun K hK => ?_) AllReadyH.nil
            go_simp
            skip
            refine hK.out _ _ ?_ (fun hHeld => ?_)
            · first | exact HN.out _ HI.out.drew.bel | exact HN.out _ (HI.out.drew.alloc _).bel | exact HN.out _ (HI.out.alloc _).bel | exact HN.out _ (HI.out.alloc _).drew.bel
            clear hK K
            try simp only [Act.put, List.setIfInBounds_toArray, List.set_cons_zero, List.set_cons_succ]
            refine wpAnyH_take (i := 12) (oi := { dst := some 54, op := Go.Op.binOp Go.BinOp.mul 3 (Go.Operand.const (Go.Value.int Go.IntKind.i64 8)) (Go.Operand.tmp 53) 3, type := 3, pos := "law.go:196", after := #[{ on := 11, ground := Go.Ground.data }, { on := 2, ground := Go.Ground.guard }], guard := some (2, false) }) (v := ?_) rfl (by kernel_rfl) (by kernel_rfl) (by kernel_rfl) (fun _ _ _ h => h) (Or.inl ⟨by rfl, ?_⟩) (by assumption) ?_
            rotate_left
            · intro wS hSw
              try dsimp only at hSw
              go_split_ands
              go_simp
              try with_reducible rfl
            try simp only [Act.put, List.setIfInBounds_toArray, List.set_cons_zero, List.set_cons_succ]
            refine wpAnyH_take (i := 13) (oi := { dst := some 55, op := Go.Op.binOp Go.BinOp.shr 32 (Go.Operand.tmp 49) (Go.Operand.tmp 54) 3, type := 32, pos := "law.go:196", after := #[{ on := 7, ground := Go.Ground.data }, { on := 12, ground := Go.Ground.data }, { on := 2, ground := Go.Ground.guard }], guard := some (2, false) }) (v := ?_) rfl (by kernel_rfl) (by kernel_rfl) (by kernel_rfl) (fun _ _ _ h => h) (Or.inl ⟨by rfl, ?_⟩) (by assumption) ?_
            rotate_left
            · intro wS hSw
              try dsimp only at hSw
              go_split_ands
              go_simp
              try with_reducible rfl
            try simp only [Act.put, List.setIfInBounds_toArray, List.set_cons_zero, List.set_cons_succ]
            refine wpAnyH_take (i := 14) (oi := { dst := some 56, op := Go.Op.binOp Go.BinOp.eql 32 (Go.Operand.tmp 55) (Go.Operand.const (Go.Value.int Go.IntKind.u64 0)) 32, type := 4, pos := "law.go:196", after := #[{ on := 13, ground := Go.Ground.data }, { on := 2, ground := Go.Ground.guard }], guard := some (2, false) }) (v := ?_) rfl (by kernel_rfl) (by kernel_rfl) (by kernel_rfl) (fun _ _ _ h => h) (Or.inl ⟨by rfl, ?_⟩) (by assumption) ?_
            rotate_left
            · intro wS hSw
              try dsimp only at hSw
              go_split_ands
              go_simp
              try with_reducible rfl
            try simp only [Act.put, List.setIfInBounds_toArray, List.set_cons_zero, List.set_cons_succ]
            refine wpAnyH_take (i := 15) (oi := { dst := some 57, op := Go.Op.pick (Go.Operand.tmp 44) (Go.Operand.const (Go.Value.bool true)) (Go.Operand.tmp 56), type := 4, pos := "law.go:196", after := #[{ on := 2, ground := Go.Ground.data }, { on := 14, ground := Go.Ground.data }], guard := none }) (v := ?_) rfl (by kernel_rfl) (by kernel_rfl) (by kernel_rfl) (fun _ _ _ h => h) (Or.inl ⟨by rfl, ?_⟩) (by assumption) ?_
            rotate_left
            · intro wS hSw
              try dsimp only at hSw
              go_split_ands
              go_simp
              try with_reducible rfl
            try simp only [Act.put, List.setIfInBounds_toArray, List.set_cons_zero, List.set_cons_succ]
            refine wpAnyH_take (i := 16) (oi := { dst := some 11, op := Go.Op.assign (Go.Operand.tmp 57), type := 4, pos := "law.go:196", after := #[{ on := 15, ground := Go.Ground.data }, { on := 8, ground := Go.Ground.chain }, { on := 0, ground := Go.Ground.phase }, { on := 1, ground := Go.Ground.phase }, { on := 2, ground := Go.Ground.phase }, { on := 3, ground := Go.Ground.phase }, { on := 4, ground := Go.Ground.phase }, { on := 5, ground := Go.Ground.phase }, { on := 6, ground := Go.Ground.phase }, { on := 7, ground := Go.Ground.phase }, { on := 8, ground := Go.Ground.phase }, { on := 9, ground := Go.Ground.phase }, { on := 10, ground := Go.Ground.phase }, { on := 11, ground := Go.Ground.phase }, { on := 12, ground := Go.Ground.phase }, { on := 13, ground := Go.Ground.phase }, { on := 14, ground := Go.Ground.phase }, { on := 15, ground := Go.Ground.phase }], guard := none }) (v := ?_) rfl (by kernel_rfl) (by kernel_rfl) (by kernel_rfl) (fun _ _ _ h => h) (Or.inl ⟨by rfl, ?_⟩) (by assumption) ?_
            rotate_left
            · intro wS hSw
              try dsimp only at hSw
              go_split_ands
              go_simp
              try with_reducible rfl
            try simp only [Act.put, List.setIfInBounds_toArray, List.set_cons_zero, List.set_cons_succ]
            refine wpAnyH_done (by kernel_rfl) ?_ _
            go_wp2_with fail
            go_meet
            exact ⟨_, rfl, HT.out, (HI.out.alloc _).drew⟩
          · have hwr : IntKind.i64.wrap 48 = 48 := by decide
            have hsz : (nn / 281474976710656 == 0) = decide (nn < 256 ^ sz 4) := by
              rw [Bool.eq_iff_iff]
              simp [sz]
              omega
            obtain ⟨t, ht⟩ : ∃ t, decide (nn < 256 ^ sz 4) = t := ⟨_, rfl⟩
            have HT : Hid (t = true ↔ nn < 256 ^ sz 4) := Lib.hid (by rw [← ht]; exact decide_eq_true_iff)
            rw [ht] at hsz
            clear ht
            go_wp2_with fail
            refine wp_region_held_drew (S := (fun w' => w'.cell? ⟨b3, o3 + k * 4 + 2, none⟩ = some (.int .u64 nn) ∧ Below w.heap.size w w')) (by kernel_rfl) (by first | exact HN.out _ HI.out.drew.bel | exact HN.out _ HI.out.bel) (fun hHeld => ?_)
            refine wpAnyH_take (i := 0) (oi := { dst := some 42, op := Go.Op.move (Go.Operand.tmp 10), type := 3, pos := "law.go:196", after := #[], guard := none }) (v := ?_) rfl (by kernel_rfl) (by kernel_rfl) (by kernel_rfl) (fun _ _ _ h => h) (Or.inl ⟨by rfl, ?_⟩) (by assumption) ?_
            rotate_left
            · intro wS hSw
              try dsimp only at hSw
              go_split_ands
              go_simp
              try with_reducible rfl
            try simp only [Act.put, List.setIfInBounds_toArray, List.set_cons_zero, List.set_cons_succ]
            refine wpAnyH_take (i := 1) (oi := { dst := some 43, op := Go.Op.binOp Go.BinOp.eql 3 (Go.Operand.tmp 42) (Go.Operand.const (Go.Value.int Go.IntKind.i64 5)) 3, type := 4, pos := "law.go:196", after := #[{ on := 0, ground := Go.Ground.data }], guard := none }) (v := ?_) rfl (by kernel_rfl) (by kernel_rfl) (by kernel_rfl) (fun _ _ _ h => h) (Or.inl ⟨by rfl, ?_⟩) (by assumption) ?_
            rotate_left
            · intro wS hSw
              try dsimp only at hSw
              go_split_ands
              go_simp
              try with_reducible rfl
            try simp only [Act.put, List.setIfInBounds_toArray, List.set_cons_zero, List.set_cons_succ]
            refine wpAnyH_take (i := 2) (oi := { dst := some 44, op := Go.Op.move (Go.Operand.tmp 43), type := 4, pos := "law.go:196", after := #[{ on := 1, ground := Go.Ground.data }], guard := none }) (v := ?_) rfl (by kernel_rfl) (by kernel_rfl) (by kernel_rfl) (fun _ _ _ h => h) (Or.inl ⟨by rfl, ?_⟩) (by assumption) ?_
            rotate_left
            · intro wS hSw
              try dsimp only at hSw
              go_split_ands
              go_simp
              try with_reducible rfl
            try simp only [Act.put, List.setIfInBounds_toArray, List.set_cons_zero, List.set_cons_succ]
            refine wpAnyH_take (i := 3) (oi := { dst := some 45, op := Go.Op.move (Go.Operand.tmp 0), type := 22, pos := "law.go:196", after := #[{ on := 2, ground := Go.Ground.guard }], guard := some (2, false) }) (v := ?_) rfl (by kernel_rfl) (by kernel_rfl) (by kernel_rfl) (fun _ _ _ h => h) (Or.inl ⟨by rfl, ?_⟩) (by assumption) ?_
            rotate_left
            · intro wS hSw
              try dsimp only at hSw
              go_split_ands
              go_simp
              try with_reducible rfl
            try simp only [Act.put, List.setIfInBounds_toArray, List.set_cons_zero, List.set_cons_succ]
            refine wpAnyH_take (i := 4) (oi := { dst := some 46, op := Go.Op.move (Go.Operand.tmp 9), type := 3, pos := "law.go:196", after := #[{ on := 2, ground := Go.Ground.guard }], guard := some (2, false) }) (v := ?_) rfl (by kernel_rfl) (by kernel_rfl) (by kernel_rfl) (fun _ _ _ h => h) (Or.inl ⟨by rfl, ?_⟩) (by assumption) ?_
            rotate_left
            · intro wS hSw
              try dsimp only at hSw
              go_split_ands
              go_simp
              try with_reducible rfl
            try simp only [Act.put, List.setIfInBounds_toArray, List.set_cons_zero, List.set_cons_succ]
            refine wpAnyH_take (i := 5) (oi := { dst := some 47, op := Go.Op.indexAddr 22 (Go.Operand.tmp 45) (Go.Operand.tmp 46), type := 0, pos := "law.go:196", after := #[{ on := 3, ground := Go.Ground.data }, { on := 4, ground := Go.Ground.data }, { on := 2, ground := Go.Ground.guard }], guard := some (2, false) }) (v := ?_) rfl (by kernel_rfl) (by kernel_rfl) (by kernel_rfl) (fun _ _ _ h => h) (Or.inl ⟨by rfl, ?_⟩) (by assumption) ?_
            rotate_left
            · intro wS hSw
              try dsimp only at hSw
              go_split_ands
              go_simp
              try with_reducible rfl
            try simp only [Act.put, List.setIfInBounds_toArray, List.set_cons_zero, List.set_cons_succ]
            refine wpAnyH_take (i := 6) (oi := { dst := some 48, op := Go.Op.fieldAddr 35 (Go.Operand.tmp 47) 2, type := 0, pos := "law.go:196", after := #[{ on := 5, ground := Go.Ground.data }, { on := 2, ground := Go.Ground.guard }], guard := some (2, false) }) (v := ?_) rfl (by kernel_rfl) (by kernel_rfl) (by kernel_rfl) (fun _ _ _ h => h) (Or.inl ⟨by rfl, ?_⟩) (by assumption) ?_
            rotate_left
            · intro wS hSw
              try dsimp only at hSw
              go_split_ands
              go_simp
              try with_reducible rfl
            try simp only [Act.put, List.setIfInBounds_toArray, List.set_cons_zero, List.set_cons_succ]
            refine wpAnyH_take (i := 7) (oi := { dst := some 49, op := Go.Op.load 32 (Go.Operand.tmp 48), type := 32, pos := "law.go:196", after := #[{ on := 6, ground := Go.Ground.data }, { on := 2, ground := Go.Ground.guard }], guard := some (2, false) }) (v := ?_) rfl (by kernel_rfl) (by kernel_rfl) (by kernel_rfl) (fun _ _ _ h => h) (Or.inl ⟨by rfl, ?_⟩) (by assumption) ?_
            rotate_left
            · intro wS hSw
              try dsimp only at hSw
              go_split_ands
              go_simp
              try with_reducible rfl
            try simp only [Act.put, List.setIfInBounds_toArray, List.set_cons_zero, List.set_cons_succ]
            refine wpAnyH_take (i := 9) (oi := { dst := some 51, op := Go.Op.move (Go.Operand.tmp 10), type := 3, pos := "law.go:196", after := #[{ on := 2, ground := Go.Ground.guard }], guard := some (2, false) }) (v := ?_) rfl (by kernel_rfl) (by kernel_rfl) (by kernel_rfl) (fun _ _ _ h => h) (Or.inl ⟨by rfl, ?_⟩) (by assumption) ?_
            rotate_left
            · intro wS hSw
              try dsimp only at hSw
              go_split_ands
              go_simp
              try with_reducible rfl
            try simp only [Act.put, List.setIfInBounds_toArray, List.set_cons_zero, List.set_cons_succ]
            refine wpAnyH_ready (rs := [8]) (by kernel_rfl) (by simp) ?_
            refine AllReadyH.cons (o := { dst := some 50, op := Go.Op.call { callee := Go.Callee.value (Go.Operand.func 12), args := #[], argTypes := #[] }, type := 39, pos := "law.go:196", after := #[{ on := 2, ground := Go.Ground.chain }, { on := 2, ground := Go.Ground.guard }], guard := some (2, false) }) rfl (fun K hK => ?_) AllReadyH.nil
            go_simp
            refine (sizes_any _).mono ?_
            rintro en w9 ⟨rfl, rfl⟩
            try go_simp
            refine hK.out _ _ ?_ (fun hHeld => ?_)
            · first | exact HN.out _ HI.out.drew.bel | exact HN.out _ (HI.out.drew.alloc _).bel | exact HN.out _ (HI.out.alloc _).bel | exact HN.out _ (HI.out.alloc _).drew.bel
            clear hK K
            try simp only [Act.put, List.setIfInBounds_toArray, List.set_cons_zero, List.set_cons_succ]
            refine wpAnyH_take (i := 10) (oi := { dst := some 52, op := Go.Op.indexAddr 39 (Go.Operand.tmp 50) (Go.Operand.tmp 51), type := 0, pos := "law.go:196", after := #[{ on := 8, ground := Go.Ground.data }, { on := 9, ground := Go.Ground.data }, { on := 2, ground := Go.Ground.guard }], guard := some (2, false) }) (v := ?_) rfl (by kernel_rfl) (by kernel_rfl) (by kernel_rfl) (fun _ _ _ h => h) (Or.inl ⟨by rfl, ?_⟩) (by assumption) ?_
            rotate_left
            · intro wS hSw
              try dsimp only at hSw
              go_split_ands
              go_simp
              try with_reducible rfl
            try simp only [Act.put, List.setIfInBounds_toArray, List.set_cons_zero, List.set_cons_succ]
            refine wpAnyH_ready (rs := [11]) (by kernel_rfl) (by simp) ?_
            refine AllReadyH.cons (o := { dst := some 53, op := Go.Op.load 3 (Go.Operand.tmp 52), type := 3, pos := "law.go:196", after := #[{ on := 10, ground := Go.Ground.data }, { on := 2, ground := Go.Ground.guard }], guard := some (2, false) }) rfl (fun K hK => ?_) AllReadyH.nil
            go_simp
            skip
            refine hK.out _ _ ?_ (fun hHeld => ?_)
            · first | exact HN.out _ HI.out.drew.bel | exact HN.out _ (HI.out.drew.alloc _).bel | exact HN.out _ (HI.out.alloc _).bel | exact HN.out _ (HI.out.alloc _).drew.bel
            clear hK K
            try simp only [Act.put, List.setIfInBounds_toArray, List.set_cons_zero, List.set_cons_succ]
            refine wpAnyH_take (i := 12) (oi := { dst := some 54, op := Go.Op.binOp Go.BinOp.mul 3 (Go.Operand.const (Go.Value.int Go.IntKind.i64 8)) (Go.Operand.tmp 53) 3, type := 3, pos := "law.go:196", after := #[{ on := 11, ground := Go.Ground.data }, { on := 2, ground := Go.Ground.guard }], guard := some (2, false) }) (v := ?_) rfl (by kernel_rfl) (by kernel_rfl) (by kernel_rfl) (fun _ _ _ h => h) (Or.inl ⟨by rfl, ?_⟩) (by assumption) ?_
            rotate_left
            · intro wS hSw
              try dsimp only at hSw
              go_split_ands
              go_simp
              try with_reducible rfl
            try simp only [Act.put, List.setIfInBounds_toArray, List.set_cons_zero, List.set_cons_succ]
            refine wpAnyH_take (i := 13) (oi := { dst := some 55, op := Go.Op.binOp Go.BinOp.shr 32 (Go.Operand.tmp 49) (Go.Operand.tmp 54) 3, type := 32, pos := "law.go:196", after := #[{ on := 7, ground := Go.Ground.data }, { on := 12, ground := Go.Ground.data }, { on := 2, ground := Go.Ground.guard }], guard := some (2, false) }) (v := ?_) rfl (by kernel_rfl) (by kernel_rfl) (by kernel_rfl) (fun _ _ _ h => h) (Or.inl ⟨by rfl, ?_⟩) (by assumption) ?_
            rotate_left
            · intro wS hSw
              try dsimp only at hSw
              go_split_ands
              go_simp
              try with_reducible rfl
            try simp only [Act.put, List.setIfInBounds_toArray, List.set_cons_zero, List.set_cons_succ]
            refine wpAnyH_take (i := 14) (oi := { dst := some 56, op := Go.Op.binOp Go.BinOp.eql 32 (Go.Operand.tmp 55) (Go.Operand.const (Go.Value.int Go.IntKind.u64 0)) 32, type := 4, pos := "law.go:196", after := #[{ on := 13, ground := Go.Ground.data }, { on := 2, ground := Go.Ground.guard }], guard := some (2, false) }) (v := ?_) rfl (by kernel_rfl) (by kernel_rfl) (by kernel_rfl) (fun _ _ _ h => h) (Or.inl ⟨by rfl, ?_⟩) (by assumption) ?_
            rotate_left
            · intro wS hSw
              try dsimp only at hSw
              go_split_ands
              go_simp
              try with_reducible rfl
            try simp only [Act.put, List.setIfInBounds_toArray, List.set_cons_zero, List.set_cons_succ]
            refine wpAnyH_take (i := 15) (oi := { dst := some 57, op := Go.Op.pick (Go.Operand.tmp 44) (Go.Operand.const (Go.Value.bool true)) (Go.Operand.tmp 56), type := 4, pos := "law.go:196", after := #[{ on := 2, ground := Go.Ground.data }, { on := 14, ground := Go.Ground.data }], guard := none }) (v := ?_) rfl (by kernel_rfl) (by kernel_rfl) (by kernel_rfl) (fun _ _ _ h => h) (Or.inl ⟨by rfl, ?_⟩) (by assumption) ?_
            rotate_left
            · intro wS hSw
              try dsimp only at hSw
              go_split_ands
              go_simp
              try with_reducible rfl
            try simp only [Act.put, List.setIfInBounds_toArray, List.set_cons_zero, List.set_cons_succ]
            refine wpAnyH_take (i := 16) (oi := { dst := some 11, op := Go.Op.assign (Go.Operand.tmp 57), type := 4, pos := "law.go:196", after := #[{ on := 15, ground := Go.Ground.data }, { on := 8, ground := Go.Ground.chain }, { on := 0, ground := Go.Ground.phase }, { on := 1, ground := Go.Ground.phase }, { on := 2, ground := Go.Ground.phase }, { on := 3, ground := Go.Ground.phase }, { on := 4, ground := Go.Ground.phase }, { on := 5, ground := Go.Ground.phase }, { on := 6, ground := Go.Ground.phase }, { on := 7, ground := Go.Ground.phase }, { on := 8, ground := Go.Ground.phase }, { on := 9, ground := Go.Ground.phase }, { on := 10, ground := Go.Ground.phase }, { on := 11, ground := Go.Ground.phase }, { on := 12, ground := Go.Ground.phase }, { on := 13, ground := Go.Ground.phase }, { on := 14, ground := Go.Ground.phase }, { on := 15, ground := Go.Ground.phase }], guard := none }) (v := ?_) rfl (by kernel_rfl) (by kernel_rfl) (by kernel_rfl) (fun _ _ _ h => h) (Or.inl ⟨by rfl, ?_⟩) (by assumption) ?_
            rotate_left
            · intro wS hSw
              try dsimp only at hSw
              go_split_ands
              go_simp
              try with_reducible rfl
            try simp only [Act.put, List.setIfInBounds_toArray, List.set_cons_zero, List.set_cons_succ]
            refine wpAnyH_done (by kernel_rfl) ?_ _
            go_wp2_with fail
            go_meet
            exact ⟨_, rfl, HT.out, (HI.out.alloc _).drew⟩
      case rest =>
        obtain ⟨t, rfl, ht, hbi⟩ := hcut
        have HI9 := Lib.hid hbi
        have hk2 := (HN.out _ hbi.bel).1
        clear hbi HI
        by_cases hf : nn < 256 ^ sz m
        · obtain rfl : t = true := ht.2 hf
          clear ht
          go_wp2_with fail
          refine (lawput g l (stw F) _ HI9.out.wr m hm6 nn hn0 hn1).mono ?_
          rw [stw_put F m nn hf (by omega)]
          rintro en w8 ⟨rfl, l', hw, hn⟩
          have HI8 := Lib.hid (HI9.out.put hw hn)
          have hk2 := (HN.out _ HI8.out.bel).1
          clear hw hn HI9
          have hfl : F.length + 1 ≤ 60 := by omega
          have H7 : Hid (∀ k, u7.ownBlock = some k → k < w8.heap.size) := Lib.hid fun k hk => (own_block HI8.out.r7 k hk).2.1
          obtain ⟨i7, hi7, hz7, hs7, hb7⟩ := info_parts info_int
          obtain ⟨i8, hi8, hz8, hs8, hb8⟩ := info_parts info_u64
          go_wp2_with fail
          go_region_held3 (fun w' => w'.cell? ⟨b3, o3 + k * 4 + 2, none⟩ = some (.int .u64 nn) ∧ Below w.heap.size w w')
            (first | exact HN.out _ HI8.out.drew.bel | exact HN.out _ (HI8.out.alloc _).drew.bel | exact HN.out _ ((HI8.out.alloc _).alloc _).drew.bel | exact HN.out _ B2.bel | exact HN.out _ B1.bel | exact HN.out _ (B1.alloc _).bel)
            (first
              | (refine step_append_lies _ rfl (.tmp 70) (.tmp 72) 39 rfl w.heap.size 3 i7 (.int .i64 0) 1 8 Try.underlying39 hi7 hz7 hs7 hb7 rfl (by decide) u7 F.length (F.map fun p => .int .i64 (p.1 : Int)) rfl ?_ ⟨w8.heap.size, 0, none⟩ 1 1 [.int .i64 (m : Int)] rfl rfl ?_ ?_ ?_ ?_ ?_ ?_ _ rfl ?_
                 · first | exact (HI8.out.alloc _).drew.r7 | exact ((HI8.out.alloc _).alloc _).drew.r7
                 · refine news_one ?_
                   go_simp
                 · simp [Value.oneCell']
                 · omega
                 · unfold maxLen; omega
                 · omega
                 · first | exact (HI8.out.alloc _).drew.bel.size | exact ((HI8.out.alloc _).alloc _).drew.bel.size
                 intro g1 c1 w10 own1 grow1 at1 lt1
                 have B1 := BI.one (k := m) (v := nn) (show BI w g l' (F ++ [(m, nn)]) F F u7 u8 _ by first | exact (HI8.out.alloc _).drew | exact ((HI8.out.alloc _).alloc _).drew) grow1 own1)
              | (refine step_append_lies _ rfl (.tmp 70) (.tmp 72) 39 rfl w.heap.size 3 i7 (.int .i64 0) 1 8 Try.underlying39 hi7 hz7 hs7 hb7 rfl (by decide) u7 F.length (F.map fun p => .int .i64 (p.1 : Int)) rfl ?_ ⟨w8.heap.size + 1, 0, none⟩ 1 1 [.int .i64 (m : Int)] rfl rfl ?_ ?_ ?_ ?_ ?_ ?_ _ rfl ?_
                 · first | exact (HI8.out.alloc _).drew.r7 | exact ((HI8.out.alloc _).alloc _).drew.r7
                 · refine news_one ?_
                   go_simp
                 · simp [Value.oneCell']
                 · omega
                 · unfold maxLen; omega
                 · omega
                 · first | exact (HI8.out.alloc _).drew.bel.size | exact ((HI8.out.alloc _).alloc _).drew.bel.size
                 intro g1 c1 w10 own1 grow1 at1 lt1
                 have B1 := BI.one (k := m) (v := nn) (show BI w g l' (F ++ [(m, nn)]) F F u7 u8 _ by first | exact (HI8.out.alloc _).drew | exact ((HI8.out.alloc _).alloc _).drew) grow1 own1)
              | (refine step_append_lies _ rfl (.tmp 74) (.tmp 80) 52 rfl w.heap.size 32 i8 (.int .u64 0) 1 8 Try.underlying52 hi8 hz8 hs8 hb8 rfl (by decide) u8 F.length (F.map fun p => .int .u64 p.2) rfl ?_ ⟨w10.heap.size, 0, none⟩ 1 1 [.int .u64 nn] rfl rfl ?_ ?_ ?_ ?_ ?_ ?_ _ rfl ?_
                 · first | exact B1.r8 | exact (B1.alloc _).r8
                 · refine news_one ?_
                   go_simp
                 · simp [Value.oneCell']
                 · omega
                 · unfold maxLen; omega
                 · omega
                 · first | exact B1.bel.size | exact (B1.alloc _).bel.size
                 intro g2 c2 w11 own2 grow2 at2 lt2
                 have B2 := BI.two (k := m) (v := nn) (show BI w g l' (F ++ [(m, nn)]) (F ++ [(m, nn)]) F (.slice (some ⟨g1, 0, none⟩) (F.length + 1) c1) u8 _ by first | exact B1 | exact B1.alloc _) grow2 own2)
              | (refine step_append_lies _ rfl (.tmp 74) (.tmp 80) 52 rfl w.heap.size 32 i8 (.int .u64 0) 1 8 Try.underlying52 hi8 hz8 hs8 hb8 rfl (by decide) u8 F.length (F.map fun p => .int .u64 p.2) rfl ?_ ⟨w8.heap.size, 0, none⟩ 1 1 [.int .u64 nn] rfl rfl ?_ ?_ ?_ ?_ ?_ ?_ _ rfl ?_
                 · first | exact B1.r8 | exact (B1.alloc _).r8
                 · refine news_one ?_
                   refine BI.far ((HI8.out.alloc _).alloc _).drew grow1 ?_ ?_
                   · go_simp
                   · intro k hk; have := H7.out k hk; simp; omega
                 · simp [Value.oneCell']
                 · omega
                 · unfold maxLen; omega
                 · omega
                 · first | exact B1.bel.size | exact (B1.alloc _).bel.size
                 intro g2 c2 w11 own2 grow2 at2 lt2
                 have B2 := BI.two (k := m) (v := nn) (show BI w g l' (F ++ [(m, nn)]) (F ++ [(m, nn)]) F (.slice (some ⟨g1, 0, none⟩) (F.length + 1) c1) u8 _ by first | exact B1 | exact B1.alloc _) grow2 own2)
              | (refine step_append_lies _ rfl (.tmp 74) (.tmp 80) 52 rfl w.heap.size 32 i8 (.int .u64 0) 1 8 Try.underlying52 hi8 hz8 hs8 hb8 rfl (by decide) u8 F.length (F.map fun p => .int .u64 p.2) rfl ?_ ⟨w8.heap.size + 1, 0, none⟩ 1 1 [.int .u64 nn] rfl rfl ?_ ?_ ?_ ?_ ?_ ?_ _ rfl ?_
                 · first | exact B1.r8 | exact (B1.alloc _).r8
                 · refine news_one ?_
                   refine BI.far ((HI8.out.alloc _).alloc _).drew grow1 ?_ ?_
                   · go_simp
                   · intro k hk; have := H7.out k hk; simp; omega
                 · simp [Value.oneCell']
                 · omega
                 · unfold maxLen; omega
                 · omega
                 · first | exact B1.bel.size | exact (B1.alloc _).bel.size
                 intro g2 c2 w11 own2 grow2 at2 lt2
                 have B2 := BI.two (k := m) (v := nn) (show BI w g l' (F ++ [(m, nn)]) (F ++ [(m, nn)]) F (.slice (some ⟨g1, 0, none⟩) (F.length + 1) c1) u8 _ by first | exact B1 | exact B1.alloc _) grow2 own2))
          all_goals
            go_wp2_with fail
            exact ⟨⟨k + 1, F ++ [(m, nn)], l', by omega, by simp; omega, by go_num, by
              intro p hp
              simp only [List.mem_append, List.mem_singleton] at hp
              rcases hp with hp | rfl
              · exact HF.out p hp
              · exact ⟨hm6, hn0, hf⟩, B2⟩, by simp [intOf]; omega⟩
        · obtain rfl : t = false := by cases t with | false => rfl | true => exact absurd (ht.1 rfl) hf
          clear ht
          go_wp2_with fail
          refine (lawput g l (stw F) _ HI9.out.wr m hm6 nn hn0 hn1).mono ?_
          rw [stw_no F m nn (by omega)]
          rintro en w8 ⟨rfl, l', hw, hn⟩
          have HI8 := Lib.hid (HI9.out.put hw hn)
          clear hw hn HI9
          go_wp2_with fail
          exact ⟨⟨k + 1, F, l', by omega, by omega, by go_num, HF.out, HI8.out⟩, by simp [intOf]; omega⟩
    · have hke : k = ks.length := by omega
      subst hke
      have HI := Lib.hid hbi
      have HF := Lib.hid hfit
      have hF60 : F.length ≤ 60 := by omega
      clear hbi hfit
      go_wp2_with fail
      refine (wpatchL g l (stw F) _ HI.out.wr 0 (by decide)).mono ?_
      rw [stw_patch F]
      rintro en w5 ⟨rfl, l2, hw, hn⟩
      have HP : Hid (WrL w5 l2 g ⟨65536, be ((flat F).length : Int) 2 ++ flat F, []⟩ ∧ w5.ownsRow w.heap.size 3 1 u7 F.length (F.map fun p => .int .i64 (p.1 : Int)) ∧ w5.ownsRow w.heap.size 32 1 u8 F.length (F.map fun p => .int .u64 p.2) ∧ Below w.heap.size w w5) := Lib.hid (by
        have hb := hn.below HI.out.lo HI.out.bel.size
        exact ⟨hw, own_turn HI.out.r7 hn.1 (own_far HI.out.r7 HI.out.wr (by decide) (by decide)), own_turn HI.out.r8 hn.1 (own_far HI.out.r8 HI.out.wr (by decide) (by decide)), HI.out.bel.trans hb.1⟩)
      clear hw hn HI
      go_wp2_with fail
      refine (woutL g l2 _ _ HP.out.1).mono ?_
      rintro en w6 ⟨⟨vo, rfl, hcp⟩, hb6⟩
      have HC : Hid (Arr w6 vo (be ((flat F).length : Int) 2 ++ flat F)) := Lib.hid hcp.got.arr
      have HB6 := Lib.hid hb6
      clear hcp hb6
      go_wp2_with fail
      refine (rnewA vo _ _ HC.out (by have := flat_le F; simp [be_length]; omega) (by
        intro x hx
        rcases List.mem_append.1 hx with hx | hx
        · exact be_byte _ _ x hx
        · exact flat_byte F x hx)).mono ?_
      rintro en w7 ⟨gr, hr, cr, rfl, hgr, hhr, hrd, hb7⟩
      have HJ0 : Hid (BJ w g l2 F u7 u8 gr hr cr ⟨be ((flat F).length : Int) 2 ++ flat F, 0, 0, 0, 0⟩ w7) := Lib.hid (by
        have h6 := HP.out.2.2.2.trans (HB6.out.mono HP.out.2.2.2.size)
        have h7 := h6.trans (hb7.mono h6.size)
        exact ⟨(HP.out.1.below HB6.out).below hb7, hrd, own_below (own_below HP.out.2.1 HB6.out) hb7, own_below (own_below HP.out.2.2.1 HB6.out) hb7, h7, Nat.le_trans h6.size hgr⟩)
      clear hgr hhr hrd hb7 HC HB6 HP
      obtain ⟨A7, c7, rfl⟩ := own_form HJ0.out.r7
      obtain ⟨A8, c8, rfl⟩ := own_form HJ0.out.r8
      have hfl := flat_le F
      obtain ⟨n, hn⟩ : ∃ n, (flat F).length = n := ⟨_, rfl⟩
      have hn480 : n ≤ 480 := by omega
      clear hfl
      go_wp2_with fail
      refine (rU2 gr hr cr _ _ HJ0.out.rd).mono ?_
      rw [str_got F hF60, str_first F hF60]
      rintro en w8 ⟨rfl, hrd, ho⟩
      have HJ := Lib.hid (HJ0.out.step hrd ho)
      rw [hn]
      clear hrd ho HJ0
      go_wp2_with fail
      refine (rleftOf _ _ _ _ _ _ _ _ _ HJ.out.rd).mono ?_
      rw [show (str F 0).st + (str F 0).bs.length - (str F 0).p = n by simp [str, flat, be_length] at hn ⊢; omega]
      rintro en w9 ⟨rfl, nq, rfl⟩
      have HJ9 := Lib.hid (HJ.out.drewN nq)
      have hbne : ((n : Int) != (n : Int)) = false := bne_self_eq_false _
      clear HJ
      generalize w8.drewN nq = w9 at *
      go_wp2_with fail
      clear hbne
      go_loopw [13] (fun i wr => ∃ k : Nat, k ≤ F.length ∧ i = .int .i64 k ∧ BJ w g l2 F (.slice A7 F.length c7) (.slice A8 F.length c8) gr hr cr (str F k) wr) (fun i _ => F.length - (intOf i).toNat)
      case atStart => exact ⟨0, Nat.zero_le _, rfl, HJ9.out⟩
      case round =>
        obtain ⟨k, hk, rfl, hbj⟩ := hrel
        clear HJ9
        by_cases hlt : k < F.length
        · obtain ⟨b7, c7', hv7, hc7⟩ := own_cell hbj.r7 k hlt
          obtain ⟨b8, c8', hv8, hc8⟩ := own_cell hbj.r8 k hlt
          injection hv7 with hv7 _ hcc7
          injection hv8 with hv8 _ hcc8
          subst hv7 hv8 hcc7 hcc8
          have q7 := hc7 (by simpa using hlt)
          have q8 := hc8 (by simpa using hlt)
          rw [List.getElem_map] at q7 q8
          have hfk := HF.out F[k] (List.getElem_mem hlt)
          have hg := str_num F k hlt hfk.2.1 hfk.2.2
          have ht := str_take F k hlt
          obtain ⟨p, hp⟩ : ∃ p, F[k] = p := ⟨_, rfl⟩
          rw [hp] at q7 q8 hfk hg ht
          obtain ⟨kk, nv⟩ := p
          simp only at q7 q8 hfk hg ht
          obtain ⟨hk6, hv0, hv1⟩ := hfk
          have HJ := Lib.hid hbj
          have HG : Hid ((str F k).got (sz kk) = nv ∧ ((str F k).take ((sz kk : Nat) : Int)).2 = str F (k + 1)) := Lib.hid ⟨hg, by rw [ht]⟩
          have HQ : Hid (∀ W', BJ w g l2 F (.slice (some ⟨b7, 0, none⟩) F.length c7) (.slice (some ⟨b8, 0, none⟩) F.length c8) gr hr cr (str F k) W' ∨ BJ w g l2 F (.slice (some ⟨b7, 0, none⟩) F.length c7) (.slice (some ⟨b8, 0, none⟩) F.length c8) gr hr cr (str F (k + 1)) W' → W'.cell? ⟨b7, k, none⟩ = some (.int .i64 (kk : Int)) ∧ W'.cell? ⟨b8, k, none⟩ = some (.int .u64 nv)) := Lib.hid (by
            intro W' h
            have h7 : W'.ownsRow w.heap.size 3 1 (.slice (some ⟨b7, 0, none⟩) F.length c7) F.length (F.map fun p => .int .i64 (p.1 : Int)) := by rcases h with h | h <;> exact h.r7
            have h8 : W'.ownsRow w.heap.size 32 1 (.slice (some ⟨b8, 0, none⟩) F.length c8) F.length (F.map fun p => .int .u64 p.2) := by rcases h with h | h <;> exact h.r8
            obtain ⟨_, _, e7, d7⟩ := own_cell h7 k hlt
            obtain ⟨_, _, e8, d8⟩ := own_cell h8 k hlt
            injection e7 with e7 _ _
            injection e8 with e8 _ _
            injection e7 with e7
            injection e8 with e8
            injection e7 with e7
            injection e8 with e8
            subst e7 e8
            have d7' := d7 (by simpa using hlt)
            have d8' := d8 (by simpa using hlt)
            rw [List.getElem_map, hp] at d7' d8'
            exact ⟨d7', d8'⟩)
          have hbne : (nv != nv) = false := bne_self_eq_false _
          have b0 : (0 : Int) ≤ (k : Int) := by omega
          have b1 : (k : Int) < (F.length : Int) := by omega
          clear hbj hg ht hc7 hc8 hp q7 q8
          go_wp2_with fail
          go_region_held3 (fun w' => w'.cell? ⟨b7, k, none⟩ = some (.int .i64 (kk : Int)) ∧ w'.cell? ⟨b8, k, none⟩ = some (.int .u64 nv))
            (first | exact HQ.out _ (.inl HJ.out.drew) | exact HQ.out _ (.inr (HJ.out.drew.step hrd9 ho9)))
            (first | (go_at_call 26; refine (lawget gr hr cr (str F k) _ HJ.out.drew.rd kk hk6).mono ?_; rw [HG.out.1, HG.out.2]; rintro en w9 ⟨rfl, hrd9, ho9⟩))
          go_wp2_with fail
          go_roundw
          case rel => exact ⟨k + 1, by omega, by go_num, HJ.out.drew.step hrd9 ho9⟩
          case measure => simp [intOf]; omega
        · have hke : k = F.length := by omega
          subst hke
          have HJ := Lib.hid hbj
          clear hbj
          go_wp2_with fail
          refine (rleftOf _ _ _ _ _ _ _ _ _ HJ.out.rd).mono ?_
          rw [show (str F F.length).st + (str F F.length).bs.length - (str F F.length).p = 0 by simp [str, be_length]]
          rintro en w10 ⟨rfl, nq2, rfl⟩
          have HJ10 := Lib.hid (HJ.out.drewN nq2)
          clear HJ
          generalize wr.drewN nq2 = w10 at *
          go_wp2_with fail
          refine (rfault _ _ _ _ _ _ _ _ _ HJ10.out.rd).mono ?_
          rintro en w11 ⟨rfl, rfl⟩
          have HJ11 := Lib.hid (HJ10.out.alloc (.cells #[.int .i64 0, .int .i64 0] 58))
          clear HJ10
          go_wp2_with fail
          refine (rat _ _ _ _ _ _ _ _ _ HJ11.out.rd).mono ?_
          rw [show (str F F.length).p = 2 + n by simp [str]; exact hn]
          rintro en w12 ⟨rfl, rfl⟩
          go_wp2_with fail
          refine (wlenL g l2 _ _ HJ11.out.wr).mono ?_
          rw [show (be ((flat F).length : Int) 2 ++ flat F).length = 2 + n by simp [be_length]; exact hn]
          rintro en w13 ⟨rfl, rfl⟩
          go_wp2_with fail
          go_ret
          exact ⟨rfl, HJ11.out.bel⟩

end Go.Proofs.Ytofbgpgngplgpaa
