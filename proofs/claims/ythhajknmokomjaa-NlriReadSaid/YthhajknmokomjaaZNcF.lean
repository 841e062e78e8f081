/- Routes: the document's Compare. -/
import Derived.Test.YthhajknmokomjaaZNcE
import Derived.Test.YthhajknmokomjaaZNoG
import Derived.Test.YthhajknmokomjaaZNoS
namespace Go.Proofs.Ythhajknmokomjaa
open Go.RowKit Go.Maps Go.Shelf
set_option linter.unusedVariables false
set_option linter.unusedSimpArgs false
set_option maxRecDepth 100000

theorem key_ty {x : NL} (h : x.ty) : x.key.ty := by
  have z : ∀ v ∈ ([0, 0, 0, 0, 0, 0, 0, 0, 0, 0] : List Int), 0 ≤ v ∧ v ≤ 255 := by decide
  have o : (0 : Int) ≤ 0 ∧ (0 : Int) < 4294967296 := by decide
  unfold NL.key
  split
  · exact ⟨h.k, h.rd, z, h.tag, h.mac, h.ip, h.pip, o, o, o⟩
  · split
    · exact ⟨h.k, h.rd, z, h.tag, h.mac, h.ip, h.pip, h.gw, o, o⟩
    · exact ⟨h.k, h.rd, h.esi, h.tag, h.mac, h.ip, h.pip, h.gw, o, o⟩
theorem wide_u64 {n : Int} (h : 0 ≤ n ∧ n < 4294967296) : IntKind.u64.wrap n = n ∧ n % 18446744073709551616 = n := by
  have e : IntKind.u64.wrap n = n % 18446744073709551616 := by rfl
  rw [e]
  omega

set_option maxHeartbeats 4000000 in
theorem rcompare_any (x y : NL) (hx : x.ty) (hy : y.ty) (w : World) : Calls Try.prog 15 #[.agg x.cs, .agg y.cs] w fun e w' => e = .returned (.int .i64 (cmpk x y)) ∧ Below w.heap.size w w' := by
  have HL : Hid (Below w.heap.size w ((w.alloc (.cells x.cs 31)).alloc (.cells y.cs 31))) := Lib.hid (((Below.refl _ w).alloc (Nat.le_refl _) _).alloc (by simp) _)
  have HA : Hid (Has ((w.alloc (.cells x.cs 31)).alloc (.cells y.cs 31)) w.heap.size 31 x.cs) := Lib.hid ((Has.new _ _ _).below ((Below.refl _ _).alloc (Nat.le_refl _) _))
  have HB : Hid (Has ((w.alloc (.cells x.cs 31)).alloc (.cells y.cs 31)) (w.heap.size + 1) 31 y.cs) := Lib.hid (by
    have h := Has.new (w.alloc (.cells x.cs 31)) 31 y.cs
    simpa using h)
  have HTx := Lib.hid (key_ty hx)
  have HTy := Lib.hid (key_ty hy)
  clear hx hy
  go_enter Try.func15, Try.ntmps15
  go_upto_region 1 with fail
  generalize ((w.alloc (.cells x.cs 31)).alloc (.cells y.cs 31)) = W2 at *
  go_cut [4] (fun v4 wx => v4 = .int .i64 0 ∧ Has wx w.heap.size 31 x.key.cs ∧ Has wx (w.heap.size + 1) 31 y.key.cs ∧ Below w.heap.size w wx)
  case first =>
    have HA := Lib.hid (HA.out.below (Below.refl _ W2).drew)
    have HB := Lib.hid (HB.out.below (Below.refl _ W2).drew)
    have HL := Lib.hid (HL.out.trans ((Below.refl _ W2).drew.mono HL.out.size))
    go_wp2_with fail
    refine wp_region_held_drew (S := fun _ => True) (by kernel_rfl) trivial (fun hHeld => ?_)
    refine wpAnyH_ready (rs := [0, 2]) (by kernel_rfl) (by simp) ?_
    refine AllReadyH.cons (o := { dst := some 6, op := Go.Op.load 31 (Go.Operand.tmp 2), type := 31, pos := "ref.go:194", after := #[], guard := none }) rfl (fun K hK => ?o_0) (AllReadyH.cons (o := { dst := some 8, op := Go.Op.load 31 (Go.Operand.tmp 3), type := 31, pos := "ref.go:194", after := #[], guard := none }) rfl (fun K hK => ?o_2) AllReadyH.nil)
    case o_0 =>
      refine step_load_row rfl 31 (.tmp 2) rfl w.heap.size rfl 31 x.cs (0, 0) _ HA.out Try.underlying31 rfl x.fit ?_
      refine hK.out _ _ trivial (fun hHeld => ?_)
      clear hK K
      try simp only [Act.put, List.setIfInBounds_toArray, List.set_cons_zero, List.set_cons_succ]
      refine wpAnyH_ready (rs := [1, 2]) (by kernel_rfl) (by simp) ?_
      refine AllReadyH.cons (o := { dst := some 7, op := Go.Op.call { callee := Go.Callee.value (Go.Operand.func 13), args := #[Go.Operand.tmp 6], argTypes := #[31] }, type := 31, pos := "ref.go:194", after := #[{ on := 0, ground := Go.Ground.data }], guard := none }) rfl (fun K hK => ?o0_1) (AllReadyH.cons (o := { dst := some 8, op := Go.Op.load 31 (Go.Operand.tmp 3), type := 31, pos := "ref.go:194", after := #[], guard := none }) rfl (fun K hK => ?o0_2) AllReadyH.nil)
      case o0_1 =>
        go_simp
        go_at_call 13
        refine (rkey_any x _).mono ?_
        rintro e w1 ⟨rfl, hb⟩
        have HA := Lib.hid (HA.out.below hb)
        have HB := Lib.hid (HB.out.below hb)
        have HL := Lib.hid (HL.out.trans (hb.mono HL.out.size))
        clear hb
        refine hK.out _ _ trivial (fun hHeld => ?_)
        clear hK K
        try simp only [Act.put, List.setIfInBounds_toArray, List.set_cons_zero, List.set_cons_succ]
        refine wpAnyH_ready (rs := [2]) (by kernel_rfl) (by simp) ?_
        refine AllReadyH.cons (o := { dst := some 8, op := Go.Op.load 31 (Go.Operand.tmp 3), type := 31, pos := "ref.go:194", after := #[], guard := none }) rfl (fun K hK => ?o01_2) AllReadyH.nil
        case o01_2 =>
          refine step_load_row rfl 31 (.tmp 3) rfl (w.heap.size + 1) rfl 31 y.cs (0, 0) _ HB.out Try.underlying31 rfl y.fit ?_
          refine hK.out _ _ trivial (fun hHeld => ?_)
          clear hK K
          try simp only [Act.put, List.setIfInBounds_toArray, List.set_cons_zero, List.set_cons_succ]
          refine wpAnyH_ready (rs := [3]) (by kernel_rfl) (by simp) ?_
          refine AllReadyH.cons (o := { dst := some 9, op := Go.Op.call { callee := Go.Callee.value (Go.Operand.func 13), args := #[Go.Operand.tmp 8], argTypes := #[31] }, type := 31, pos := "ref.go:194", after := #[{ on := 2, ground := Go.Ground.data }, { on := 1, ground := Go.Ground.chain }], guard := none }) rfl (fun K hK => ?o012_3) AllReadyH.nil
          case o012_3 =>
            go_simp
            go_at_call 13
            refine (rkey_any y _).mono ?_
            rintro e w3 ⟨rfl, hb⟩
            have HA := Lib.hid (HA.out.below hb)
            have HB := Lib.hid (HB.out.below hb)
            have HL := Lib.hid (HL.out.trans (hb.mono HL.out.size))
            clear hb
            refine hK.out _ _ trivial (fun hHeld => ?_)
            clear hK K
            try simp only [Act.put, List.setIfInBounds_toArray, List.set_cons_zero, List.set_cons_succ]
            refine wpAnyH_ready (rs := [4]) (by kernel_rfl) (by simp) ?_
            refine AllReadyH.cons (o := { dst := none, op := Go.Op.store 31 (Go.Operand.tmp 2) (Go.Operand.tmp 7), type := 0, pos := "ref.go:194", after := #[{ on := 1, ground := Go.Ground.data }, { on := 3, ground := Go.Ground.chain }, { on := 0, ground := Go.Ground.phase }, { on := 1, ground := Go.Ground.phase }, { on := 2, ground := Go.Ground.textOnly Go.Departure.lateStores }, { on := 3, ground := Go.Ground.textOnly Go.Departure.lateStoresUnsure }], guard := none }) rfl (fun K hK => ?o0123_4) AllReadyH.nil
            case o0123_4 =>
              refine step_store_row rfl 31 (.tmp 2) (.tmp 7) rfl w.heap.size x.key.cs rfl rfl 31 x.cs HA.out x.key.fit rfl x.key.one ?_
              have HL := Lib.hid (below_only HL.out (Only.row (h := w.heap.size) x.key.cs) (Nat.le_refl _) HL.out.size)
              have HB := Lib.hid (HB.out.grown (Only.row (h := w.heap.size) x.key.cs) (by simp))
              have HA : Hid (Has _ w.heap.size 31 x.key.cs) := Lib.hid (setRow_heap _ _ _ _ _ _ HA.out)
              refine hK.out _ _ trivial (fun hHeld => ?_)
              clear hK K
              try simp only [Act.put, List.setIfInBounds_toArray, List.set_cons_zero, List.set_cons_succ]
              refine wpAnyH_ready (rs := [5]) (by kernel_rfl) (by simp) ?_
              refine AllReadyH.cons (o := { dst := none, op := Go.Op.store 31 (Go.Operand.tmp 3) (Go.Operand.tmp 9), type := 0, pos := "ref.go:194", after := #[{ on := 3, ground := Go.Ground.data }, { on := 4, ground := Go.Ground.chain }, { on := 0, ground := Go.Ground.phase }, { on := 1, ground := Go.Ground.phase }, { on := 2, ground := Go.Ground.phase }, { on := 3, ground := Go.Ground.phase }, { on := 4, ground := Go.Ground.phase }], guard := none }) rfl (fun K hK => ?o01234_5) AllReadyH.nil
              case o01234_5 =>
                refine step_store_row rfl 31 (.tmp 3) (.tmp 9) rfl (w.heap.size + 1) y.key.cs rfl rfl 31 y.cs HB.out y.key.fit rfl y.key.one ?_
                have HL := Lib.hid (below_only HL.out (Only.row (h := (w.heap.size + 1)) y.key.cs) (Nat.le_succ _) HL.out.size)
                have HA := Lib.hid (HA.out.grown (Only.row (h := (w.heap.size + 1)) y.key.cs) (by simp))
                have HB : Hid (Has _ (w.heap.size + 1) 31 y.key.cs) := Lib.hid (setRow_heap _ _ _ _ _ _ HB.out)
                refine hK.out _ _ trivial (fun hHeld => ?_)
                clear hK K
                try simp only [Act.put, List.setIfInBounds_toArray, List.set_cons_zero, List.set_cons_succ]
                refine wpAnyH_done (by kernel_rfl) ?_ _
                generalize (w3.setRow w.heap.size x.key.cs).setRow (w.heap.size + 1) y.key.cs = W9 at HA HB HL ⊢
                go_wp2_with fail
                go_meet
                exact ⟨rfl, HA.out, HB.out, HL.out⟩
      case o0_2 =>
        refine step_load_row rfl 31 (.tmp 3) rfl (w.heap.size + 1) rfl 31 y.cs (0, 0) _ HB.out Try.underlying31 rfl y.fit ?_
        refine hK.out _ _ trivial (fun hHeld => ?_)
        clear hK K
        try simp only [Act.put, List.setIfInBounds_toArray, List.set_cons_zero, List.set_cons_succ]
        refine wpAnyH_ready (rs := [1]) (by kernel_rfl) (by simp) ?_
        refine AllReadyH.cons (o := { dst := some 7, op := Go.Op.call { callee := Go.Callee.value (Go.Operand.func 13), args := #[Go.Operand.tmp 6], argTypes := #[31] }, type := 31, pos := "ref.go:194", after := #[{ on := 0, ground := Go.Ground.data }], guard := none }) rfl (fun K hK => ?o02_1) AllReadyH.nil
        case o02_1 =>
          go_simp
          go_at_call 13
          refine (rkey_any x _).mono ?_
          rintro e w1 ⟨rfl, hb⟩
          have HA := Lib.hid (HA.out.below hb)
          have HB := Lib.hid (HB.out.below hb)
          have HL := Lib.hid (HL.out.trans (hb.mono HL.out.size))
          clear hb
          refine hK.out _ _ trivial (fun hHeld => ?_)
          clear hK K
          try simp only [Act.put, List.setIfInBounds_toArray, List.set_cons_zero, List.set_cons_succ]
          refine wpAnyH_ready (rs := [3]) (by kernel_rfl) (by simp) ?_
          refine AllReadyH.cons (o := { dst := some 9, op := Go.Op.call { callee := Go.Callee.value (Go.Operand.func 13), args := #[Go.Operand.tmp 8], argTypes := #[31] }, type := 31, pos := "ref.go:194", after := #[{ on := 2, ground := Go.Ground.data }, { on := 1, ground := Go.Ground.chain }], guard := none }) rfl (fun K hK => ?o012_3) AllReadyH.nil
          case o012_3 =>
            go_simp
            go_at_call 13
            refine (rkey_any y _).mono ?_
            rintro e w3 ⟨rfl, hb⟩
            have HA := Lib.hid (HA.out.below hb)
            have HB := Lib.hid (HB.out.below hb)
            have HL := Lib.hid (HL.out.trans (hb.mono HL.out.size))
            clear hb
            refine hK.out _ _ trivial (fun hHeld => ?_)
            clear hK K
            try simp only [Act.put, List.setIfInBounds_toArray, List.set_cons_zero, List.set_cons_succ]
            refine wpAnyH_ready (rs := [4]) (by kernel_rfl) (by simp) ?_
            refine AllReadyH.cons (o := { dst := none, op := Go.Op.store 31 (Go.Operand.tmp 2) (Go.Operand.tmp 7), type := 0, pos := "ref.go:194", after := #[{ on := 1, ground := Go.Ground.data }, { on := 3, ground := Go.Ground.chain }, { on := 0, ground := Go.Ground.phase }, { on := 1, ground := Go.Ground.phase }, { on := 2, ground := Go.Ground.textOnly Go.Departure.lateStores }, { on := 3, ground := Go.Ground.textOnly Go.Departure.lateStoresUnsure }], guard := none }) rfl (fun K hK => ?o0123_4) AllReadyH.nil
            case o0123_4 =>
              refine step_store_row rfl 31 (.tmp 2) (.tmp 7) rfl w.heap.size x.key.cs rfl rfl 31 x.cs HA.out x.key.fit rfl x.key.one ?_
              have HL := Lib.hid (below_only HL.out (Only.row (h := w.heap.size) x.key.cs) (Nat.le_refl _) HL.out.size)
              have HB := Lib.hid (HB.out.grown (Only.row (h := w.heap.size) x.key.cs) (by simp))
              have HA : Hid (Has _ w.heap.size 31 x.key.cs) := Lib.hid (setRow_heap _ _ _ _ _ _ HA.out)
              refine hK.out _ _ trivial (fun hHeld => ?_)
              clear hK K
              try simp only [Act.put, List.setIfInBounds_toArray, List.set_cons_zero, List.set_cons_succ]
              refine wpAnyH_ready (rs := [5]) (by kernel_rfl) (by simp) ?_
              refine AllReadyH.cons (o := { dst := none, op := Go.Op.store 31 (Go.Operand.tmp 3) (Go.Operand.tmp 9), type := 0, pos := "ref.go:194", after := #[{ on := 3, ground := Go.Ground.data }, { on := 4, ground := Go.Ground.chain }, { on := 0, ground := Go.Ground.phase }, { on := 1, ground := Go.Ground.phase }, { on := 2, ground := Go.Ground.phase }, { on := 3, ground := Go.Ground.phase }, { on := 4, ground := Go.Ground.phase }], guard := none }) rfl (fun K hK => ?o01234_5) AllReadyH.nil
              case o01234_5 =>
                refine step_store_row rfl 31 (.tmp 3) (.tmp 9) rfl (w.heap.size + 1) y.key.cs rfl rfl 31 y.cs HB.out y.key.fit rfl y.key.one ?_
                have HL := Lib.hid (below_only HL.out (Only.row (h := (w.heap.size + 1)) y.key.cs) (Nat.le_succ _) HL.out.size)
                have HA := Lib.hid (HA.out.grown (Only.row (h := (w.heap.size + 1)) y.key.cs) (by simp))
                have HB : Hid (Has _ (w.heap.size + 1) 31 y.key.cs) := Lib.hid (setRow_heap _ _ _ _ _ _ HB.out)
                refine hK.out _ _ trivial (fun hHeld => ?_)
                clear hK K
                try simp only [Act.put, List.setIfInBounds_toArray, List.set_cons_zero, List.set_cons_succ]
                refine wpAnyH_done (by kernel_rfl) ?_ _
                generalize (w3.setRow w.heap.size x.key.cs).setRow (w.heap.size + 1) y.key.cs = W9 at HA HB HL ⊢
                go_wp2_with fail
                go_meet
                exact ⟨rfl, HA.out, HB.out, HL.out⟩
    case o_2 =>
      refine step_load_row rfl 31 (.tmp 3) rfl (w.heap.size + 1) rfl 31 y.cs (0, 0) _ HB.out Try.underlying31 rfl y.fit ?_
      refine hK.out _ _ trivial (fun hHeld => ?_)
      clear hK K
      try simp only [Act.put, List.setIfInBounds_toArray, List.set_cons_zero, List.set_cons_succ]
      refine wpAnyH_ready (rs := [0]) (by kernel_rfl) (by simp) ?_
      refine AllReadyH.cons (o := { dst := some 6, op := Go.Op.load 31 (Go.Operand.tmp 2), type := 31, pos := "ref.go:194", after := #[], guard := none }) rfl (fun K hK => ?o2_0) AllReadyH.nil
      case o2_0 =>
        refine step_load_row rfl 31 (.tmp 2) rfl w.heap.size rfl 31 x.cs (0, 0) _ HA.out Try.underlying31 rfl x.fit ?_
        refine hK.out _ _ trivial (fun hHeld => ?_)
        clear hK K
        try simp only [Act.put, List.setIfInBounds_toArray, List.set_cons_zero, List.set_cons_succ]
        refine wpAnyH_ready (rs := [1]) (by kernel_rfl) (by simp) ?_
        refine AllReadyH.cons (o := { dst := some 7, op := Go.Op.call { callee := Go.Callee.value (Go.Operand.func 13), args := #[Go.Operand.tmp 6], argTypes := #[31] }, type := 31, pos := "ref.go:194", after := #[{ on := 0, ground := Go.Ground.data }], guard := none }) rfl (fun K hK => ?o02_1) AllReadyH.nil
        case o02_1 =>
          go_simp
          go_at_call 13
          refine (rkey_any x _).mono ?_
          rintro e w1 ⟨rfl, hb⟩
          have HA := Lib.hid (HA.out.below hb)
          have HB := Lib.hid (HB.out.below hb)
          have HL := Lib.hid (HL.out.trans (hb.mono HL.out.size))
          clear hb
          refine hK.out _ _ trivial (fun hHeld => ?_)
          clear hK K
          try simp only [Act.put, List.setIfInBounds_toArray, List.set_cons_zero, List.set_cons_succ]
          refine wpAnyH_ready (rs := [3]) (by kernel_rfl) (by simp) ?_
          refine AllReadyH.cons (o := { dst := some 9, op := Go.Op.call { callee := Go.Callee.value (Go.Operand.func 13), args := #[Go.Operand.tmp 8], argTypes := #[31] }, type := 31, pos := "ref.go:194", after := #[{ on := 2, ground := Go.Ground.data }, { on := 1, ground := Go.Ground.chain }], guard := none }) rfl (fun K hK => ?o012_3) AllReadyH.nil
          case o012_3 =>
            go_simp
            go_at_call 13
            refine (rkey_any y _).mono ?_
            rintro e w3 ⟨rfl, hb⟩
            have HA := Lib.hid (HA.out.below hb)
            have HB := Lib.hid (HB.out.below hb)
            have HL := Lib.hid (HL.out.trans (hb.mono HL.out.size))
            clear hb
            refine hK.out _ _ trivial (fun hHeld => ?_)
            clear hK K
            try simp only [Act.put, List.setIfInBounds_toArray, List.set_cons_zero, List.set_cons_succ]
            refine wpAnyH_ready (rs := [4]) (by kernel_rfl) (by simp) ?_
            refine AllReadyH.cons (o := { dst := none, op := Go.Op.store 31 (Go.Operand.tmp 2) (Go.Operand.tmp 7), type := 0, pos := "ref.go:194", after := #[{ on := 1, ground := Go.Ground.data }, { on := 3, ground := Go.Ground.chain }, { on := 0, ground := Go.Ground.phase }, { on := 1, ground := Go.Ground.phase }, { on := 2, ground := Go.Ground.textOnly Go.Departure.lateStores }, { on := 3, ground := Go.Ground.textOnly Go.Departure.lateStoresUnsure }], guard := none }) rfl (fun K hK => ?o0123_4) AllReadyH.nil
            case o0123_4 =>
              refine step_store_row rfl 31 (.tmp 2) (.tmp 7) rfl w.heap.size x.key.cs rfl rfl 31 x.cs HA.out x.key.fit rfl x.key.one ?_
              have HL := Lib.hid (below_only HL.out (Only.row (h := w.heap.size) x.key.cs) (Nat.le_refl _) HL.out.size)
              have HB := Lib.hid (HB.out.grown (Only.row (h := w.heap.size) x.key.cs) (by simp))
              have HA : Hid (Has _ w.heap.size 31 x.key.cs) := Lib.hid (setRow_heap _ _ _ _ _ _ HA.out)
              refine hK.out _ _ trivial (fun hHeld => ?_)
              clear hK K
              try simp only [Act.put, List.setIfInBounds_toArray, List.set_cons_zero, List.set_cons_succ]
              refine wpAnyH_ready (rs := [5]) (by kernel_rfl) (by simp) ?_
              refine AllReadyH.cons (o := { dst := none, op := Go.Op.store 31 (Go.Operand.tmp 3) (Go.Operand.tmp 9), type := 0, pos := "ref.go:194", after := #[{ on := 3, ground := Go.Ground.data }, { on := 4, ground := Go.Ground.chain }, { on := 0, ground := Go.Ground.phase }, { on := 1, ground := Go.Ground.phase }, { on := 2, ground := Go.Ground.phase }, { on := 3, ground := Go.Ground.phase }, { on := 4, ground := Go.Ground.phase }], guard := none }) rfl (fun K hK => ?o01234_5) AllReadyH.nil
              case o01234_5 =>
                refine step_store_row rfl 31 (.tmp 3) (.tmp 9) rfl (w.heap.size + 1) y.key.cs rfl rfl 31 y.cs HB.out y.key.fit rfl y.key.one ?_
                have HL := Lib.hid (below_only HL.out (Only.row (h := (w.heap.size + 1)) y.key.cs) (Nat.le_succ _) HL.out.size)
                have HA := Lib.hid (HA.out.grown (Only.row (h := (w.heap.size + 1)) y.key.cs) (by simp))
                have HB : Hid (Has _ (w.heap.size + 1) 31 y.key.cs) := Lib.hid (setRow_heap _ _ _ _ _ _ HB.out)
                refine hK.out _ _ trivial (fun hHeld => ?_)
                clear hK K
                try simp only [Act.put, List.setIfInBounds_toArray, List.set_cons_zero, List.set_cons_succ]
                refine wpAnyH_done (by kernel_rfl) ?_ _
                generalize (w3.setRow w.heap.size x.key.cs).setRow (w.heap.size + 1) y.key.cs = W9 at HA HB HL ⊢
                go_wp2_with fail
                go_meet
                exact ⟨rfl, HA.out, HB.out, HL.out⟩
  case rest =>
    obtain ⟨rfl, hA, hB, hL⟩ := hcut
    clear HA HB HL
    obtain ⟨X, hX⟩ : ∃ X, x.key = X := ⟨_, rfl⟩
    obtain ⟨Y, hY⟩ : ∃ Y, y.key = Y := ⟨_, rfl⟩
    have HE0 : Hid (cmpk x y = orl (cml X Y)) := Lib.hid (by unfold cmpk; rw [hX, hY])
    rw [hX] at hA HTx
    rw [hY] at hB HTy
    have c0 := hA.n0
    have c1 := hA.n1
    have c12 := hA.n12
    have c13 := hA.n13
    have d0 := hB.n0
    have d1 := hB.n1
    have d12 := hB.n12
    have d13 := hB.n13
    have HA := Lib.hid hA
    have HB := Lib.hid hB
    have HL := Lib.hid hL
    obtain ⟨t1, t2⟩ := wide_u64 HTx.out.tag
    obtain ⟨t3, t4⟩ := wide_u64 HTy.out.tag
    obtain ⟨t5, t6⟩ := wide_u64 HTx.out.ip
    obtain ⟨t7, t8⟩ := wide_u64 HTy.out.ip
    obtain ⟨t9, t10⟩ := wide_u64 HTx.out.gw
    obtain ⟨t11, t12⟩ := wide_u64 HTy.out.gw
    clear hA hB hL hX hY
    by_cases hk1 : X.k < Y.k
    · have HE : Hid (cmpk x y = -1) := Lib.hid (by rw [HE0.out, cml, orl, cm_lt hk1]; rfl)
      go_wp2_with fail
      go_ret
      exact ⟨by rw [HE.out]; rfl, HL.out⟩
    by_cases hk2 : Y.k < X.k
    · have HE : Hid (cmpk x y = 1) := Lib.hid (by rw [HE0.out, cml, orl, cm_gt hk2]; rfl)
      go_wp2_with fail
      go_ret
      exact ⟨by rw [HE.out]; rfl, HL.out⟩
    have hk3 : cm X.k Y.k = 0 := cm_zero.2 (by omega)
    have HE1 : Hid (cmpk x y = orl [cm X.rd Y.rd, ce X.esi Y.esi, cm X.tag Y.tag, cm X.mac Y.mac, cm (rk X.has) (rk Y.has), cm X.ip Y.ip, cpx X.pip X.pl Y.pip Y.pl, cm X.gw Y.gw]) := Lib.hid (by rw [HE0.out, cml, orl, if_pos hk3])
    clear hk3 HE0
    obtain ⟨v1, hv1⟩ : ∃ v, cm X.rd Y.rd = v := ⟨_, rfl⟩
    obtain ⟨v2, hv2⟩ : ∃ v, ce X.esi Y.esi = v := ⟨_, rfl⟩
    obtain ⟨v3, hv3⟩ : ∃ v, cm X.tag Y.tag = v := ⟨_, rfl⟩
    obtain ⟨v4, hv4⟩ : ∃ v, cm X.mac Y.mac = v := ⟨_, rfl⟩
    obtain ⟨v5, hv5⟩ : ∃ v, cm (rk X.has) (rk Y.has) = v := ⟨_, rfl⟩
    obtain ⟨v6, hv6⟩ : ∃ v, cm X.ip Y.ip = v := ⟨_, rfl⟩
    obtain ⟨v7, hv7⟩ : ∃ v, cpx X.pip X.pl Y.pip Y.pl = v := ⟨_, rfl⟩
    obtain ⟨v8, hv8⟩ : ∃ v, cm X.gw Y.gw = v := ⟨_, rfl⟩
    rw [hv1, hv2, hv3, hv4, hv5, hv6, hv7, hv8] at HE1
    by_cases z1 : v1 ≠ 0
    · have b1 : (v1 == 0) = false := by simpa using z1
      have HE : Hid (cmpk x y = v1) := Lib.hid (by rw [HE1.out]; simp [orl, z1])
      clear HE1 z1
      skip
      go_wp2_with (first
        | (refine wpList_load_mid rfl 24 (.tmp 29) rfl w.heap.size 2 rfl X.ev _ (has_esi HA.out) Try.underlying24 rfl esi_fitv ?_)
        | (refine wpList_load_mid rfl 24 (.tmp 31) rfl (w.heap.size + 1) 2 rfl Y.ev _ (has_esi HB.out) Try.underlying24 rfl esi_fitv ?_)
        | (go_at_call 41; refine (rcesi_b X.e0 X.e1 X.e2 X.e3 X.e4 X.e5 X.e6 X.e7 X.e8 X.e9 Y.e0 Y.e1 Y.e2 Y.e3 Y.e4 Y.e5 Y.e6 Y.e7 Y.e8 Y.e9 HTx.out.esi HTy.out.esi _).mono ?_; rintro e we ⟨rfl, hb⟩; have HV2 := hv2; simp only [NL.esi] at HV2; rw [HV2]; clear HV2; have HA2 := Lib.hid (HA.out.below hb); have HB2 := Lib.hid (HB.out.below hb); have HL2 := Lib.hid (HL.out.trans (hb.mono HL.out.size)); have c12 := HA2.out.n12; have c13 := HA2.out.n13; have c14 := HA2.out.n14; have c15 := HA2.out.n15; have c16 := HA2.out.n16; have c17 := HA2.out.n17; have d12 := HB2.out.n12; have d13 := HB2.out.n13; have d14 := HB2.out.n14; have d15 := HB2.out.n15; have d16 := HB2.out.n16; have d17 := HB2.out.n17; clear hb)
        | (go_at_call 40; refine (rcm4 _ _ _).mono ?_; rintro e w' ⟨rfl, rfl⟩))
      go_ret
      exact ⟨by rw [HE.out]; rfl, HL.out⟩
    have z1 : v1 = 0 := Classical.not_not.1 z1
    have b1 : (v1 == 0) = true := by simp [z1]
    by_cases z2 : v2 ≠ 0
    · have b2 : (v2 == 0) = false := by simpa using z2
      have HE : Hid (cmpk x y = v2) := Lib.hid (by rw [HE1.out]; simp [orl, z1, z2])
      clear HE1 z1 z2
      skip
      go_wp2_with (first
        | (refine wpList_load_mid rfl 24 (.tmp 29) rfl w.heap.size 2 rfl X.ev _ (has_esi HA.out) Try.underlying24 rfl esi_fitv ?_)
        | (refine wpList_load_mid rfl 24 (.tmp 31) rfl (w.heap.size + 1) 2 rfl Y.ev _ (has_esi HB.out) Try.underlying24 rfl esi_fitv ?_)
        | (go_at_call 41; refine (rcesi_b X.e0 X.e1 X.e2 X.e3 X.e4 X.e5 X.e6 X.e7 X.e8 X.e9 Y.e0 Y.e1 Y.e2 Y.e3 Y.e4 Y.e5 Y.e6 Y.e7 Y.e8 Y.e9 HTx.out.esi HTy.out.esi _).mono ?_; rintro e we ⟨rfl, hb⟩; have HV2 := hv2; simp only [NL.esi] at HV2; rw [HV2]; clear HV2; have HA2 := Lib.hid (HA.out.below hb); have HB2 := Lib.hid (HB.out.below hb); have HL2 := Lib.hid (HL.out.trans (hb.mono HL.out.size)); have c12 := HA2.out.n12; have c13 := HA2.out.n13; have c14 := HA2.out.n14; have c15 := HA2.out.n15; have c16 := HA2.out.n16; have c17 := HA2.out.n17; have d12 := HB2.out.n12; have d13 := HB2.out.n13; have d14 := HB2.out.n14; have d15 := HB2.out.n15; have d16 := HB2.out.n16; have d17 := HB2.out.n17; clear hb)
        | (go_at_call 40; refine (rcm4 _ _ _).mono ?_; rintro e w' ⟨rfl, rfl⟩))
      go_ret
      exact ⟨by rw [HE.out]; rfl, HL2.out⟩
    have z2 : v2 = 0 := Classical.not_not.1 z2
    have b2 : (v2 == 0) = true := by simp [z2]
    by_cases z3 : v3 ≠ 0
    · have b3 : (v3 == 0) = false := by simpa using z3
      have HE : Hid (cmpk x y = v3) := Lib.hid (by rw [HE1.out]; simp [orl, z1, z2, z3])
      clear HE1 z1 z2 z3
      skip
      go_wp2_with (first
        | (refine wpList_load_mid rfl 24 (.tmp 29) rfl w.heap.size 2 rfl X.ev _ (has_esi HA.out) Try.underlying24 rfl esi_fitv ?_)
        | (refine wpList_load_mid rfl 24 (.tmp 31) rfl (w.heap.size + 1) 2 rfl Y.ev _ (has_esi HB.out) Try.underlying24 rfl esi_fitv ?_)
        | (go_at_call 41; refine (rcesi_b X.e0 X.e1 X.e2 X.e3 X.e4 X.e5 X.e6 X.e7 X.e8 X.e9 Y.e0 Y.e1 Y.e2 Y.e3 Y.e4 Y.e5 Y.e6 Y.e7 Y.e8 Y.e9 HTx.out.esi HTy.out.esi _).mono ?_; rintro e we ⟨rfl, hb⟩; have HV2 := hv2; simp only [NL.esi] at HV2; rw [HV2]; clear HV2; have HA2 := Lib.hid (HA.out.below hb); have HB2 := Lib.hid (HB.out.below hb); have HL2 := Lib.hid (HL.out.trans (hb.mono HL.out.size)); have c12 := HA2.out.n12; have c13 := HA2.out.n13; have c14 := HA2.out.n14; have c15 := HA2.out.n15; have c16 := HA2.out.n16; have c17 := HA2.out.n17; have d12 := HB2.out.n12; have d13 := HB2.out.n13; have d14 := HB2.out.n14; have d15 := HB2.out.n15; have d16 := HB2.out.n16; have d17 := HB2.out.n17; clear hb)
        | (go_at_call 40; refine (rcm4 _ _ _).mono ?_; rintro e w' ⟨rfl, rfl⟩))
      go_ret
      exact ⟨by rw [HE.out]; rfl, HL2.out⟩
    have z3 : v3 = 0 := Classical.not_not.1 z3
    have b3 : (v3 == 0) = true := by simp [z3]
    by_cases z4 : v4 ≠ 0
    · have b4 : (v4 == 0) = false := by simpa using z4
      have HE : Hid (cmpk x y = v4) := Lib.hid (by rw [HE1.out]; simp [orl, z1, z2, z3, z4])
      clear HE1 z1 z2 z3 z4
      skip
      go_wp2_with (first
        | (refine wpList_load_mid rfl 24 (.tmp 29) rfl w.heap.size 2 rfl X.ev _ (has_esi HA.out) Try.underlying24 rfl esi_fitv ?_)
        | (refine wpList_load_mid rfl 24 (.tmp 31) rfl (w.heap.size + 1) 2 rfl Y.ev _ (has_esi HB.out) Try.underlying24 rfl esi_fitv ?_)
        | (go_at_call 41; refine (rcesi_b X.e0 X.e1 X.e2 X.e3 X.e4 X.e5 X.e6 X.e7 X.e8 X.e9 Y.e0 Y.e1 Y.e2 Y.e3 Y.e4 Y.e5 Y.e6 Y.e7 Y.e8 Y.e9 HTx.out.esi HTy.out.esi _).mono ?_; rintro e we ⟨rfl, hb⟩; have HV2 := hv2; simp only [NL.esi] at HV2; rw [HV2]; clear HV2; have HA2 := Lib.hid (HA.out.below hb); have HB2 := Lib.hid (HB.out.below hb); have HL2 := Lib.hid (HL.out.trans (hb.mono HL.out.size)); have c12 := HA2.out.n12; have c13 := HA2.out.n13; have c14 := HA2.out.n14; have c15 := HA2.out.n15; have c16 := HA2.out.n16; have c17 := HA2.out.n17; have d12 := HB2.out.n12; have d13 := HB2.out.n13; have d14 := HB2.out.n14; have d15 := HB2.out.n15; have d16 := HB2.out.n16; have d17 := HB2.out.n17; clear hb)
        | (go_at_call 40; refine (rcm4 _ _ _).mono ?_; rintro e w' ⟨rfl, rfl⟩))
      go_ret
      exact ⟨by rw [HE.out]; rfl, HL2.out⟩
    have z4 : v4 = 0 := Classical.not_not.1 z4
    have b4 : (v4 == 0) = true := by simp [z4]
    by_cases z5 : v5 ≠ 0
    · have b5 : (v5 == 0) = false := by simpa using z5
      have HE : Hid (cmpk x y = v5) := Lib.hid (by rw [HE1.out]; simp [orl, z1, z2, z3, z4, z5])
      clear HE1 z1 z2 z3 z4 z5
      skip
      go_wp2_with (first
        | (refine wpList_load_mid rfl 24 (.tmp 29) rfl w.heap.size 2 rfl X.ev _ (has_esi HA.out) Try.underlying24 rfl esi_fitv ?_)
        | (refine wpList_load_mid rfl 24 (.tmp 31) rfl (w.heap.size + 1) 2 rfl Y.ev _ (has_esi HB.out) Try.underlying24 rfl esi_fitv ?_)
        | (go_at_call 41; refine (rcesi_b X.e0 X.e1 X.e2 X.e3 X.e4 X.e5 X.e6 X.e7 X.e8 X.e9 Y.e0 Y.e1 Y.e2 Y.e3 Y.e4 Y.e5 Y.e6 Y.e7 Y.e8 Y.e9 HTx.out.esi HTy.out.esi _).mono ?_; rintro e we ⟨rfl, hb⟩; have HV2 := hv2; simp only [NL.esi] at HV2; rw [HV2]; clear HV2; have HA2 := Lib.hid (HA.out.below hb); have HB2 := Lib.hid (HB.out.below hb); have HL2 := Lib.hid (HL.out.trans (hb.mono HL.out.size)); have c12 := HA2.out.n12; have c13 := HA2.out.n13; have c14 := HA2.out.n14; have c15 := HA2.out.n15; have c16 := HA2.out.n16; have c17 := HA2.out.n17; have d12 := HB2.out.n12; have d13 := HB2.out.n13; have d14 := HB2.out.n14; have d15 := HB2.out.n15; have d16 := HB2.out.n16; have d17 := HB2.out.n17; clear hb)
        | (go_at_call 40; refine (rcm4 _ _ _).mono ?_; rintro e w' ⟨rfl, rfl⟩))
      go_quiet ((first
        | (go_at_call 42; exact Calls.quiet_of_same ((rnum _ _).mono fun _ _ h => ⟨h.1, h.2.symm⟩))
        | (go_at_call 40; exact Calls.quiet_of_same ((rcm4 _ _ _).mono fun _ _ h => ⟨h.1, h.2.symm⟩))))
      go_wp2_with (first
        | (go_at_call 43; refine (rcpx X.pip X.pl Y.pip Y.pl HTx.out.pip HTy.out.pip _).mono ?_; rintro e wp ⟨rfl, hb⟩; rw [hv7]; have HA3 := Lib.hid (Has.below (w := we.drewN nq) HA2.out hb); have HB3 := Lib.hid (Has.below (w := we.drewN nq) HB2.out hb); have HL3 : Hid (Below w.heap.size w wp) := Lib.hid ((below_drewN HL2.out nq).trans (hb.mono HL2.out.size)); have c18 := HA3.out.n18; have d18 := HB3.out.n18; clear hb)
        | (go_at_call 40; refine (rcm4 _ _ _).mono ?_; rintro e w' ⟨rfl, rfl⟩))
      go_ret
      exact ⟨by rw [HE.out, ← hv5]; rfl, (below_drewN HL2.out _)⟩
    have z5 : v5 = 0 := Classical.not_not.1 z5
    have b5 : (v5 == 0) = true := by simp [z5]
    by_cases z6 : v6 ≠ 0
    · have b6 : (v6 == 0) = false := by simpa using z6
      have HE : Hid (cmpk x y = v6) := Lib.hid (by rw [HE1.out]; simp [orl, z1, z2, z3, z4, z5, z6])
      clear HE1 z1 z2 z3 z4 z5 z6
      skip
      go_wp2_with (first
        | (refine wpList_load_mid rfl 24 (.tmp 29) rfl w.heap.size 2 rfl X.ev _ (has_esi HA.out) Try.underlying24 rfl esi_fitv ?_)
        | (refine wpList_load_mid rfl 24 (.tmp 31) rfl (w.heap.size + 1) 2 rfl Y.ev _ (has_esi HB.out) Try.underlying24 rfl esi_fitv ?_)
        | (go_at_call 41; refine (rcesi_b X.e0 X.e1 X.e2 X.e3 X.e4 X.e5 X.e6 X.e7 X.e8 X.e9 Y.e0 Y.e1 Y.e2 Y.e3 Y.e4 Y.e5 Y.e6 Y.e7 Y.e8 Y.e9 HTx.out.esi HTy.out.esi _).mono ?_; rintro e we ⟨rfl, hb⟩; have HV2 := hv2; simp only [NL.esi] at HV2; rw [HV2]; clear HV2; have HA2 := Lib.hid (HA.out.below hb); have HB2 := Lib.hid (HB.out.below hb); have HL2 := Lib.hid (HL.out.trans (hb.mono HL.out.size)); have c12 := HA2.out.n12; have c13 := HA2.out.n13; have c14 := HA2.out.n14; have c15 := HA2.out.n15; have c16 := HA2.out.n16; have c17 := HA2.out.n17; have d12 := HB2.out.n12; have d13 := HB2.out.n13; have d14 := HB2.out.n14; have d15 := HB2.out.n15; have d16 := HB2.out.n16; have d17 := HB2.out.n17; clear hb)
        | (go_at_call 40; refine (rcm4 _ _ _).mono ?_; rintro e w' ⟨rfl, rfl⟩))
      go_quiet ((first
        | (go_at_call 42; exact Calls.quiet_of_same ((rnum _ _).mono fun _ _ h => ⟨h.1, h.2.symm⟩))
        | (go_at_call 40; exact Calls.quiet_of_same ((rcm4 _ _ _).mono fun _ _ h => ⟨h.1, h.2.symm⟩))))
      go_wp2_with (first
        | (go_at_call 43; refine (rcpx X.pip X.pl Y.pip Y.pl HTx.out.pip HTy.out.pip _).mono ?_; rintro e wp ⟨rfl, hb⟩; rw [hv7]; have HA3 := Lib.hid (Has.below (w := we.drewN nq) HA2.out hb); have HB3 := Lib.hid (Has.below (w := we.drewN nq) HB2.out hb); have HL3 : Hid (Below w.heap.size w wp) := Lib.hid ((below_drewN HL2.out nq).trans (hb.mono HL2.out.size)); have c18 := HA3.out.n18; have d18 := HB3.out.n18; clear hb)
        | (go_at_call 40; refine (rcm4 _ _ _).mono ?_; rintro e w' ⟨rfl, rfl⟩))
      go_ret
      exact ⟨by rw [HE.out]; rfl, (below_drewN HL2.out _)⟩
    have z6 : v6 = 0 := Classical.not_not.1 z6
    have b6 : (v6 == 0) = true := by simp [z6]
    by_cases z7 : v7 ≠ 0
    · have b7 : (v7 == 0) = false := by simpa using z7
      have HE : Hid (cmpk x y = v7) := Lib.hid (by rw [HE1.out]; simp [orl, z1, z2, z3, z4, z5, z6, z7])
      clear HE1 z1 z2 z3 z4 z5 z6 z7
      skip
      go_wp2_with (first
        | (refine wpList_load_mid rfl 24 (.tmp 29) rfl w.heap.size 2 rfl X.ev _ (has_esi HA.out) Try.underlying24 rfl esi_fitv ?_)
        | (refine wpList_load_mid rfl 24 (.tmp 31) rfl (w.heap.size + 1) 2 rfl Y.ev _ (has_esi HB.out) Try.underlying24 rfl esi_fitv ?_)
        | (go_at_call 41; refine (rcesi_b X.e0 X.e1 X.e2 X.e3 X.e4 X.e5 X.e6 X.e7 X.e8 X.e9 Y.e0 Y.e1 Y.e2 Y.e3 Y.e4 Y.e5 Y.e6 Y.e7 Y.e8 Y.e9 HTx.out.esi HTy.out.esi _).mono ?_; rintro e we ⟨rfl, hb⟩; have HV2 := hv2; simp only [NL.esi] at HV2; rw [HV2]; clear HV2; have HA2 := Lib.hid (HA.out.below hb); have HB2 := Lib.hid (HB.out.below hb); have HL2 := Lib.hid (HL.out.trans (hb.mono HL.out.size)); have c12 := HA2.out.n12; have c13 := HA2.out.n13; have c14 := HA2.out.n14; have c15 := HA2.out.n15; have c16 := HA2.out.n16; have c17 := HA2.out.n17; have d12 := HB2.out.n12; have d13 := HB2.out.n13; have d14 := HB2.out.n14; have d15 := HB2.out.n15; have d16 := HB2.out.n16; have d17 := HB2.out.n17; clear hb)
        | (go_at_call 40; refine (rcm4 _ _ _).mono ?_; rintro e w' ⟨rfl, rfl⟩))
      go_quiet ((first
        | (go_at_call 42; exact Calls.quiet_of_same ((rnum _ _).mono fun _ _ h => ⟨h.1, h.2.symm⟩))
        | (go_at_call 40; exact Calls.quiet_of_same ((rcm4 _ _ _).mono fun _ _ h => ⟨h.1, h.2.symm⟩))))
      go_wp2_with (first
        | (go_at_call 43; refine (rcpx X.pip X.pl Y.pip Y.pl HTx.out.pip HTy.out.pip _).mono ?_; rintro e wp ⟨rfl, hb⟩; rw [hv7]; have HA3 := Lib.hid (Has.below (w := we.drewN nq) HA2.out hb); have HB3 := Lib.hid (Has.below (w := we.drewN nq) HB2.out hb); have HL3 : Hid (Below w.heap.size w wp) := Lib.hid ((below_drewN HL2.out nq).trans (hb.mono HL2.out.size)); have c18 := HA3.out.n18; have d18 := HB3.out.n18; clear hb)
        | (go_at_call 40; refine (rcm4 _ _ _).mono ?_; rintro e w' ⟨rfl, rfl⟩))
      go_ret
      exact ⟨by rw [HE.out]; rfl, HL3.out⟩
    have z7 : v7 = 0 := Classical.not_not.1 z7
    have b7 : (v7 == 0) = true := by simp [z7]
    by_cases z8 : v8 ≠ 0
    · have b8 : (v8 == 0) = false := by simpa using z8
      have HE : Hid (cmpk x y = v8) := Lib.hid (by rw [HE1.out]; simp [orl, z1, z2, z3, z4, z5, z6, z7, z8])
      clear HE1 z1 z2 z3 z4 z5 z6 z7 z8
      skip
      go_wp2_with (first
        | (refine wpList_load_mid rfl 24 (.tmp 29) rfl w.heap.size 2 rfl X.ev _ (has_esi HA.out) Try.underlying24 rfl esi_fitv ?_)
        | (refine wpList_load_mid rfl 24 (.tmp 31) rfl (w.heap.size + 1) 2 rfl Y.ev _ (has_esi HB.out) Try.underlying24 rfl esi_fitv ?_)
        | (go_at_call 41; refine (rcesi_b X.e0 X.e1 X.e2 X.e3 X.e4 X.e5 X.e6 X.e7 X.e8 X.e9 Y.e0 Y.e1 Y.e2 Y.e3 Y.e4 Y.e5 Y.e6 Y.e7 Y.e8 Y.e9 HTx.out.esi HTy.out.esi _).mono ?_; rintro e we ⟨rfl, hb⟩; have HV2 := hv2; simp only [NL.esi] at HV2; rw [HV2]; clear HV2; have HA2 := Lib.hid (HA.out.below hb); have HB2 := Lib.hid (HB.out.below hb); have HL2 := Lib.hid (HL.out.trans (hb.mono HL.out.size)); have c12 := HA2.out.n12; have c13 := HA2.out.n13; have c14 := HA2.out.n14; have c15 := HA2.out.n15; have c16 := HA2.out.n16; have c17 := HA2.out.n17; have d12 := HB2.out.n12; have d13 := HB2.out.n13; have d14 := HB2.out.n14; have d15 := HB2.out.n15; have d16 := HB2.out.n16; have d17 := HB2.out.n17; clear hb)
        | (go_at_call 40; refine (rcm4 _ _ _).mono ?_; rintro e w' ⟨rfl, rfl⟩))
      go_quiet ((first
        | (go_at_call 42; exact Calls.quiet_of_same ((rnum _ _).mono fun _ _ h => ⟨h.1, h.2.symm⟩))
        | (go_at_call 40; exact Calls.quiet_of_same ((rcm4 _ _ _).mono fun _ _ h => ⟨h.1, h.2.symm⟩))))
      go_wp2_with (first
        | (go_at_call 43; refine (rcpx X.pip X.pl Y.pip Y.pl HTx.out.pip HTy.out.pip _).mono ?_; rintro e wp ⟨rfl, hb⟩; rw [hv7]; have HA3 := Lib.hid (Has.below (w := we.drewN nq) HA2.out hb); have HB3 := Lib.hid (Has.below (w := we.drewN nq) HB2.out hb); have HL3 : Hid (Below w.heap.size w wp) := Lib.hid ((below_drewN HL2.out nq).trans (hb.mono HL2.out.size)); have c18 := HA3.out.n18; have d18 := HB3.out.n18; clear hb)
        | (go_at_call 40; refine (rcm4 _ _ _).mono ?_; rintro e w' ⟨rfl, rfl⟩))
      go_ret
      exact ⟨by rw [HE.out]; rfl, HL3.out⟩
    have z8 : v8 = 0 := Classical.not_not.1 z8
    have b8 : (v8 == 0) = true := by simp [z8]
    · have HE : Hid (cmpk x y = v8) := Lib.hid (by rw [HE1.out]; simp [orl, z1, z2, z3, z4, z5, z6, z7, z8])
      clear HE1 z1 z2 z3 z4 z5 z6 z7 z8
      skip
      go_wp2_with (first
        | (refine wpList_load_mid rfl 24 (.tmp 29) rfl w.heap.size 2 rfl X.ev _ (has_esi HA.out) Try.underlying24 rfl esi_fitv ?_)
        | (refine wpList_load_mid rfl 24 (.tmp 31) rfl (w.heap.size + 1) 2 rfl Y.ev _ (has_esi HB.out) Try.underlying24 rfl esi_fitv ?_)
        | (go_at_call 41; refine (rcesi_b X.e0 X.e1 X.e2 X.e3 X.e4 X.e5 X.e6 X.e7 X.e8 X.e9 Y.e0 Y.e1 Y.e2 Y.e3 Y.e4 Y.e5 Y.e6 Y.e7 Y.e8 Y.e9 HTx.out.esi HTy.out.esi _).mono ?_; rintro e we ⟨rfl, hb⟩; have HV2 := hv2; simp only [NL.esi] at HV2; rw [HV2]; clear HV2; have HA2 := Lib.hid (HA.out.below hb); have HB2 := Lib.hid (HB.out.below hb); have HL2 := Lib.hid (HL.out.trans (hb.mono HL.out.size)); have c12 := HA2.out.n12; have c13 := HA2.out.n13; have c14 := HA2.out.n14; have c15 := HA2.out.n15; have c16 := HA2.out.n16; have c17 := HA2.out.n17; have d12 := HB2.out.n12; have d13 := HB2.out.n13; have d14 := HB2.out.n14; have d15 := HB2.out.n15; have d16 := HB2.out.n16; have d17 := HB2.out.n17; clear hb)
        | (go_at_call 40; refine (rcm4 _ _ _).mono ?_; rintro e w' ⟨rfl, rfl⟩))
      go_quiet ((first
        | (go_at_call 42; exact Calls.quiet_of_same ((rnum _ _).mono fun _ _ h => ⟨h.1, h.2.symm⟩))
        | (go_at_call 40; exact Calls.quiet_of_same ((rcm4 _ _ _).mono fun _ _ h => ⟨h.1, h.2.symm⟩))))
      go_wp2_with (first
        | (go_at_call 43; refine (rcpx X.pip X.pl Y.pip Y.pl HTx.out.pip HTy.out.pip _).mono ?_; rintro e wp ⟨rfl, hb⟩; rw [hv7]; have HA3 := Lib.hid (Has.below (w := we.drewN nq) HA2.out hb); have HB3 := Lib.hid (Has.below (w := we.drewN nq) HB2.out hb); have HL3 : Hid (Below w.heap.size w wp) := Lib.hid ((below_drewN HL2.out nq).trans (hb.mono HL2.out.size)); have c18 := HA3.out.n18; have d18 := HB3.out.n18; clear hb)
        | (go_at_call 40; refine (rcm4 _ _ _).mono ?_; rintro e w' ⟨rfl, rfl⟩))
      go_ret
      exact ⟨by rw [HE.out]; rfl, HL3.out⟩
end Go.Proofs.Ythhajknmokomjaa
