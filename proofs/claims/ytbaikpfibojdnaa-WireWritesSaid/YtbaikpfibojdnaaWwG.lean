/- WireWrites: the walk. -/
import Derived.Test.YtbaikpfibojdnaaWwF
import Derived.Deep.RegionHeld3
import Derived.Deep.DeepCutAuto
import Derived.Deep.CutBlock
namespace Go.Proofs.Ytbaikpfibojdnaa
open Go.RowKit Go.Maps
set_option linter.unusedVariables false
set_option maxRecDepth 100000

theorem ActIs.below {w w' : World} {ad : Addr} {i : Nat} {x : ActV} (h : ActIs w ad i x) (hb : Below w.heap.size w w') : ActIs w' ad i x := by
  have key : ∀ (n : Nat) (u : Value), w.cell? (ad.add n) = some u → w'.cell? (ad.add n) = some u := fun n u hu =>
    (hb.cell (World.block_lt_of_cell? w _ hu)).trans hu
  exact ⟨key _ _ h.c0, key _ _ h.c1, key _ _ h.c2, key _ _ h.c3, h.ok1, h.ok2, h.ok3.1.below hb, h.ok3.2⟩
theorem Acts.below {w w' : World} {v : Value} {ks : List ActV} (h : Acts w v ks) (hb : Below w.heap.size w w') : Acts w' v ks := by
  rcases h with h | ⟨ad, c, h1, h2⟩
  · exact .inl h
  · exact .inr ⟨ad, c, h1, fun i hi => (h2 i hi).below hb⟩
theorem Acts.each {w : World} {v : Value} {ks : List ActV} (h : Acts w v ks) (i : Nat) (hi : i < ks.length) : (Lit.int .i64 ks[i].a).wf = true ∧ (0 ≤ ks[i].n ∧ ks[i].n < 18446744073709551616) ∧ Arr w (.slice ks[i].A ks[i].bs.length ks[i].c) ks[i].bs ∧ (∀ u ∈ ks[i].bs, 0 ≤ u ∧ u ≤ 255) := by
  rcases h with ⟨_, h0⟩ | ⟨ad, c, _, h2⟩
  · subst h0; simp at hi
  · exact ⟨(h2 i hi).ok1, (h2 i hi).ok2, (h2 i hi).ok3.1, (h2 i hi).ok3.2.1⟩

theorem RwL.open {w : World} {l : List Nat} {o : Nat} {s : WS} (h : RwL w l o s) : ∃ A c, w.cell? ⟨o, 0, none⟩ = some (.slice A s.out.length c) ∧ Arr w (.slice A s.out.length c) s.out := by
  obtain ⟨v, m, _, hw⟩ := h
  obtain ⟨A, c, hv, _⟩ := ow_form hw.out
  subst hv
  refine ⟨A, c, hw.c0, ?_⟩
  by_cases h0 : s.out.length = 0
  · have h1 : s.out = [] := List.eq_nil_of_length_eq_zero h0
    rcases hw.out.2 with ⟨h2, _⟩ | ⟨g, cap, cur, hv, _⟩
    · exact .inl ⟨h2, h1⟩
    · rw [hv]
      exact .inr ⟨_, _, rfl, by rw [h1]; intro j u hu; simp at hu⟩
  · obtain ⟨g, rfl, _, _, hcell, _⟩ := ow_cell hw.out 0 (by omega)
    refine .inr ⟨_, _, rfl, ?_⟩
    intro j u hu
    obtain ⟨hj, rfl⟩ := List.getElem?_eq_some_iff.1 hu
    rw [Addr.add_lit, Nat.zero_add]
    exact hcell j hj

theorem WS.small {w : World} {l : List Nat} {o : Nat} {s : WS} (h : RwL w l o s) : s.out.length ≤ 65536 := by
  obtain ⟨v, m, _, hw⟩ := h
  exact Nat.le_trans hw.room hw.top

theorem sizes_row (m : Nat) (hm : m < 6) (w : World) : (w.alloc (.cells #[.int .i64 1, .int .i64 2, .int .i64 3, .int .i64 4, .int .i64 6, .int .i64 8] 3)).cell? ⟨w.heap.size, m, none⟩ = some (.int .i64 (sz m : Nat)) := by
  have h := Has.new w 3 #[.int .i64 1, .int .i64 2, .int .i64 3, .int .i64 4, .int .i64 6, .int .i64 8]
  rw [h.cell m]
  have h6 : m = 0 ∨ m = 1 ∨ m = 2 ∨ m = 3 ∨ m = 4 ∨ m = 5 := by omega
  rcases h6 with rfl | rfl | rfl | rfl | rfl | rfl <;> rfl

theorem wbytesL (g : Nat) (l : List Nat) (s : WS) (w : World) (H : WrL w l g s) (h0 o c0 : Nat) (xs : List Int) (hm2 : xs.length ≤ 1000000) (hx : ∀ v ∈ xs, 0 ≤ v ∧ v ≤ 255) (hsl : Sl w h0 o xs) (hfar : h0 ∉ l) (hlt0 : h0 < w.heap.size) :
    Calls Try.prog 18 #[.pointer (some ⟨g, 0, none⟩), .slice (some ⟨h0, o, none⟩) xs.length c0] w fun e w' => e = .returned (.int .i64 (s.putB xs).1) ∧ ∃ l', WrL w' l' g (s.putB xs).2 ∧ Next w l w' l' := by
  obtain ⟨A, c, b, n, rfl, hw⟩ := H
  exact (wbytes _ _ _ _ _ _ _ hw h0 o _ c0 xs rfl hm2 hx hsl hfar hlt0).mono fun _ _ h => h.next

theorem WI.turn {w W W' : World} {g o : Nat} {s1 s2 : WS} {l m t : List Nat} (H : WI w g o s1 s2 l m W) (ht : Turn t W W') (h1 : ∀ k ∈ l, k ∉ t) (h2 : ∀ k ∈ m, k ∉ t) (h3 : ∀ k ∈ t, w.heap.size ≤ k) : WI w g o s1 s2 l m W' :=
  ⟨H.a.turn ht h1, H.b.turn ht h2, H.la, H.lb, H.far, H.bel.trans (ht.below h3 H.bel.size)⟩

theorem writes_out (lim : Int) (h : lim < 0 ∨ 65536 < lim) (A : Option Addr) (c : Nat) (ks : List ActV) (w : World) (hk : Acts w (.slice A ks.length c) ks) (hm : ks.length ≤ maxLen) :
    Calls Try.prog 3 #[.int .i64 lim, .slice A ks.length c] w fun e w' => e = .returned (.bool true) ∧ Below w.heap.size w w' := by
  have hm2 := hm
  unfold maxLen at hm2
  have HK := Lib.hid hk
  have HM := Lib.hid hm
  have HL := Lib.hid h
  clear hk hm h
  go_enter Try.func3, Try.ntmps3
  go_wp2_with fail
  refine (lives_any w).mono ?_
  rintro en w1 ⟨rfl, hb1⟩
  have HB1 := Lib.hid hb1
  clear hb1
  go_wp2_with fail
  refine (light_any A c ks _ (HK.out.below HB1.out) HM.out).mono ?_
  rintro en w2 ⟨b, rfl, _, rfl⟩
  cases b
  · go_wp2_with fail
    go_ret
    exact ⟨rfl, HB1.out⟩
  · go_wp2_with (first
      | (go_at_call 12; refine (wnew_no lim HL.out _).mono ?_; rintro en w3 ⟨rfl, rfl⟩)
      | (go_at_call 13; refine (pnew_no lim HL.out _).mono ?_; rintro en w3 ⟨rfl, rfl⟩))
    go_loop [9] (fun i => i = .int .i64 0) (fun i => 0)
    case atStart => rfl
    case round =>
      subst hrel
      have h0 : (0 : Int) < (ks.length : Int) ∨ ¬ (0 : Int) < (ks.length : Int) := by omega
      rcases h0 with h0 | h0
      · go_wp2_with fail
        go_ret
        exact ⟨rfl, HB1.out⟩
      · go_wp2_with fail
        go_ret
        exact ⟨rfl, HB1.out⟩

set_option maxHeartbeats 1000000 in
theorem writes_walk (n : Nat) (hn : n ≤ 65536) (A : Option Addr) (c : Nat) (ks : List ActV) (w : World) (hk : Acts w (.slice A ks.length c) ks) (hm : ks.length ≤ maxLen) :
    Calls Try.prog 3 #[.int .i64 n, .slice A ks.length c] w fun e w' => e = .returned (.bool true) ∧ Below w.heap.size w w' := by
  have HK := Lib.hid hk
  have HM := Lib.hid hm
  clear hk hm
  go_enter Try.func3, Try.ntmps3
  go_wp2_with fail
  refine (lives_any w).mono ?_
  rintro en w1 ⟨rfl, hb1⟩
  have HB1 := Lib.hid hb1
  clear hb1
  go_wp2_with fail
  refine (light_any A c ks _ (HK.out.below HB1.out) HM.out).mono ?_
  rintro en w2 ⟨b, rfl, hlight, rfl⟩
  cases b
  · go_wp2_with fail
    go_ret
    exact ⟨rfl, HB1.out⟩
  have HLt := Lib.hid (hlight rfl)
  clear hlight
  go_wp2_with fail
  refine (wnewL n hn _).mono ?_
  rintro en w3 ⟨g, l0, rfl, hwr, hl0, hb3⟩
  have HW3 := Lib.hid hwr
  have HB3 := Lib.hid (And.intro hl0 hb3)
  clear hwr hl0 hb3
  go_wp2_with fail
  refine (pnew n hn _).mono ?_
  rintro en w4 ⟨o, m0, rfl, hrw, hm0, hb4⟩
  have HI0 : Hid (WI w g o ⟨n, [], []⟩ ⟨n, [], []⟩ l0 m0 w4) := Lib.hid ⟨HW3.out.below hb4, hrw, fun k hk => Nat.le_trans HB1.out.size (HB3.out.1 k hk), fun k hk => Nat.le_trans (Nat.le_trans HB1.out.size HB3.out.2.size) (hm0 k hk), fun k hk hk2 => by
    have h1 := HW3.out.lt k hk
    have h2 := hm0 k hk2
    omega, (HB1.out.trans (HB3.out.2.mono HB1.out.size)).trans (hb4.mono (Nat.le_trans HB1.out.size HB3.out.2.size))⟩
  clear hrw hm0 hb4 HW3 HB3
  go_wp2_with fail
  have hlen60 : ks.length ≤ 60 := HLt.out.2
  go_loopw [9] (fun i wr => ∃ (k : Nat) (s : WS) (l mm : List Nat), k ≤ ks.length ∧ i = .int .i64 k ∧ WI w g o s s l mm wr) (fun i _ => ks.length - (intOf i).toNat)
  case atStart => exact ⟨0, _, _, _, Nat.zero_le _, rfl, HI0.out⟩
  case round =>
    obtain ⟨k, s, l, mm, hkl, rfl, hwi⟩ := hrel
    have HIr := Lib.hid hwi
    clear hwi
    clear HI0
    by_cases hlt : k < ks.length
    · obtain ⟨b3, o3, rfl, _, hat⟩ := HK.out.at_ (by omega)
      have hact := (hat k hlt).below HIr.out.bel
      obtain ⟨hwf, hnn, harr, hby⟩ := HK.out.each k hlt
      have hl300 := HLt.out.1 ks[k] (List.getElem_mem hlt)
      obtain ⟨c0, c1, c2, c3, hb3lt⟩ := hact
      obtain ⟨x, hx⟩ : ∃ x, ks[k] = x := ⟨_, rfl⟩
      rw [hx] at c0 c1 c2 c3 hwf hnn harr hby hl300
      clear hx hat
      obtain ⟨kind, aa, nn, A3, cv, bs⟩ := x
      simp only at c0 c1 c2 c3 hwf hnn harr hby hl300
      obtain ⟨hn0, hn1⟩ := hnn
      obtain ⟨n3, hn3⟩ : ∃ n3, bs.length = n3 := ⟨_, rfl⟩
      rw [hn3] at c3
      have HArr0 := Lib.hid harr
      have HArr := Lib.hid (And.intro (harr.below HIr.out.bel) (And.intro hby hl300))
      have HN3 := Lib.hid hn3
      have hn3b : n3 ≤ 300 := by omega
      clear harr hby hl300 hn3
      go_wp2_with fail
      refine (pick_any kind 10 (by omega) (by omega) _).mono ?_
      rintro en wr' ⟨rfl, rfl⟩
      have hp0 := Int.emod_nonneg kind (show (10 : Int) ≠ 0 by omega)
      have hp1 := Int.emod_lt_of_pos kind (show (0 : Int) < 10 by omega)
      obtain ⟨m, hm⟩ : ∃ m : Nat, kind % 10 = m := ⟨(kind % 10).toNat, by omega⟩
      rw [hm] at hp0 hp1 ⊢
      have hm10 : m < 10 := by omega
      clear hm hp0 hp1 c0 c1 c2 c3
      have hbox := Has.new wr 35 #[.int .i64 kind, .int .i64 aa, .int .u64 nn, .slice A3 n3 cv]
      have HI := Lib.hid (HIr.out.alloc (.cells #[.int .i64 kind, .int .i64 aa, .int .u64 nn, .slice A3 n3 cv] 35))
      have HFar : Hid (wr.heap.size ∉ l ∧ wr.heap.size ∉ mm) := Lib.hid ⟨fun h => by have := HIr.out.a.lt _ h; omega, fun h => by have := HIr.out.b.lt _ h; omega⟩
      have HArr1 : Hid (Arr (wr.alloc (.cells #[.int .i64 kind, .int .i64 aa, .int .u64 nn, .slice A3 n3 cv] 35)) (.slice A3 bs.length cv) bs ∧ (∀ u ∈ bs, 0 ≤ u ∧ u ≤ 255) ∧ bs.length ≤ 300) := Lib.hid ⟨HArr.out.1.below ((Below.refl _ wr).alloc (Nat.le_refl _) _), HArr.out.2⟩
      have HBox := Lib.hid hbox
      have HOld : Hid (∀ k ∈ l, k < wr.heap.size) := Lib.hid (fun k hk => HIr.out.a.lt k hk)
      have HOld2 : Hid (∀ k ∈ mm, k < wr.heap.size) := Lib.hid (fun k hk => HIr.out.b.lt k hk)
      clear hbox HIr HArr
      generalize hW1 : wr.alloc (.cells #[.int .i64 kind, .int .i64 aa, .int .u64 nn, .slice A3 n3 cv] 35) = W1 at *
      have hBlt : wr.heap.size < W1.heap.size := by rw [← hW1]; simp
      clear hW1
      generalize wr.heap.size = B at *
      have HBoxD : Hid (Has W1.drew B 35 #[.int .i64 kind, .int .i64 aa, .int .u64 nn, .slice A3 n3 cv]) := Lib.hid HBox.out
      have HX : Hid (∀ w' : World, Has w' B 35 #[.int .i64 kind, .int .i64 aa, .int .u64 nn, .slice A3 n3 cv] → (w'.cell? ⟨B, 2, none⟩ = some (.int .u64 nn) ∧ Has w' B 35 #[.int .i64 kind, .int .i64 aa, .int .u64 nn, .slice A3 n3 cv])) := Lib.hid (fun w' h => ⟨h.cell 2, h⟩)
      have hbsm : bs.length ≤ 1000000 := by have := HArr1.out.2.2; omega
      have HArrD : Hid (Arr W1.drew (.slice A3 bs.length cv) bs) := Lib.hid HArr1.out.1
      have HFar7 : ∀ h7, W1.drew.heap.size ≤ h7 → h7 ∉ l := fun h7 h8 h9 => by have := HI.out.a.lt h7 h9; have h10 : W1.drew.heap.size = W1.heap.size := rfl; omega
      go_upto_block 2 with fail
      go_cut [12, 13, 14, 15] (fun v12 v13 v14 v15 wx => ∃ (x e : Int) (s' : WS) (l' mm' : List Nat), v12 = .int .i64 x ∧ v13 = .int .i64 x ∧ v14 = .int .i64 e ∧ v15 = .int .i64 e ∧ WI w g o s' s' l' mm' wx)
      case first =>
        by_cases hm6 : m < 6
        · have hrow := sizes_row m hm6
          have hsz1 : 1 ≤ sz m := by
            have h6 : m = 0 ∨ m = 1 ∨ m = 2 ∨ m = 3 ∨ m = 4 ∨ m = 5 := by omega
            rcases h6 with rfl | rfl | rfl | rfl | rfl | rfl <;> simp [sz]
          have hsz8 : sz m ≤ 8 := by
            have h6 : m = 0 ∨ m = 1 ∨ m = 2 ∨ m = 3 ∨ m = 4 ∨ m = 5 := by omega
            rcases h6 with rfl | rfl | rfl | rfl | rfl | rfl <;> simp [sz]
          have hk0 : (0 : Int) ≤ (m : Int) := by omega
          have hk6 : (m : Int) < 6 := by omega
          go_wp2_with fail
          refine wp_region_held_drew (S := (fun w' => w'.cell? ⟨B, 2, none⟩ = some (.int .u64 nn) ∧ Has w' B 35 #[.int .i64 kind, .int .i64 aa, .int .u64 nn, .slice A3 n3 cv])) (by kernel_rfl) (HX.out _ HBox.out) (fun hHeld => ?_)
          refine wpAnyH_take (i := 0) (oi := { dst := some 71, op := Go.Op.move (Go.Operand.tmp 5), type := 25, pos := "law.go:117", after := #[], guard := none }) (v := ?_) rfl (by kernel_rfl) (by kernel_rfl) (by kernel_rfl) (fun _ _ _ h => h) (Or.inl ⟨by rfl, ?_⟩) (by assumption) ?_
          rotate_left
          · intro wS hSw
            try dsimp only at hSw
            go_split_ands
            go_simp
            try with_reducible rfl
          try simp only [Act.put, List.setIfInBounds_toArray, List.set_cons_zero, List.set_cons_succ]
          refine wpAnyH_take (i := 1) (oi := { dst := some 72, op := Go.Op.move (Go.Operand.tmp 11), type := 3, pos := "law.go:117", after := #[], guard := none }) (v := ?_) rfl (by kernel_rfl) (by kernel_rfl) (by kernel_rfl) (fun _ _ _ h => h) (Or.inl ⟨by rfl, ?_⟩) (by assumption) ?_
          rotate_left
          · intro wS hSw
            try dsimp only at hSw
            go_split_ands
            go_simp
            try with_reducible rfl
          try simp only [Act.put, List.setIfInBounds_toArray, List.set_cons_zero, List.set_cons_succ]
          refine wpAnyH_take (i := 2) (oi := { dst := some 73, op := Go.Op.fieldAddr 35 (Go.Operand.tmp 10) 2, type := 0, pos := "law.go:117", after := #[], guard := none }) (v := ?_) rfl (by kernel_rfl) (by kernel_rfl) (by kernel_rfl) (fun _ _ _ h => h) (Or.inl ⟨by rfl, ?_⟩) (by assumption) ?_
          rotate_left
          · intro wS hSw
            try dsimp only at hSw
            go_split_ands
            go_simp
            try with_reducible rfl
          try simp only [Act.put, List.setIfInBounds_toArray, List.set_cons_zero, List.set_cons_succ]
          refine wpAnyH_take (i := 3) (oi := { dst := some 74, op := Go.Op.load 32 (Go.Operand.tmp 73), type := 32, pos := "law.go:117", after := #[{ on := 2, ground := Go.Ground.data }], guard := none }) (v := ?_) rfl (by kernel_rfl) (by kernel_rfl) (by kernel_rfl) (fun _ _ _ h => h) (Or.inl ⟨by rfl, ?_⟩) (by assumption) ?_
          rotate_left
          · intro wS hSw
            try dsimp only at hSw
            go_split_ands
            go_simp
            try with_reducible rfl
          try simp only [Act.put, List.setIfInBounds_toArray, List.set_cons_zero, List.set_cons_succ]
          refine wpAnyH_take (i := 5) (oi := { dst := some 76, op := Go.Op.move (Go.Operand.tmp 7), type := 29, pos := "law.go:117", after := #[], guard := none }) (v := ?_) rfl (by kernel_rfl) (by kernel_rfl) (by kernel_rfl) (fun _ _ _ h => h) (Or.inl ⟨by rfl, ?_⟩) (by assumption) ?_
          rotate_left
          · intro wS hSw
            try dsimp only at hSw
            go_split_ands
            go_simp
            try with_reducible rfl
          try simp only [Act.put, List.setIfInBounds_toArray, List.set_cons_zero, List.set_cons_succ]
          refine wpAnyH_take (i := 6) (oi := { dst := some 77, op := Go.Op.fieldAddr 35 (Go.Operand.tmp 10) 2, type := 0, pos := "law.go:117", after := #[], guard := none }) (v := ?_) rfl (by kernel_rfl) (by kernel_rfl) (by kernel_rfl) (fun _ _ _ h => h) (Or.inl ⟨by rfl, ?_⟩) (by assumption) ?_
          rotate_left
          · intro wS hSw
            try dsimp only at hSw
            go_split_ands
            go_simp
            try with_reducible rfl
          try simp only [Act.put, List.setIfInBounds_toArray, List.set_cons_zero, List.set_cons_succ]
          refine wpAnyH_take (i := 7) (oi := { dst := some 78, op := Go.Op.load 32 (Go.Operand.tmp 77), type := 32, pos := "law.go:117", after := #[{ on := 6, ground := Go.Ground.data }], guard := none }) (v := ?_) rfl (by kernel_rfl) (by kernel_rfl) (by kernel_rfl) (fun _ _ _ h => h) (Or.inl ⟨by rfl, ?_⟩) (by assumption) ?_
          rotate_left
          · intro wS hSw
            try dsimp only at hSw
            go_split_ands
            go_simp
            try with_reducible rfl
          try simp only [Act.put, List.setIfInBounds_toArray, List.set_cons_zero, List.set_cons_succ]
          refine wpAnyH_take (i := 9) (oi := { dst := some 80, op := Go.Op.move (Go.Operand.tmp 11), type := 3, pos := "law.go:117", after := #[], guard := none }) (v := ?_) rfl (by kernel_rfl) (by kernel_rfl) (by kernel_rfl) (fun _ _ _ h => h) (Or.inl ⟨by rfl, ?_⟩) (by assumption) ?_
          rotate_left
          · intro wS hSw
            try dsimp only at hSw
            go_split_ands
            go_simp
            try with_reducible rfl
          try simp only [Act.put, List.setIfInBounds_toArray, List.set_cons_zero, List.set_cons_succ]
          refine wpAnyH_ready (rs := [4]) (by kernel_rfl) (by simp) ?_
          refine AllReadyH.cons (o := { dst := some 75, op := Go.Op.call { callee := Go.Callee.value (Go.Operand.func 15), args := #[Go.Operand.tmp 71, Go.Operand.tmp 72, Go.Operand.tmp 74], argTypes := #[25, 3, 32] }, type := 26, pos := "law.go:117", after := #[{ on := 0, ground := Go.Ground.data }, { on := 1, ground := Go.Ground.data }, { on := 3, ground := Go.Ground.data }], guard := none }) rfl (fun K hK => ?_) AllReadyH.nil
          go_simp
          refine (lawput g l s _ HI.out.drew.a m hm6 nn hn0 hn1).mono ?_
          rintro en w8 ⟨rfl, l8, hw8, hx8⟩
          refine hK.out _ _ ?_ (fun hHeld => ?_)
          · exact HX.out _ (HBoxD.out.turn hx8.1 HFar.out.1)
          clear hK K
          try simp only [Act.put, List.setIfInBounds_toArray, List.set_cons_zero, List.set_cons_succ]
          refine wpAnyH_ready (rs := [8]) (by kernel_rfl) (by simp) ?_
          refine AllReadyH.cons (o := { dst := some 79, op := Go.Op.call { callee := Go.Callee.value (Go.Operand.func 17), args := #[], argTypes := #[] }, type := 39, pos := "law.go:117", after := #[{ on := 4, ground := Go.Ground.chain }], guard := none }) rfl (fun K hK => ?_) AllReadyH.nil
          go_simp
          refine (sizes_any _).mono ?_
          rintro en w9 ⟨rfl, rfl⟩
          try go_simp
          refine hK.out _ _ ?_ (fun hHeld => ?_)
          · exact HX.out _ ((HBoxD.out.turn hx8.1 HFar.out.1).below ((Below.refl _ w8).alloc (Nat.le_refl _) _))
          clear hK K
          try simp only [Act.put, List.setIfInBounds_toArray, List.set_cons_zero, List.set_cons_succ]
          refine wpAnyH_take (i := 10) (oi := { dst := some 81, op := Go.Op.indexAddr 39 (Go.Operand.tmp 79) (Go.Operand.tmp 80), type := 0, pos := "law.go:117", after := #[{ on := 8, ground := Go.Ground.data }, { on := 9, ground := Go.Ground.data }], guard := none }) (v := ?_) rfl (by kernel_rfl) (by kernel_rfl) (by kernel_rfl) (fun _ _ _ h => h) (Or.inl ⟨by rfl, ?_⟩) (by assumption) ?_
          rotate_left
          · intro wS hSw
            try dsimp only at hSw
            go_split_ands
            go_simp
            try with_reducible rfl
          try simp only [Act.put, List.setIfInBounds_toArray, List.set_cons_zero, List.set_cons_succ]
          refine wpAnyH_ready (rs := [11]) (by kernel_rfl) (by simp) ?_
          refine AllReadyH.cons (o := { dst := some 82, op := Go.Op.load 3 (Go.Operand.tmp 81), type := 3, pos := "law.go:117", after := #[{ on := 10, ground := Go.Ground.data }], guard := none }) rfl (fun K hK => ?_) AllReadyH.nil
          go_simp
          skip
          refine hK.out _ _ ?_ (fun hHeld => ?_)
          · exact HX.out _ ((HBoxD.out.turn hx8.1 HFar.out.1).below ((Below.refl _ w8).alloc (Nat.le_refl _) _))
          clear hK K
          try simp only [Act.put, List.setIfInBounds_toArray, List.set_cons_zero, List.set_cons_succ]
          refine wpAnyH_ready (rs := [12]) (by kernel_rfl) (by simp) ?_
          refine AllReadyH.cons (o := { dst := some 83, op := Go.Op.call { callee := Go.Callee.value (Go.Operand.func 16), args := #[Go.Operand.tmp 76, Go.Operand.tmp 78, Go.Operand.tmp 82], argTypes := #[29, 32, 3] }, type := 26, pos := "law.go:117", after := #[{ on := 5, ground := Go.Ground.data }, { on := 7, ground := Go.Ground.data }, { on := 11, ground := Go.Ground.data }, { on := 8, ground := Go.Ground.chain }], guard := none }) rfl (fun K hK => ?_) AllReadyH.nil
          go_simp
          refine (pput o mm s _ ((HI.out.drew.putA hw8 hx8).alloc _).b nn hn0 hn1 (sz m) hsz1 hsz8).mono ?_
          rintro en w10 ⟨rfl, m10, hw10, hx10⟩
          refine hK.out _ _ ?_ (fun hHeld => ?_)
          · exact HX.out _ (((HBoxD.out.turn hx8.1 HFar.out.1).below ((Below.refl _ w8).alloc (Nat.le_refl _) _)).turn hx10.1 HFar.out.2)
          clear hK K
          try simp only [Act.put, List.setIfInBounds_toArray, List.set_cons_zero, List.set_cons_succ]
          refine wpAnyH_take (i := 13) (oi := { dst := some 14, op := Go.Op.assign (Go.Operand.tmp 75), type := 26, pos := "law.go:117", after := #[{ on := 4, ground := Go.Ground.data }, { on := 12, ground := Go.Ground.chain }, { on := 0, ground := Go.Ground.phase }, { on := 1, ground := Go.Ground.phase }, { on := 2, ground := Go.Ground.phase }, { on := 3, ground := Go.Ground.phase }, { on := 4, ground := Go.Ground.phase }, { on := 5, ground := Go.Ground.textOnly Go.Departure.lateStores }, { on := 6, ground := Go.Ground.textOnly Go.Departure.lateStores }, { on := 7, ground := Go.Ground.textOnly Go.Departure.lateStores }, { on := 8, ground := Go.Ground.textOnly Go.Departure.lateStoresUnsure }, { on := 9, ground := Go.Ground.textOnly Go.Departure.lateStores }, { on := 10, ground := Go.Ground.textOnly Go.Departure.lateStores }, { on := 11, ground := Go.Ground.textOnly Go.Departure.lateStores }, { on := 12, ground := Go.Ground.textOnly Go.Departure.lateStoresUnsure }], guard := none }) (v := ?_) rfl (by kernel_rfl) (by kernel_rfl) (by kernel_rfl) (fun _ _ _ h => h) (Or.inl ⟨by rfl, ?_⟩) (by assumption) ?_
          rotate_left
          · intro wS hSw
            try dsimp only at hSw
            go_split_ands
            go_simp
            try with_reducible rfl
          try simp only [Act.put, List.setIfInBounds_toArray, List.set_cons_zero, List.set_cons_succ]
          refine wpAnyH_take (i := 14) (oi := { dst := some 15, op := Go.Op.assign (Go.Operand.tmp 83), type := 26, pos := "law.go:117", after := #[{ on := 12, ground := Go.Ground.data }, { on := 13, ground := Go.Ground.chain }, { on := 0, ground := Go.Ground.phase }, { on := 1, ground := Go.Ground.phase }, { on := 2, ground := Go.Ground.phase }, { on := 3, ground := Go.Ground.phase }, { on := 4, ground := Go.Ground.phase }, { on := 5, ground := Go.Ground.phase }, { on := 6, ground := Go.Ground.phase }, { on := 7, ground := Go.Ground.phase }, { on := 8, ground := Go.Ground.phase }, { on := 9, ground := Go.Ground.phase }, { on := 10, ground := Go.Ground.phase }, { on := 11, ground := Go.Ground.phase }, { on := 12, ground := Go.Ground.phase }, { on := 13, ground := Go.Ground.phase }], guard := none }) (v := ?_) rfl (by kernel_rfl) (by kernel_rfl) (by kernel_rfl) (fun _ _ _ h => h) (Or.inl ⟨by rfl, ?_⟩) (by assumption) ?_
          rotate_left
          · intro wS hSw
            try dsimp only at hSw
            go_split_ands
            go_simp
            try with_reducible rfl
          try simp only [Act.put, List.setIfInBounds_toArray, List.set_cons_zero, List.set_cons_succ]
          refine wpAnyH_done (by kernel_rfl) ?_ _
          go_wp2_with fail
          go_meet
          exact ⟨0, (s.put nn (sz m)).1, (s.put nn (sz m)).2, l8, m10, rfl, rfl, rfl, rfl, ((HI.out.drew.putA hw8 hx8).alloc _).putB hw10 hx10⟩
        · by_cases hm7 : m = 6
          · subst hm7
            have k3 := HBox.out.cell 3
            simp only [List.getElem?_toArray, List.getElem?_cons_zero, List.getElem?_cons_succ] at k3
            have HX3 : Hid (∀ w' : World, Has w' B 35 #[.int .i64 kind, .int .i64 aa, .int .u64 nn, .slice A3 n3 cv] → (w'.cell? ⟨B, 3, none⟩ = some (.slice A3 n3 cv) ∧ Has w' B 35 #[.int .i64 kind, .int .i64 aa, .int .u64 nn, .slice A3 n3 cv])) := Lib.hid (fun w' h => ⟨h.cell 3, h⟩)
            obtain rfl := HN3.out
            go_wp2_with fail
            go_region_held3 (fun w' => w'.cell? ⟨B, 3, none⟩ = some (.slice A3 bs.length cv) ∧ Has w' B 35 #[.int .i64 kind, .int .i64 aa, .int .u64 nn, .slice A3 bs.length cv])
              (first | exact HX3.out _ HBoxD.out | exact HX3.out _ (HBoxD.out.below hb7) | exact HX3.out _ ((HBoxD.out.below hb7).turn hx8.1 HFar.out.1) | exact HX3.out _ (((HBoxD.out.below hb7).turn hx8.1 HFar.out.1).turn hx10.1 HFar.out.2))
              (first
                | (go_at_call 19; refine (own_any _ bs _ HArrD.out hbsm).mono ?_; rintro en w7 ⟨⟨h7, c7, rfl, hrow7, hh7⟩, hb7⟩)
                | (go_at_call 18; refine (wbytesL g l s _ (HI.out.drew.below hb7).a h7 0 c7 bs hbsm HArr1.out.2.1 hrow7.all (HFar7 _ hh7) hrow7.lt).mono ?_; rintro en w8 ⟨rfl, l8, hw8, hx8⟩)
                | (go_at_call 20; refine (pbytes o mm s _ ((HI.out.drew.below hb7).putA hw8 hx8).b A3 cv bs (HArr0.out.below ((HI.out.drew.below hb7).putA hw8 hx8).bel) HArr1.out.2.1 hbsm).mono ?_; rintro en w10 ⟨rfl, m10, hw10, hx10⟩))
            go_wp2_with fail
            go_meet
            exact ⟨0, (s.putB bs).1, (s.putB bs).2, l8, m10, rfl, rfl, rfl, rfl, ((HI.out.drew.below hb7).putA hw8 hx8).putB hw10 hx10⟩
          · by_cases hm8 : m = 7
            · subst hm8
              go_wp2_with fail
              refine (wmarkL g l s _ HI.out.a).mono ?_
              rintro en w8 ⟨rfl, l8, hw8, hx8⟩
              have HI8 := Lib.hid (HI.out.putA hw8 hx8)
              clear hw8 hx8
              go_wp2_with fail
              refine (pmark o mm s _ HI8.out.b).mono ?_
              rintro en w9 ⟨rfl, m9, hw9, hx9⟩
              have HI9 := Lib.hid (HI8.out.putB hw9 hx9)
              clear hw9 hx9
              go_wp2_with fail
              go_meet
              exact ⟨s.mark.1, s.mark.2.1, s.mark.2.2, l8, m9, rfl, rfl, rfl, rfl, HI9.out⟩
            · have g1 : ¬ (m : Int) < 6 := by omega
              have g2 : ((m : Int) == 6) = false := by simp; omega
              have g3 : ((m : Int) == 7) = false := by simp; omega
              have HX1 : Hid (∀ w' : World, Has w' B 35 #[.int .i64 kind, .int .i64 aa, .int .u64 nn, .slice A3 n3 cv] → (w'.cell? ⟨B, 1, none⟩ = some (.int .i64 aa) ∧ Has w' B 35 #[.int .i64 kind, .int .i64 aa, .int .u64 nn, .slice A3 n3 cv])) := Lib.hid (fun w' h => ⟨h.cell 1, h⟩)
              clear hm6 hm7 hm8
              go_wp2_with fail
              go_region_held3 (fun w' => w'.cell? ⟨B, 1, none⟩ = some (.int .i64 aa) ∧ Has w' B 35 #[.int .i64 kind, .int .i64 aa, .int .u64 nn, .slice A3 n3 cv])
                (first | exact HX1.out _ HBoxD.out | exact HX1.out _ (HBoxD.out.turn hx8.1 HFar.out.1) | exact HX1.out _ ((HBoxD.out.turn hx8.1 HFar.out.1).turn hx10.1 HFar.out.2))
                (first
                  | (go_at_call 23; refine (wpatchL g l s _ HI.out.drew.a aa hwf).mono ?_; rintro en w8 ⟨rfl, l8, hw8, hx8⟩)
                  | (go_at_call 24; refine (ppatch o mm s _ (HI.out.drew.putA hw8 hx8).b aa hwf).mono ?_; rintro en w10 ⟨rfl, m10, hw10, hx10⟩))
              go_wp2_with fail
              go_meet
              exact ⟨0, (s.patch aa).1, (s.patch aa).2, l8, m10, rfl, rfl, rfl, rfl, (HI.out.drew.putA hw8 hx8).putB hw10 hx10⟩
      case rest =>
        obtain ⟨x, e, s', l', mm', rfl, rfl, rfl, rfl, hwi⟩ := hcut
        have HI5 := Lib.hid hwi
        clear hwi HI HFar HArr1 HBox HBoxD HX HOld HOld2
        go_wp2_with fail
        refine (woutL g l' s' _ HI5.out.a).mono ?_
        rintro en w6 ⟨⟨v, rfl, hcp⟩, hb6⟩
        have HI6 := Lib.hid (HI5.out.below hb6)
        obtain ⟨A9, c9, hc9, harr9⟩ := RwL.open HI6.out.b
        have hsm := WS.small HI6.out.b
        have hvarr : Arr w6 v s'.out := (Copied.got hcp).arr
        have hxx : (x != x) = false := bne_self_eq_false x
        have hee : (e != e) = false := bne_self_eq_false e
        have hll : ((s'.out.length : Int) != (s'.out.length : Int)) = false := bne_self_eq_false _
        have HV := Lib.hid (And.intro hvarr harr9)
        have HC : Hid ((v = .slice none 0 0 ∧ s'.out = []) ∨ ∃ h' c', v = .slice (some ⟨h', 0, none⟩) s'.out.length c' ∧ Row w6 h' c' s'.out ∧ h' ∉ l' ∧ h' ∉ mm' ∧ w.heap.size ≤ h') := Lib.hid (by
          rcases hcp with h | ⟨h', c', h1, h2, h3⟩
          · exact .inl h
          · refine .inr ⟨h', c', h1, h2, fun h4 => ?_, fun h4 => ?_, Nat.le_trans HI5.out.bel.size h3⟩
            · have := HI5.out.a.lt _ h4; omega
            · have := HI5.out.b.lt _ h4; omega)
        clear hcp hb6 hvarr harr9 HI5
        go_wp2_with fail
        go_quiet ((first
          | (go_at_call 26; exact Calls.quiet_of_same ((wlenL g l' s' _ (HI6.out.drewN _).a).mono fun _ _ h => ⟨h.1, h.2.symm⟩))
          | (go_at_call 27; exact Calls.quiet_of (same_yes v _ s'.out _ (HV.out.1.below ⟨rfl, rfl, rfl, Nat.le_refl _, fun _ _ => rfl⟩) (HV.out.2.below ⟨rfl, rfl, rfl, Nat.le_refl _, fun _ _ => rfl⟩) (by omega)))))
        have HI7 := Lib.hid (HI6.out.drewN nq)
        have HC7 : Hid ((v = .slice none 0 0 ∧ s'.out = []) ∨ ∃ h' c', v = .slice (some ⟨h', 0, none⟩) s'.out.length c' ∧ Row (w6.drewN nq) h' c' s'.out ∧ h' ∉ l' ∧ h' ∉ mm' ∧ w.heap.size ≤ h') := Lib.hid HC.out
        clear HI6 HC HV hc9 hxx hee hll
        generalize w6.drewN nq = w7 at *
        rcases HC7.out with ⟨rfl, _⟩ | ⟨h', c', rfl, hrow, hf1, hf2, hf3⟩
        · go_wp2_with fail
          go_loopw [17] (fun j wr2 => j = .int .i64 0 ∧ wr2 = w7) (fun _ _ => 0)
          case atStart => exact ⟨rfl, rfl⟩
          case round =>
            obtain ⟨rfl, rfl⟩ := hrel
            go_wp2_with fail
            refine ⟨⟨k + 1, s', l', mm', by omega, by go_num, HI7.out⟩, by simp [intOf]; omega⟩
        · have HR7 := Lib.hid hrow
          have HF7 := Lib.hid (And.intro hf1 (And.intro hf2 hf3))
          clear hrow hf1 hf2 hf3
          obtain ⟨nl, hnl⟩ : ∃ nl, s'.out.length = nl := ⟨_, rfl⟩
          have HNL := Lib.hid hnl
          rw [hnl] at hsm ⊢
          clear hnl
          go_wp2_with fail
          go_loopw [17] (fun j wr2 => ∃ (jj : Nat) (ys : List Int), jj ≤ nl ∧ j = .int .i64 jj ∧ ys.length = nl ∧ Row wr2 h' c' ys ∧ Turn [h'] w7 wr2) (fun j _ => nl - (intOf j).toNat)
          case atStart => exact ⟨0, s'.out, Nat.zero_le _, rfl, HNL.out, HR7.out, Turn.refl _ _⟩
          case round =>
            obtain ⟨jj, ys, hjl, rfl, hyl, hrw, htn⟩ := hrel
            by_cases hjt : jj < nl
            · have hcell := hrw.cell jj (by omega)
              have hfree : wr.frozen? ⟨h', jj, none⟩ = false := by
                obtain ⟨cur, hh, _⟩ := hrw
                exact hh.free _
              obtain ⟨y, hy⟩ : ∃ y, ys[jj]'(by omega) = y := ⟨_, rfl⟩
              rw [hy] at hcell
              have HRw := Lib.hid hrw
              have HTn := Lib.hid htn
              have HYl := Lib.hid hyl
              clear hy hrw htn hyl
              go_wp2_with fail
              go_roundw
              case rel => exact ⟨jj + 1, ys.set jj 77, by omega, by go_num, by simpa using HYl.out, HRw.out.set_ jj 77, HTn.out.set_ (.inl (by simp)) _⟩
              case measure => simp [intOf]; omega
            · have hjn : jj = nl := by omega
              subst hjn
              have HI8 := Lib.hid (HI7.out.turn htn (fun k hk hk2 => by simp at hk2; subst hk2; exact HF7.out.1 hk) (fun k hk hk2 => by simp at hk2; subst hk2; exact HF7.out.2.1 hk) (fun k hk => by simp at hk; subst hk; exact HF7.out.2.2))
              clear hrw htn hyl
              go_wp2_with fail
              refine ⟨⟨k + 1, s', l', mm', by omega, by go_num, HI8.out⟩, by simp [intOf]; omega⟩
    · have hke : k = ks.length := by omega
      subst hke
      go_wp2_with fail
      go_ret
      exact ⟨rfl, HIr.out.bel⟩

end Go.Proofs.Ytbaikpfibojdnaa
