/- The walk of AddrCovers. -/
import Derived.Test.YtpkdjikcckidgaaCovA
import Derived.Deep.RegionHeld3
namespace Go.Proofs.Ytpkdjikcckidgaa
open Go.ChangeShapes Go.WideShapes Go.ChangeAt Go.RowKit

set_option maxHeartbeats 2000000 in
theorem cov_11100010 (p l q m r n x : Int) (w : World)
    (V1 : Hid (vld l = true)) (V2 : Hid (vld m = true)) (P0 : Hid (cv p l p l = true)) (B1 : Hid (cv p l q m = true)) (b5 : Bool) (B5 : Hid (ct p l x = b5)) (E5 : Hid (cv p l x 32 = b5)) (hl0 : 0 ≤ l) (hl1 : l ≤ 32) (B2 : Hid (cv q m r n = false)) (B4 : Hid (ct q m x = false)) (B6 : Hid (cv q m p l = false)) (c1 : (cl p l == cl q m) = true) (c2 : (l == m) = false) (A1 : Hid (cv (cl p l) l p l = true)) (A2 : Hid (cv p l (cl p l) l = true)) :
    Calls Try.prog 3 #[pfx p l, pfx q m, pfx r n, .int .u32 x] w fun e w' => e = .returned (.bool true) ∧ Grown w w' := by
  go_enter Try.func3, Try.ntmps3
  go_wp2_with (first | (go_at_call 6; refine (lives_any _).mono ?_; rintro e w' ⟨rfl, rfl⟩))
  have hb5 : (b5 != b5) = false := bne_self_eq_false b5
  refine wp_region_held_drew (S := fun W => G (((w.alloc (pfxb p l)).alloc (pfxb q m)).alloc (pfxb r n)) W) (by kernel_rfl) (G.refl _).drew (fun hHeld => ?_)
  refine wpAnyH_take (i := 0) (oi := { dst := some 27, op := Go.Op.load 25 (Go.Operand.tmp 4), type := 25, pos := "law.go:153", after := #[], guard := none }) (v := ?_) rfl (by kernel_rfl) (by kernel_rfl) (by kernel_rfl) (fun _ _ _ h => h) (Or.inl ⟨by rfl, ?_⟩) (by assumption) ?_
  rotate_left
  · intro w hSw
    try dsimp only at hSw
    have hc := hSw.cells
    go_simp
    try with_reducible rfl
  try simp only [Act.put, List.setIfInBounds_toArray, List.set_cons_zero, List.set_cons_succ]
  refine wpAnyH_take (i := 1) (oi := { dst := some 28, op := Go.Op.load 25 (Go.Operand.tmp 4), type := 25, pos := "law.go:153", after := #[], guard := none }) (v := ?_) rfl (by kernel_rfl) (by kernel_rfl) (by kernel_rfl) (fun _ _ _ h => h) (Or.inl ⟨by rfl, ?_⟩) (by assumption) ?_
  rotate_left
  · intro w hSw
    try dsimp only at hSw
    have hc := hSw.cells
    go_simp
    try with_reducible rfl
  try simp only [Act.put, List.setIfInBounds_toArray, List.set_cons_zero, List.set_cons_succ]
  refine wpAnyH_take (i := 3) (oi := { dst := some 30, op := Go.Op.move (Go.Operand.tmp 9), type := 4, pos := "law.go:153", after := #[], guard := none }) (v := ?_) rfl (by kernel_rfl) (by kernel_rfl) (by kernel_rfl) (fun _ _ _ h => h) (Or.inl ⟨by rfl, ?_⟩) (by assumption) ?_
  rotate_left
  · intro w hSw
    try dsimp only at hSw
    have hc := hSw.cells
    go_simp
    try with_reducible rfl
  try simp only [Act.put, List.setIfInBounds_toArray, List.set_cons_zero, List.set_cons_succ]
  refine wpAnyH_ready (rs := [2]) (by kernel_rfl) (by simp) ?_
  refine AllReadyH.cons (o := { dst := some 29, op := Go.Op.call { callee := Go.Callee.value (Go.Operand.func 7), args := #[Go.Operand.tmp 27, Go.Operand.tmp 28], argTypes := #[25, 25] }, type := 4, pos := "law.go:153", after := #[{ on := 0, ground := Go.Ground.data }, { on := 1, ground := Go.Ground.data }], guard := none }) rfl (fun K hK => ?_) AllReadyH.nil
  go_simp
  refine (covers_b _ _ _ _ _ P0.out _).mono ?_
  rintro e w' ⟨rfl, hg⟩
  dsimp only
  refine hK.out _ _ ?_ (fun hHeld => ?_)
  · exact hHeld.trans hg
  clear hK K
  try simp only [Act.put, List.setIfInBounds_toArray, List.set_cons_zero, List.set_cons_succ]
  refine wpAnyH_take (i := 4) (oi := { dst := some 31, op := Go.Op.binOp Go.BinOp.neq 4 (Go.Operand.tmp 29) (Go.Operand.tmp 30) 4, type := 4, pos := "law.go:153", after := #[{ on := 2, ground := Go.Ground.data }, { on := 3, ground := Go.Ground.data }], guard := none }) (v := ?_) rfl (by kernel_rfl) (by kernel_rfl) (by kernel_rfl) (fun _ _ _ h => h) (Or.inl ⟨by rfl, ?_⟩) (by assumption) ?_
  rotate_left
  · intro w hSw
    try dsimp only at hSw
    have hc := hSw.cells
    go_simp
    try with_reducible rfl
  try simp only [Act.put, List.setIfInBounds_toArray, List.set_cons_zero, List.set_cons_succ]
  refine wpAnyH_take (i := 5) (oi := { dst := some 32, op := Go.Op.move (Go.Operand.tmp 31), type := 4, pos := "law.go:153", after := #[{ on := 4, ground := Go.Ground.data }, { on := 2, ground := Go.Ground.chain }], guard := none }) (v := ?_) rfl (by kernel_rfl) (by kernel_rfl) (by kernel_rfl) (fun _ _ _ h => h) (Or.inl ⟨by rfl, ?_⟩) (by assumption) ?_
  rotate_left
  · intro w hSw
    try dsimp only at hSw
    have hc := hSw.cells
    go_simp
    try with_reducible rfl
  try simp only [Act.put, List.setIfInBounds_toArray, List.set_cons_zero, List.set_cons_succ]
  refine wpAnyH_take (i := 6) (oi := { dst := some 33, op := Go.Op.load 25 (Go.Operand.tmp 4), type := 25, pos := "law.go:153", after := #[{ on := 5, ground := Go.Ground.guard }], guard := some (5, false) }) (v := ?_) rfl (by kernel_rfl) (by kernel_rfl) (by kernel_rfl) (fun _ _ _ h => h) (Or.inl ⟨by rfl, ?_⟩) (by assumption) ?_
  rotate_left
  · intro w hSw
    try dsimp only at hSw
    have hc := hSw.cells
    go_simp
    try with_reducible rfl
  try simp only [Act.put, List.setIfInBounds_toArray, List.set_cons_zero, List.set_cons_succ]
  refine wpAnyH_take (i := 7) (oi := { dst := some 34, op := Go.Op.move (Go.Operand.tmp 3), type := 23, pos := "law.go:153", after := #[{ on := 5, ground := Go.Ground.guard }], guard := some (5, false) }) (v := ?_) rfl (by kernel_rfl) (by kernel_rfl) (by kernel_rfl) (fun _ _ _ h => h) (Or.inl ⟨by rfl, ?_⟩) (by assumption) ?_
  rotate_left
  · intro w hSw
    try dsimp only at hSw
    have hc := hSw.cells
    go_simp
    try with_reducible rfl
  try simp only [Act.put, List.setIfInBounds_toArray, List.set_cons_zero, List.set_cons_succ]
  refine wpAnyH_take (i := 9) (oi := { dst := some 36, op := Go.Op.load 25 (Go.Operand.tmp 4), type := 25, pos := "law.go:153", after := #[{ on := 5, ground := Go.Ground.guard }], guard := some (5, false) }) (v := ?_) rfl (by kernel_rfl) (by kernel_rfl) (by kernel_rfl) (fun _ _ _ h => h) (Or.inl ⟨by rfl, ?_⟩) (by assumption) ?_
  rotate_left
  · intro w hSw
    try dsimp only at hSw
    have hc := hSw.cells
    go_simp
    try with_reducible rfl
  try simp only [Act.put, List.setIfInBounds_toArray, List.set_cons_zero, List.set_cons_succ]
  refine wpAnyH_take (i := 10) (oi := { dst := some 37, op := Go.Op.move (Go.Operand.tmp 3), type := 23, pos := "law.go:153", after := #[{ on := 5, ground := Go.Ground.guard }], guard := some (5, false) }) (v := ?_) rfl (by kernel_rfl) (by kernel_rfl) (by kernel_rfl) (fun _ _ _ h => h) (Or.inl ⟨by rfl, ?_⟩) (by assumption) ?_
  rotate_left
  · intro w hSw
    try dsimp only at hSw
    have hc := hSw.cells
    go_simp
    try with_reducible rfl
  try simp only [Act.put, List.setIfInBounds_toArray, List.set_cons_zero, List.set_cons_succ]
  refine wpAnyH_take (i := 11) (oi := { dst := some 38, op := Go.Op.build 25 #[(0, Go.Operand.tmp 37), (1, Go.Operand.const (Go.Value.int Go.IntKind.i64 32))], type := 25, pos := "law.go:153", after := #[{ on := 10, ground := Go.Ground.data }, { on := 5, ground := Go.Ground.guard }], guard := some (5, false) }) (v := ?_) rfl (by kernel_rfl) (by kernel_rfl) (by kernel_rfl) (fun _ _ _ h => h) (Or.inl ⟨by rfl, ?_⟩) (by assumption) ?_
  rotate_left
  · intro w hSw
    try dsimp only at hSw
    have hc := hSw.cells
    go_simp
    try with_reducible rfl
  try simp only [Act.put, List.setIfInBounds_toArray, List.set_cons_zero, List.set_cons_succ]
  refine wpAnyH_ready (rs := [8]) (by kernel_rfl) (by simp) ?_
  refine AllReadyH.cons (o := { dst := some 35, op := Go.Op.call { callee := Go.Callee.value (Go.Operand.func 8), args := #[Go.Operand.tmp 33, Go.Operand.tmp 34], argTypes := #[25, 23] }, type := 4, pos := "law.go:153", after := #[{ on := 6, ground := Go.Ground.data }, { on := 7, ground := Go.Ground.data }, { on := 5, ground := Go.Ground.chain }, { on := 5, ground := Go.Ground.guard }], guard := some (5, false) }) rfl (fun K hK => ?_) AllReadyH.nil
  go_simp
  refine (contains_b _ _ _ _ B5.out _).mono ?_
  rintro e w' ⟨rfl, hg⟩
  dsimp only
  refine hK.out _ _ ?_ (fun hHeld => ?_)
  · exact hHeld.trans hg
  clear hK K
  try simp only [Act.put, List.setIfInBounds_toArray, List.set_cons_zero, List.set_cons_succ]
  refine wpAnyH_ready (rs := [12]) (by kernel_rfl) (by simp) ?_
  refine AllReadyH.cons (o := { dst := some 39, op := Go.Op.call { callee := Go.Callee.value (Go.Operand.func 7), args := #[Go.Operand.tmp 36, Go.Operand.tmp 38], argTypes := #[25, 25] }, type := 4, pos := "law.go:153", after := #[{ on := 9, ground := Go.Ground.data }, { on := 11, ground := Go.Ground.data }, { on := 8, ground := Go.Ground.chain }, { on := 5, ground := Go.Ground.guard }], guard := some (5, false) }) rfl (fun K hK => ?_) AllReadyH.nil
  go_simp
  refine (covers_b _ _ _ _ _ E5.out _).mono ?_
  rintro e w' ⟨rfl, hg⟩
  dsimp only
  refine hK.out _ _ ?_ (fun hHeld => ?_)
  · exact hHeld.trans hg
  clear hK K
  try simp only [Act.put, List.setIfInBounds_toArray, List.set_cons_zero, List.set_cons_succ]
  refine wpAnyH_take (i := 13) (oi := { dst := some 40, op := Go.Op.binOp Go.BinOp.neq 4 (Go.Operand.tmp 35) (Go.Operand.tmp 39) 4, type := 4, pos := "law.go:153", after := #[{ on := 8, ground := Go.Ground.data }, { on := 12, ground := Go.Ground.data }, { on := 5, ground := Go.Ground.guard }], guard := some (5, false) }) (v := ?_) rfl (by kernel_rfl) (by kernel_rfl) (by kernel_rfl) (fun _ _ _ h => h) (Or.inl ⟨by rfl, ?_⟩) (by assumption) ?_
  rotate_left
  · intro w hSw
    try dsimp only at hSw
    have hc := hSw.cells
    go_simp
    try with_reducible rfl
  try simp only [Act.put, List.setIfInBounds_toArray, List.set_cons_zero, List.set_cons_succ]
  refine wpAnyH_take (i := 14) (oi := { dst := some 41, op := Go.Op.pick (Go.Operand.tmp 32) (Go.Operand.const (Go.Value.bool true)) (Go.Operand.tmp 40), type := 4, pos := "law.go:153", after := #[{ on := 5, ground := Go.Ground.data }, { on := 13, ground := Go.Ground.data }], guard := none }) (v := ?_) rfl (by kernel_rfl) (by kernel_rfl) (by kernel_rfl) (fun _ _ _ h => h) (Or.inl ⟨by rfl, ?_⟩) (by assumption) ?_
  rotate_left
  · intro w hSw
    try dsimp only at hSw
    have hc := hSw.cells
    go_simp
    try with_reducible rfl
  try simp only [Act.put, List.setIfInBounds_toArray, List.set_cons_zero, List.set_cons_succ]
  refine wpAnyH_done (by kernel_rfl) ?_ _
  have HG : G (((w.alloc (pfxb p l)).alloc (pfxb q m)).alloc (pfxb r n)) w' := hHeld
  clear P0 B5 E5 hb5 hHeld
  obtain ⟨d1, d2, d3, d4, d5, d6, hz⟩ := three HG
  go_wp2_with fail
  (with_reducible refine (covers_b _ _ _ _ _ B1.out _).mono ?_)
  rintro e w' ⟨rfl, hg⟩
  have HG1 : G (((w.alloc (pfxb p l)).alloc (pfxb q m)).alloc (pfxb r n)) w' := HG.trans hg
  clear d1 d2 d3 d4 d5 d6 hz HG
  have HG := HG1
  clear HG1
  obtain ⟨d1, d2, d3, d4, d5, d6, hz⟩ := three HG
  clear hg
  (try clear n1 n2 n3)
  have n1 : w.heap.size < w'.heap.size := by omega
  have n2 : w.heap.size + 1 < w'.heap.size := by omega
  have n3 : w.heap.size + 1 + 1 < w'.heap.size := by omega
  go_wp2_with fail
  (with_reducible refine (covers_b _ _ _ _ _ B2.out _).mono ?_)
  rintro e w' ⟨rfl, hg⟩
  have HG1 : G (((w.alloc (pfxb p l)).alloc (pfxb q m)).alloc (pfxb r n)) w' := HG.trans hg
  clear d1 d2 d3 d4 d5 d6 hz HG
  have HG := HG1
  clear HG1
  obtain ⟨d1, d2, d3, d4, d5, d6, hz⟩ := three HG
  clear hg
  (try clear n1 n2 n3)
  have n1 : w.heap.size < w'.heap.size := by omega
  have n2 : w.heap.size + 1 < w'.heap.size := by omega
  have n3 : w.heap.size + 1 + 1 < w'.heap.size := by omega
  go_wp2_with fail
  (with_reducible refine (covers_b _ _ _ _ _ B1.out _).mono ?_)
  rintro e w' ⟨rfl, hg⟩
  have HG1 : G (((w.alloc (pfxb p l)).alloc (pfxb q m)).alloc (pfxb r n)) w' := HG.trans hg
  clear d1 d2 d3 d4 d5 d6 hz HG
  have HG := HG1
  clear HG1
  obtain ⟨d1, d2, d3, d4, d5, d6, hz⟩ := three HG
  clear hg
  (try clear n1 n2 n3)
  have n1 : w.heap.size < w'.heap.size := by omega
  have n2 : w.heap.size + 1 < w'.heap.size := by omega
  have n3 : w.heap.size + 1 + 1 < w'.heap.size := by omega
  go_wp2_with fail
  (with_reducible refine (contains_b _ _ _ _ B4.out _).mono ?_)
  rintro e w' ⟨rfl, hg⟩
  have HG1 : G (((w.alloc (pfxb p l)).alloc (pfxb q m)).alloc (pfxb r n)) w' := HG.trans hg
  clear d1 d2 d3 d4 d5 d6 hz HG
  have HG := HG1
  clear HG1
  obtain ⟨d1, d2, d3, d4, d5, d6, hz⟩ := three HG
  clear hg
  (try clear n1 n2 n3)
  have n1 : w.heap.size < w'.heap.size := by omega
  have n2 : w.heap.size + 1 < w'.heap.size := by omega
  have n3 : w.heap.size + 1 + 1 < w'.heap.size := by omega
  go_wp2_with fail
  (with_reducible refine (clean_yes _ _ V1.out _).mono ?_)
  rintro e w' ⟨rfl, hg⟩
  have HG1 : G (((w.alloc (pfxb p l)).alloc (pfxb q m)).alloc (pfxb r n)) w' := HG.trans hg
  clear d1 d2 d3 d4 d5 d6 hz HG
  have HG := HG1
  clear HG1
  obtain ⟨d1, d2, d3, d4, d5, d6, hz⟩ := three HG
  clear hg
  (try clear n1 n2 n3)
  have n1 : w.heap.size < w'.heap.size := by omega
  have n2 : w.heap.size + 1 < w'.heap.size := by omega
  have n3 : w.heap.size + 1 + 1 < w'.heap.size := by omega
  go_wp2_with fail
  (with_reducible refine (clean_yes _ _ V2.out _).mono ?_)
  rintro e w' ⟨rfl, hg⟩
  have HG1 : G (((w.alloc (pfxb p l)).alloc (pfxb q m)).alloc (pfxb r n)) w' := HG.trans (((G.refl _).alloc _ _).trans hg)
  clear d1 d2 d3 d4 d5 d6 hz HG
  have HG := HG1
  clear HG1
  obtain ⟨d1, d2, d3, d4, d5, d6, hz⟩ := three HG
  obtain ⟨e1, e2, e3⟩ := newer hg
  clear hg
  (try clear n1 n2 n3)
  have n1 : w.heap.size < w'.heap.size := by omega
  have n2 : w.heap.size + 1 < w'.heap.size := by omega
  have n3 : w.heap.size + 1 + 1 < w'.heap.size := by omega
  go_wp2_with fail
  (with_reducible refine (covers_b _ _ _ _ _ B1.out _).mono ?_)
  rintro e w' ⟨rfl, hg⟩
  have HG1 : G (((w.alloc (pfxb p l)).alloc (pfxb q m)).alloc (pfxb r n)) w' := HG.trans (((G.refl _).alloc _ _).trans hg)
  clear d1 d2 d3 d4 d5 d6 hz HG
  have HG := HG1
  clear HG1
  obtain ⟨d1, d2, d3, d4, d5, d6, hz⟩ := three HG
  have en := older (((G.refl _).alloc _ _).trans hg) ⟨e1, e2, e3⟩
  clear e1 e2 e3
  obtain ⟨e1, e2, e3⟩ := en
  obtain ⟨f1, f2, f3⟩ := newer hg
  clear hg
  (try clear n1 n2 n3)
  have n1 : w.heap.size < w'.heap.size := by omega
  have n2 : w.heap.size + 1 < w'.heap.size := by omega
  have n3 : w.heap.size + 1 + 1 < w'.heap.size := by omega
  go_wp2_with fail
  (with_reducible refine (covers_b _ _ _ _ _ B6.out _).mono ?_)
  rintro e w' ⟨rfl, hg⟩
  have HG1 : G (((w.alloc (pfxb p l)).alloc (pfxb q m)).alloc (pfxb r n)) w' := HG.trans hg
  clear d1 d2 d3 d4 d5 d6 hz HG
  have HG := HG1
  clear HG1
  obtain ⟨d1, d2, d3, d4, d5, d6, hz⟩ := three HG
  have en := older hg ⟨e1, e2, e3⟩
  clear e1 e2 e3
  obtain ⟨e1, e2, e3⟩ := en
  have fn := older hg ⟨f1, f2, f3⟩
  clear f1 f2 f3
  obtain ⟨f1, f2, f3⟩ := fn
  clear hg
  (try clear n1 n2 n3)
  have n1 : w.heap.size < w'.heap.size := by omega
  have n2 : w.heap.size + 1 < w'.heap.size := by omega
  have n3 : w.heap.size + 1 + 1 < w'.heap.size := by omega
  go_wp2_with fail
  (with_reducible refine (clean_again _ _ V1.out _).mono ?_)
  rintro e w' ⟨rfl, hg⟩
  have HG1 : G (((w.alloc (pfxb p l)).alloc (pfxb q m)).alloc (pfxb r n)) w' := HG.trans hg
  clear d1 d2 d3 d4 d5 d6 hz HG
  have HG := HG1
  clear HG1
  obtain ⟨d1, d2, d3, d4, d5, d6, hz⟩ := three HG
  have en := older hg ⟨e1, e2, e3⟩
  clear e1 e2 e3
  obtain ⟨e1, e2, e3⟩ := en
  have fn := older hg ⟨f1, f2, f3⟩
  clear f1 f2 f3
  obtain ⟨f1, f2, f3⟩ := fn
  clear hg
  (try clear n1 n2 n3)
  have n1 : w.heap.size < w'.heap.size := by omega
  have n2 : w.heap.size + 1 < w'.heap.size := by omega
  have n3 : w.heap.size + 1 + 1 < w'.heap.size := by omega
  go_wp2_with fail
  (with_reducible refine (covers_b _ _ _ _ _ A1.out _).mono ?_)
  rintro e w' ⟨rfl, hg⟩
  have HG1 : G (((w.alloc (pfxb p l)).alloc (pfxb q m)).alloc (pfxb r n)) w' := HG.trans (((G.refl _).alloc _ _).trans hg)
  clear d1 d2 d3 d4 d5 d6 hz HG
  have HG := HG1
  clear HG1
  obtain ⟨d1, d2, d3, d4, d5, d6, hz⟩ := three HG
  have en := older (((G.refl _).alloc _ _).trans hg) ⟨e1, e2, e3⟩
  clear e1 e2 e3
  obtain ⟨e1, e2, e3⟩ := en
  have fn := older (((G.refl _).alloc _ _).trans hg) ⟨f1, f2, f3⟩
  clear f1 f2 f3
  obtain ⟨f1, f2, f3⟩ := fn
  obtain ⟨g1, g2, g3⟩ := newer hg
  clear hg
  (try clear n1 n2 n3)
  have n1 : w.heap.size < w'.heap.size := by omega
  have n2 : w.heap.size + 1 < w'.heap.size := by omega
  have n3 : w.heap.size + 1 + 1 < w'.heap.size := by omega
  go_wp2_with fail
  (with_reducible refine (covers_b _ _ _ _ _ A2.out _).mono ?_)
  rintro e w' ⟨rfl, hg⟩
  have HG1 : G (((w.alloc (pfxb p l)).alloc (pfxb q m)).alloc (pfxb r n)) w' := HG.trans hg
  clear d1 d2 d3 d4 d5 d6 hz HG
  have HG := HG1
  clear HG1
  obtain ⟨d1, d2, d3, d4, d5, d6, hz⟩ := three HG
  have en := older hg ⟨e1, e2, e3⟩
  clear e1 e2 e3
  obtain ⟨e1, e2, e3⟩ := en
  have fn := older hg ⟨f1, f2, f3⟩
  clear f1 f2 f3
  obtain ⟨f1, f2, f3⟩ := fn
  have gn := older hg ⟨g1, g2, g3⟩
  clear g1 g2 g3
  obtain ⟨g1, g2, g3⟩ := gn
  clear hg
  (try clear n1 n2 n3)
  have n1 : w.heap.size < w'.heap.size := by omega
  have n2 : w.heap.size + 1 < w'.heap.size := by omega
  have n3 : w.heap.size + 1 + 1 < w'.heap.size := by omega
  go_wp2_with fail
  go_ret
  exact ⟨rfl, ((((((G.refl w).alloc _ _).alloc _ _).alloc _ _).trans HG).grown)⟩

set_option maxHeartbeats 2000000 in
theorem cov_11101111 (p l q m r n x : Int) (w : World)
    (V1 : Hid (vld l = true)) (V2 : Hid (vld m = true)) (P0 : Hid (cv p l p l = true)) (B1 : Hid (cv p l q m = true)) (b5 : Bool) (B5 : Hid (ct p l x = b5)) (E5 : Hid (cv p l x 32 = b5)) (hl0 : 0 ≤ l) (hl1 : l ≤ 32) (B2 : Hid (cv q m r n = false)) (B4 : Hid (ct q m x = true)) (B5t : Hid (ct p l x = true)) (B6 : Hid (cv q m p l = true)) (c1 : (cl p l == cl q m) = true) (c2 : (l == m) = true) (A1 : Hid (cv (cl p l) l p l = true)) (A2 : Hid (cv p l (cl p l) l = true)) :
    Calls Try.prog 3 #[pfx p l, pfx q m, pfx r n, .int .u32 x] w fun e w' => e = .returned (.bool true) ∧ Grown w w' := by
  go_enter Try.func3, Try.ntmps3
  go_wp2_with (first | (go_at_call 6; refine (lives_any _).mono ?_; rintro e w' ⟨rfl, rfl⟩))
  have hb5 : (b5 != b5) = false := bne_self_eq_false b5
  refine wp_region_held_drew (S := fun W => G (((w.alloc (pfxb p l)).alloc (pfxb q m)).alloc (pfxb r n)) W) (by kernel_rfl) (G.refl _).drew (fun hHeld => ?_)
  refine wpAnyH_take (i := 0) (oi := { dst := some 27, op := Go.Op.load 25 (Go.Operand.tmp 4), type := 25, pos := "law.go:153", after := #[], guard := none }) (v := ?_) rfl (by kernel_rfl) (by kernel_rfl) (by kernel_rfl) (fun _ _ _ h => h) (Or.inl ⟨by rfl, ?_⟩) (by assumption) ?_
  rotate_left
  · intro w hSw
    try dsimp only at hSw
    have hc := hSw.cells
    go_simp
    try with_reducible rfl
  try simp only [Act.put, List.setIfInBounds_toArray, List.set_cons_zero, List.set_cons_succ]
  refine wpAnyH_take (i := 1) (oi := { dst := some 28, op := Go.Op.load 25 (Go.Operand.tmp 4), type := 25, pos := "law.go:153", after := #[], guard := none }) (v := ?_) rfl (by kernel_rfl) (by kernel_rfl) (by kernel_rfl) (fun _ _ _ h => h) (Or.inl ⟨by rfl, ?_⟩) (by assumption) ?_
  rotate_left
  · intro w hSw
    try dsimp only at hSw
    have hc := hSw.cells
    go_simp
    try with_reducible rfl
  try simp only [Act.put, List.setIfInBounds_toArray, List.set_cons_zero, List.set_cons_succ]
  refine wpAnyH_take (i := 3) (oi := { dst := some 30, op := Go.Op.move (Go.Operand.tmp 9), type := 4, pos := "law.go:153", after := #[], guard := none }) (v := ?_) rfl (by kernel_rfl) (by kernel_rfl) (by kernel_rfl) (fun _ _ _ h => h) (Or.inl ⟨by rfl, ?_⟩) (by assumption) ?_
  rotate_left
  · intro w hSw
    try dsimp only at hSw
    have hc := hSw.cells
    go_simp
    try with_reducible rfl
  try simp only [Act.put, List.setIfInBounds_toArray, List.set_cons_zero, List.set_cons_succ]
  refine wpAnyH_ready (rs := [2]) (by kernel_rfl) (by simp) ?_
  refine AllReadyH.cons (o := { dst := some 29, op := Go.Op.call { callee := Go.Callee.value (Go.Operand.func 7), args := #[Go.Operand.tmp 27, Go.Operand.tmp 28], argTypes := #[25, 25] }, type := 4, pos := "law.go:153", after := #[{ on := 0, ground := Go.Ground.data }, { on := 1, ground := Go.Ground.data }], guard := none }) rfl (fun K hK => ?_) AllReadyH.nil
  go_simp
  refine (covers_b _ _ _ _ _ P0.out _).mono ?_
  rintro e w' ⟨rfl, hg⟩
  dsimp only
  refine hK.out _ _ ?_ (fun hHeld => ?_)
  · exact hHeld.trans hg
  clear hK K
  try simp only [Act.put, List.setIfInBounds_toArray, List.set_cons_zero, List.set_cons_succ]
  refine wpAnyH_take (i := 4) (oi := { dst := some 31, op := Go.Op.binOp Go.BinOp.neq 4 (Go.Operand.tmp 29) (Go.Operand.tmp 30) 4, type := 4, pos := "law.go:153", after := #[{ on := 2, ground := Go.Ground.data }, { on := 3, ground := Go.Ground.data }], guard := none }) (v := ?_) rfl (by kernel_rfl) (by kernel_rfl) (by kernel_rfl) (fun _ _ _ h => h) (Or.inl ⟨by rfl, ?_⟩) (by assumption) ?_
  rotate_left
  · intro w hSw
    try dsimp only at hSw
    have hc := hSw.cells
    go_simp
    try with_reducible rfl
  try simp only [Act.put, List.setIfInBounds_toArray, List.set_cons_zero, List.set_cons_succ]
  refine wpAnyH_take (i := 5) (oi := { dst := some 32, op := Go.Op.move (Go.Operand.tmp 31), type := 4, pos := "law.go:153", after := #[{ on := 4, ground := Go.Ground.data }, { on := 2, ground := Go.Ground.chain }], guard := none }) (v := ?_) rfl (by kernel_rfl) (by kernel_rfl) (by kernel_rfl) (fun _ _ _ h => h) (Or.inl ⟨by rfl, ?_⟩) (by assumption) ?_
  rotate_left
  · intro w hSw
    try dsimp only at hSw
    have hc := hSw.cells
    go_simp
    try with_reducible rfl
  try simp only [Act.put, List.setIfInBounds_toArray, List.set_cons_zero, List.set_cons_succ]
  refine wpAnyH_take (i := 6) (oi := { dst := some 33, op := Go.Op.load 25 (Go.Operand.tmp 4), type := 25, pos := "law.go:153", after := #[{ on := 5, ground := Go.Ground.guard }], guard := some (5, false) }) (v := ?_) rfl (by kernel_rfl) (by kernel_rfl) (by kernel_rfl) (fun _ _ _ h => h) (Or.inl ⟨by rfl, ?_⟩) (by assumption) ?_
  rotate_left
  · intro w hSw
    try dsimp only at hSw
    have hc := hSw.cells
    go_simp
    try with_reducible rfl
  try simp only [Act.put, List.setIfInBounds_toArray, List.set_cons_zero, List.set_cons_succ]
  refine wpAnyH_take (i := 7) (oi := { dst := some 34, op := Go.Op.move (Go.Operand.tmp 3), type := 23, pos := "law.go:153", after := #[{ on := 5, ground := Go.Ground.guard }], guard := some (5, false) }) (v := ?_) rfl (by kernel_rfl) (by kernel_rfl) (by kernel_rfl) (fun _ _ _ h => h) (Or.inl ⟨by rfl, ?_⟩) (by assumption) ?_
  rotate_left
  · intro w hSw
    try dsimp only at hSw
    have hc := hSw.cells
    go_simp
    try with_reducible rfl
  try simp only [Act.put, List.setIfInBounds_toArray, List.set_cons_zero, List.set_cons_succ]
  refine wpAnyH_take (i := 9) (oi := { dst := some 36, op := Go.Op.load 25 (Go.Operand.tmp 4), type := 25, pos := "law.go:153", after := #[{ on := 5, ground := Go.Ground.guard }], guard := some (5, false) }) (v := ?_) rfl (by kernel_rfl) (by kernel_rfl) (by kernel_rfl) (fun _ _ _ h => h) (Or.inl ⟨by rfl, ?_⟩) (by assumption) ?_
  rotate_left
  · intro w hSw
    try dsimp only at hSw
    have hc := hSw.cells
    go_simp
    try with_reducible rfl
  try simp only [Act.put, List.setIfInBounds_toArray, List.set_cons_zero, List.set_cons_succ]
  refine wpAnyH_take (i := 10) (oi := { dst := some 37, op := Go.Op.move (Go.Operand.tmp 3), type := 23, pos := "law.go:153", after := #[{ on := 5, ground := Go.Ground.guard }], guard := some (5, false) }) (v := ?_) rfl (by kernel_rfl) (by kernel_rfl) (by kernel_rfl) (fun _ _ _ h => h) (Or.inl ⟨by rfl, ?_⟩) (by assumption) ?_
  rotate_left
  · intro w hSw
    try dsimp only at hSw
    have hc := hSw.cells
    go_simp
    try with_reducible rfl
  try simp only [Act.put, List.setIfInBounds_toArray, List.set_cons_zero, List.set_cons_succ]
  refine wpAnyH_take (i := 11) (oi := { dst := some 38, op := Go.Op.build 25 #[(0, Go.Operand.tmp 37), (1, Go.Operand.const (Go.Value.int Go.IntKind.i64 32))], type := 25, pos := "law.go:153", after := #[{ on := 10, ground := Go.Ground.data }, { on := 5, ground := Go.Ground.guard }], guard := some (5, false) }) (v := ?_) rfl (by kernel_rfl) (by kernel_rfl) (by kernel_rfl) (fun _ _ _ h => h) (Or.inl ⟨by rfl, ?_⟩) (by assumption) ?_
  rotate_left
  · intro w hSw
    try dsimp only at hSw
    have hc := hSw.cells
    go_simp
    try with_reducible rfl
  try simp only [Act.put, List.setIfInBounds_toArray, List.set_cons_zero, List.set_cons_succ]
  refine wpAnyH_ready (rs := [8]) (by kernel_rfl) (by simp) ?_
  refine AllReadyH.cons (o := { dst := some 35, op := Go.Op.call { callee := Go.Callee.value (Go.Operand.func 8), args := #[Go.Operand.tmp 33, Go.Operand.tmp 34], argTypes := #[25, 23] }, type := 4, pos := "law.go:153", after := #[{ on := 6, ground := Go.Ground.data }, { on := 7, ground := Go.Ground.data }, { on := 5, ground := Go.Ground.chain }, { on := 5, ground := Go.Ground.guard }], guard := some (5, false) }) rfl (fun K hK => ?_) AllReadyH.nil
  go_simp
  refine (contains_b _ _ _ _ B5.out _).mono ?_
  rintro e w' ⟨rfl, hg⟩
  dsimp only
  refine hK.out _ _ ?_ (fun hHeld => ?_)
  · exact hHeld.trans hg
  clear hK K
  try simp only [Act.put, List.setIfInBounds_toArray, List.set_cons_zero, List.set_cons_succ]
  refine wpAnyH_ready (rs := [12]) (by kernel_rfl) (by simp) ?_
  refine AllReadyH.cons (o := { dst := some 39, op := Go.Op.call { callee := Go.Callee.value (Go.Operand.func 7), args := #[Go.Operand.tmp 36, Go.Operand.tmp 38], argTypes := #[25, 25] }, type := 4, pos := "law.go:153", after := #[{ on := 9, ground := Go.Ground.data }, { on := 11, ground := Go.Ground.data }, { on := 8, ground := Go.Ground.chain }, { on := 5, ground := Go.Ground.guard }], guard := some (5, false) }) rfl (fun K hK => ?_) AllReadyH.nil
  go_simp
  refine (covers_b _ _ _ _ _ E5.out _).mono ?_
  rintro e w' ⟨rfl, hg⟩
  dsimp only
  refine hK.out _ _ ?_ (fun hHeld => ?_)
  · exact hHeld.trans hg
  clear hK K
  try simp only [Act.put, List.setIfInBounds_toArray, List.set_cons_zero, List.set_cons_succ]
  refine wpAnyH_take (i := 13) (oi := { dst := some 40, op := Go.Op.binOp Go.BinOp.neq 4 (Go.Operand.tmp 35) (Go.Operand.tmp 39) 4, type := 4, pos := "law.go:153", after := #[{ on := 8, ground := Go.Ground.data }, { on := 12, ground := Go.Ground.data }, { on := 5, ground := Go.Ground.guard }], guard := some (5, false) }) (v := ?_) rfl (by kernel_rfl) (by kernel_rfl) (by kernel_rfl) (fun _ _ _ h => h) (Or.inl ⟨by rfl, ?_⟩) (by assumption) ?_
  rotate_left
  · intro w hSw
    try dsimp only at hSw
    have hc := hSw.cells
    go_simp
    try with_reducible rfl
  try simp only [Act.put, List.setIfInBounds_toArray, List.set_cons_zero, List.set_cons_succ]
  refine wpAnyH_take (i := 14) (oi := { dst := some 41, op := Go.Op.pick (Go.Operand.tmp 32) (Go.Operand.const (Go.Value.bool true)) (Go.Operand.tmp 40), type := 4, pos := "law.go:153", after := #[{ on := 5, ground := Go.Ground.data }, { on := 13, ground := Go.Ground.data }], guard := none }) (v := ?_) rfl (by kernel_rfl) (by kernel_rfl) (by kernel_rfl) (fun _ _ _ h => h) (Or.inl ⟨by rfl, ?_⟩) (by assumption) ?_
  rotate_left
  · intro w hSw
    try dsimp only at hSw
    have hc := hSw.cells
    go_simp
    try with_reducible rfl
  try simp only [Act.put, List.setIfInBounds_toArray, List.set_cons_zero, List.set_cons_succ]
  refine wpAnyH_done (by kernel_rfl) ?_ _
  have HG : G (((w.alloc (pfxb p l)).alloc (pfxb q m)).alloc (pfxb r n)) w' := hHeld
  clear P0 B5 E5 hb5 hHeld
  obtain ⟨d1, d2, d3, d4, d5, d6, hz⟩ := three HG
  go_wp2_with fail
  (with_reducible refine (covers_b _ _ _ _ _ B1.out _).mono ?_)
  rintro e w' ⟨rfl, hg⟩
  have HG1 : G (((w.alloc (pfxb p l)).alloc (pfxb q m)).alloc (pfxb r n)) w' := HG.trans hg
  clear d1 d2 d3 d4 d5 d6 hz HG
  have HG := HG1
  clear HG1
  obtain ⟨d1, d2, d3, d4, d5, d6, hz⟩ := three HG
  clear hg
  (try clear n1 n2 n3)
  have n1 : w.heap.size < w'.heap.size := by omega
  have n2 : w.heap.size + 1 < w'.heap.size := by omega
  have n3 : w.heap.size + 1 + 1 < w'.heap.size := by omega
  go_wp2_with fail
  (with_reducible refine (covers_b _ _ _ _ _ B2.out _).mono ?_)
  rintro e w' ⟨rfl, hg⟩
  have HG1 : G (((w.alloc (pfxb p l)).alloc (pfxb q m)).alloc (pfxb r n)) w' := HG.trans hg
  clear d1 d2 d3 d4 d5 d6 hz HG
  have HG := HG1
  clear HG1
  obtain ⟨d1, d2, d3, d4, d5, d6, hz⟩ := three HG
  clear hg
  (try clear n1 n2 n3)
  have n1 : w.heap.size < w'.heap.size := by omega
  have n2 : w.heap.size + 1 < w'.heap.size := by omega
  have n3 : w.heap.size + 1 + 1 < w'.heap.size := by omega
  go_wp2_with fail
  (with_reducible refine (covers_b _ _ _ _ _ B1.out _).mono ?_)
  rintro e w' ⟨rfl, hg⟩
  have HG1 : G (((w.alloc (pfxb p l)).alloc (pfxb q m)).alloc (pfxb r n)) w' := HG.trans hg
  clear d1 d2 d3 d4 d5 d6 hz HG
  have HG := HG1
  clear HG1
  obtain ⟨d1, d2, d3, d4, d5, d6, hz⟩ := three HG
  clear hg
  (try clear n1 n2 n3)
  have n1 : w.heap.size < w'.heap.size := by omega
  have n2 : w.heap.size + 1 < w'.heap.size := by omega
  have n3 : w.heap.size + 1 + 1 < w'.heap.size := by omega
  go_wp2_with fail
  (with_reducible refine (contains_b _ _ _ _ B4.out _).mono ?_)
  rintro e w' ⟨rfl, hg⟩
  have HG1 : G (((w.alloc (pfxb p l)).alloc (pfxb q m)).alloc (pfxb r n)) w' := HG.trans hg
  clear d1 d2 d3 d4 d5 d6 hz HG
  have HG := HG1
  clear HG1
  obtain ⟨d1, d2, d3, d4, d5, d6, hz⟩ := three HG
  clear hg
  (try clear n1 n2 n3)
  have n1 : w.heap.size < w'.heap.size := by omega
  have n2 : w.heap.size + 1 < w'.heap.size := by omega
  have n3 : w.heap.size + 1 + 1 < w'.heap.size := by omega
  go_wp2_with fail
  (with_reducible refine (contains_b _ _ _ _ B5t.out _).mono ?_)
  rintro e w' ⟨rfl, hg⟩
  have HG1 : G (((w.alloc (pfxb p l)).alloc (pfxb q m)).alloc (pfxb r n)) w' := HG.trans hg
  clear d1 d2 d3 d4 d5 d6 hz HG
  have HG := HG1
  clear HG1
  obtain ⟨d1, d2, d3, d4, d5, d6, hz⟩ := three HG
  clear hg
  (try clear n1 n2 n3)
  have n1 : w.heap.size < w'.heap.size := by omega
  have n2 : w.heap.size + 1 < w'.heap.size := by omega
  have n3 : w.heap.size + 1 + 1 < w'.heap.size := by omega
  go_wp2_with fail
  (with_reducible refine (clean_yes _ _ V1.out _).mono ?_)
  rintro e w' ⟨rfl, hg⟩
  have HG1 : G (((w.alloc (pfxb p l)).alloc (pfxb q m)).alloc (pfxb r n)) w' := HG.trans hg
  clear d1 d2 d3 d4 d5 d6 hz HG
  have HG := HG1
  clear HG1
  obtain ⟨d1, d2, d3, d4, d5, d6, hz⟩ := three HG
  clear hg
  (try clear n1 n2 n3)
  have n1 : w.heap.size < w'.heap.size := by omega
  have n2 : w.heap.size + 1 < w'.heap.size := by omega
  have n3 : w.heap.size + 1 + 1 < w'.heap.size := by omega
  go_wp2_with fail
  (with_reducible refine (clean_yes _ _ V2.out _).mono ?_)
  rintro e w' ⟨rfl, hg⟩
  have HG1 : G (((w.alloc (pfxb p l)).alloc (pfxb q m)).alloc (pfxb r n)) w' := HG.trans (((G.refl _).alloc _ _).trans hg)
  clear d1 d2 d3 d4 d5 d6 hz HG
  have HG := HG1
  clear HG1
  obtain ⟨d1, d2, d3, d4, d5, d6, hz⟩ := three HG
  obtain ⟨e1, e2, e3⟩ := newer hg
  clear hg
  (try clear n1 n2 n3)
  have n1 : w.heap.size < w'.heap.size := by omega
  have n2 : w.heap.size + 1 < w'.heap.size := by omega
  have n3 : w.heap.size + 1 + 1 < w'.heap.size := by omega
  go_wp2_with fail
  (with_reducible refine (covers_b _ _ _ _ _ B1.out _).mono ?_)
  rintro e w' ⟨rfl, hg⟩
  have HG1 : G (((w.alloc (pfxb p l)).alloc (pfxb q m)).alloc (pfxb r n)) w' := HG.trans (((G.refl _).alloc _ _).trans hg)
  clear d1 d2 d3 d4 d5 d6 hz HG
  have HG := HG1
  clear HG1
  obtain ⟨d1, d2, d3, d4, d5, d6, hz⟩ := three HG
  have en := older (((G.refl _).alloc _ _).trans hg) ⟨e1, e2, e3⟩
  clear e1 e2 e3
  obtain ⟨e1, e2, e3⟩ := en
  obtain ⟨f1, f2, f3⟩ := newer hg
  clear hg
  (try clear n1 n2 n3)
  have n1 : w.heap.size < w'.heap.size := by omega
  have n2 : w.heap.size + 1 < w'.heap.size := by omega
  have n3 : w.heap.size + 1 + 1 < w'.heap.size := by omega
  go_wp2_with fail
  (with_reducible refine (covers_b _ _ _ _ _ B6.out _).mono ?_)
  rintro e w' ⟨rfl, hg⟩
  have HG1 : G (((w.alloc (pfxb p l)).alloc (pfxb q m)).alloc (pfxb r n)) w' := HG.trans hg
  clear d1 d2 d3 d4 d5 d6 hz HG
  have HG := HG1
  clear HG1
  obtain ⟨d1, d2, d3, d4, d5, d6, hz⟩ := three HG
  have en := older hg ⟨e1, e2, e3⟩
  clear e1 e2 e3
  obtain ⟨e1, e2, e3⟩ := en
  have fn := older hg ⟨f1, f2, f3⟩
  clear f1 f2 f3
  obtain ⟨f1, f2, f3⟩ := fn
  clear hg
  (try clear n1 n2 n3)
  have n1 : w.heap.size < w'.heap.size := by omega
  have n2 : w.heap.size + 1 < w'.heap.size := by omega
  have n3 : w.heap.size + 1 + 1 < w'.heap.size := by omega
  go_wp2_with fail
  (with_reducible refine (clean_again _ _ V1.out _).mono ?_)
  rintro e w' ⟨rfl, hg⟩
  have HG1 : G (((w.alloc (pfxb p l)).alloc (pfxb q m)).alloc (pfxb r n)) w' := HG.trans hg
  clear d1 d2 d3 d4 d5 d6 hz HG
  have HG := HG1
  clear HG1
  obtain ⟨d1, d2, d3, d4, d5, d6, hz⟩ := three HG
  have en := older hg ⟨e1, e2, e3⟩
  clear e1 e2 e3
  obtain ⟨e1, e2, e3⟩ := en
  have fn := older hg ⟨f1, f2, f3⟩
  clear f1 f2 f3
  obtain ⟨f1, f2, f3⟩ := fn
  clear hg
  (try clear n1 n2 n3)
  have n1 : w.heap.size < w'.heap.size := by omega
  have n2 : w.heap.size + 1 < w'.heap.size := by omega
  have n3 : w.heap.size + 1 + 1 < w'.heap.size := by omega
  go_wp2_with fail
  (with_reducible refine (covers_b _ _ _ _ _ A1.out _).mono ?_)
  rintro e w' ⟨rfl, hg⟩
  have HG1 : G (((w.alloc (pfxb p l)).alloc (pfxb q m)).alloc (pfxb r n)) w' := HG.trans (((G.refl _).alloc _ _).trans hg)
  clear d1 d2 d3 d4 d5 d6 hz HG
  have HG := HG1
  clear HG1
  obtain ⟨d1, d2, d3, d4, d5, d6, hz⟩ := three HG
  have en := older (((G.refl _).alloc _ _).trans hg) ⟨e1, e2, e3⟩
  clear e1 e2 e3
  obtain ⟨e1, e2, e3⟩ := en
  have fn := older (((G.refl _).alloc _ _).trans hg) ⟨f1, f2, f3⟩
  clear f1 f2 f3
  obtain ⟨f1, f2, f3⟩ := fn
  obtain ⟨g1, g2, g3⟩ := newer hg
  clear hg
  (try clear n1 n2 n3)
  have n1 : w.heap.size < w'.heap.size := by omega
  have n2 : w.heap.size + 1 < w'.heap.size := by omega
  have n3 : w.heap.size + 1 + 1 < w'.heap.size := by omega
  go_wp2_with fail
  (with_reducible refine (covers_b _ _ _ _ _ A2.out _).mono ?_)
  rintro e w' ⟨rfl, hg⟩
  have HG1 : G (((w.alloc (pfxb p l)).alloc (pfxb q m)).alloc (pfxb r n)) w' := HG.trans hg
  clear d1 d2 d3 d4 d5 d6 hz HG
  have HG := HG1
  clear HG1
  obtain ⟨d1, d2, d3, d4, d5, d6, hz⟩ := three HG
  have en := older hg ⟨e1, e2, e3⟩
  clear e1 e2 e3
  obtain ⟨e1, e2, e3⟩ := en
  have fn := older hg ⟨f1, f2, f3⟩
  clear f1 f2 f3
  obtain ⟨f1, f2, f3⟩ := fn
  have gn := older hg ⟨g1, g2, g3⟩
  clear g1 g2 g3
  obtain ⟨g1, g2, g3⟩ := gn
  clear hg
  (try clear n1 n2 n3)
  have n1 : w.heap.size < w'.heap.size := by omega
  have n2 : w.heap.size + 1 < w'.heap.size := by omega
  have n3 : w.heap.size + 1 + 1 < w'.heap.size := by omega
  go_wp2_with fail
  go_ret
  exact ⟨rfl, ((((((G.refl w).alloc _ _).alloc _ _).alloc _ _).trans HG).grown)⟩

set_option maxHeartbeats 2000000 in
theorem cov_11101000 (p l q m r n x : Int) (w : World)
    (V1 : Hid (vld l = true)) (V2 : Hid (vld m = true)) (P0 : Hid (cv p l p l = true)) (B1 : Hid (cv p l q m = true)) (b5 : Bool) (B5 : Hid (ct p l x = b5)) (E5 : Hid (cv p l x 32 = b5)) (hl0 : 0 ≤ l) (hl1 : l ≤ 32) (B2 : Hid (cv q m r n = false)) (B4 : Hid (ct q m x = true)) (B5t : Hid (ct p l x = true)) (B6 : Hid (cv q m p l = false)) (c1 : (cl p l == cl q m) = false) (A1 : Hid (cv (cl p l) l p l = true)) (A2 : Hid (cv p l (cl p l) l = true)) :
    Calls Try.prog 3 #[pfx p l, pfx q m, pfx r n, .int .u32 x] w fun e w' => e = .returned (.bool true) ∧ Grown w w' := by
  go_enter Try.func3, Try.ntmps3
  go_wp2_with (first | (go_at_call 6; refine (lives_any _).mono ?_; rintro e w' ⟨rfl, rfl⟩))
  have hb5 : (b5 != b5) = false := bne_self_eq_false b5
  refine wp_region_held_drew (S := fun W => G (((w.alloc (pfxb p l)).alloc (pfxb q m)).alloc (pfxb r n)) W) (by kernel_rfl) (G.refl _).drew (fun hHeld => ?_)
  refine wpAnyH_take (i := 0) (oi := { dst := some 27, op := Go.Op.load 25 (Go.Operand.tmp 4), type := 25, pos := "law.go:153", after := #[], guard := none }) (v := ?_) rfl (by kernel_rfl) (by kernel_rfl) (by kernel_rfl) (fun _ _ _ h => h) (Or.inl ⟨by rfl, ?_⟩) (by assumption) ?_
  rotate_left
  · intro w hSw
    try dsimp only at hSw
    have hc := hSw.cells
    go_simp
    try with_reducible rfl
  try simp only [Act.put, List.setIfInBounds_toArray, List.set_cons_zero, List.set_cons_succ]
  refine wpAnyH_take (i := 1) (oi := { dst := some 28, op := Go.Op.load 25 (Go.Operand.tmp 4), type := 25, pos := "law.go:153", after := #[], guard := none }) (v := ?_) rfl (by kernel_rfl) (by kernel_rfl) (by kernel_rfl) (fun _ _ _ h => h) (Or.inl ⟨by rfl, ?_⟩) (by assumption) ?_
  rotate_left
  · intro w hSw
    try dsimp only at hSw
    have hc := hSw.cells
    go_simp
    try with_reducible rfl
  try simp only [Act.put, List.setIfInBounds_toArray, List.set_cons_zero, List.set_cons_succ]
  refine wpAnyH_take (i := 3) (oi := { dst := some 30, op := Go.Op.move (Go.Operand.tmp 9), type := 4, pos := "law.go:153", after := #[], guard := none }) (v := ?_) rfl (by kernel_rfl) (by kernel_rfl) (by kernel_rfl) (fun _ _ _ h => h) (Or.inl ⟨by rfl, ?_⟩) (by assumption) ?_
  rotate_left
  · intro w hSw
    try dsimp only at hSw
    have hc := hSw.cells
    go_simp
    try with_reducible rfl
  try simp only [Act.put, List.setIfInBounds_toArray, List.set_cons_zero, List.set_cons_succ]
  refine wpAnyH_ready (rs := [2]) (by kernel_rfl) (by simp) ?_
  refine AllReadyH.cons (o := { dst := some 29, op := Go.Op.call { callee := Go.Callee.value (Go.Operand.func 7), args := #[Go.Operand.tmp 27, Go.Operand.tmp 28], argTypes := #[25, 25] }, type := 4, pos := "law.go:153", after := #[{ on := 0, ground := Go.Ground.data }, { on := 1, ground := Go.Ground.data }], guard := none }) rfl (fun K hK => ?_) AllReadyH.nil
  go_simp
  refine (covers_b _ _ _ _ _ P0.out _).mono ?_
  rintro e w' ⟨rfl, hg⟩
  dsimp only
  refine hK.out _ _ ?_ (fun hHeld => ?_)
  · exact hHeld.trans hg
  clear hK K
  try simp only [Act.put, List.setIfInBounds_toArray, List.set_cons_zero, List.set_cons_succ]
  refine wpAnyH_take (i := 4) (oi := { dst := some 31, op := Go.Op.binOp Go.BinOp.neq 4 (Go.Operand.tmp 29) (Go.Operand.tmp 30) 4, type := 4, pos := "law.go:153", after := #[{ on := 2, ground := Go.Ground.data }, { on := 3, ground := Go.Ground.data }], guard := none }) (v := ?_) rfl (by kernel_rfl) (by kernel_rfl) (by kernel_rfl) (fun _ _ _ h => h) (Or.inl ⟨by rfl, ?_⟩) (by assumption) ?_
  rotate_left
  · intro w hSw
    try dsimp only at hSw
    have hc := hSw.cells
    go_simp
    try with_reducible rfl
  try simp only [Act.put, List.setIfInBounds_toArray, List.set_cons_zero, List.set_cons_succ]
  refine wpAnyH_take (i := 5) (oi := { dst := some 32, op := Go.Op.move (Go.Operand.tmp 31), type := 4, pos := "law.go:153", after := #[{ on := 4, ground := Go.Ground.data }, { on := 2, ground := Go.Ground.chain }], guard := none }) (v := ?_) rfl (by kernel_rfl) (by kernel_rfl) (by kernel_rfl) (fun _ _ _ h => h) (Or.inl ⟨by rfl, ?_⟩) (by assumption) ?_
  rotate_left
  · intro w hSw
    try dsimp only at hSw
    have hc := hSw.cells
    go_simp
    try with_reducible rfl
  try simp only [Act.put, List.setIfInBounds_toArray, List.set_cons_zero, List.set_cons_succ]
  refine wpAnyH_take (i := 6) (oi := { dst := some 33, op := Go.Op.load 25 (Go.Operand.tmp 4), type := 25, pos := "law.go:153", after := #[{ on := 5, ground := Go.Ground.guard }], guard := some (5, false) }) (v := ?_) rfl (by kernel_rfl) (by kernel_rfl) (by kernel_rfl) (fun _ _ _ h => h) (Or.inl ⟨by rfl, ?_⟩) (by assumption) ?_
  rotate_left
  · intro w hSw
    try dsimp only at hSw
    have hc := hSw.cells
    go_simp
    try with_reducible rfl
  try simp only [Act.put, List.setIfInBounds_toArray, List.set_cons_zero, List.set_cons_succ]
  refine wpAnyH_take (i := 7) (oi := { dst := some 34, op := Go.Op.move (Go.Operand.tmp 3), type := 23, pos := "law.go:153", after := #[{ on := 5, ground := Go.Ground.guard }], guard := some (5, false) }) (v := ?_) rfl (by kernel_rfl) (by kernel_rfl) (by kernel_rfl) (fun _ _ _ h => h) (Or.inl ⟨by rfl, ?_⟩) (by assumption) ?_
  rotate_left
  · intro w hSw
    try dsimp only at hSw
    have hc := hSw.cells
    go_simp
    try with_reducible rfl
  try simp only [Act.put, List.setIfInBounds_toArray, List.set_cons_zero, List.set_cons_succ]
  refine wpAnyH_take (i := 9) (oi := { dst := some 36, op := Go.Op.load 25 (Go.Operand.tmp 4), type := 25, pos := "law.go:153", after := #[{ on := 5, ground := Go.Ground.guard }], guard := some (5, false) }) (v := ?_) rfl (by kernel_rfl) (by kernel_rfl) (by kernel_rfl) (fun _ _ _ h => h) (Or.inl ⟨by rfl, ?_⟩) (by assumption) ?_
  rotate_left
  · intro w hSw
    try dsimp only at hSw
    have hc := hSw.cells
    go_simp
    try with_reducible rfl
  try simp only [Act.put, List.setIfInBounds_toArray, List.set_cons_zero, List.set_cons_succ]
  refine wpAnyH_take (i := 10) (oi := { dst := some 37, op := Go.Op.move (Go.Operand.tmp 3), type := 23, pos := "law.go:153", after := #[{ on := 5, ground := Go.Ground.guard }], guard := some (5, false) }) (v := ?_) rfl (by kernel_rfl) (by kernel_rfl) (by kernel_rfl) (fun _ _ _ h => h) (Or.inl ⟨by rfl, ?_⟩) (by assumption) ?_
  rotate_left
  · intro w hSw
    try dsimp only at hSw
    have hc := hSw.cells
    go_simp
    try with_reducible rfl
  try simp only [Act.put, List.setIfInBounds_toArray, List.set_cons_zero, List.set_cons_succ]
  refine wpAnyH_take (i := 11) (oi := { dst := some 38, op := Go.Op.build 25 #[(0, Go.Operand.tmp 37), (1, Go.Operand.const (Go.Value.int Go.IntKind.i64 32))], type := 25, pos := "law.go:153", after := #[{ on := 10, ground := Go.Ground.data }, { on := 5, ground := Go.Ground.guard }], guard := some (5, false) }) (v := ?_) rfl (by kernel_rfl) (by kernel_rfl) (by kernel_rfl) (fun _ _ _ h => h) (Or.inl ⟨by rfl, ?_⟩) (by assumption) ?_
  rotate_left
  · intro w hSw
    try dsimp only at hSw
    have hc := hSw.cells
    go_simp
    try with_reducible rfl
  try simp only [Act.put, List.setIfInBounds_toArray, List.set_cons_zero, List.set_cons_succ]
  refine wpAnyH_ready (rs := [8]) (by kernel_rfl) (by simp) ?_
  refine AllReadyH.cons (o := { dst := some 35, op := Go.Op.call { callee := Go.Callee.value (Go.Operand.func 8), args := #[Go.Operand.tmp 33, Go.Operand.tmp 34], argTypes := #[25, 23] }, type := 4, pos := "law.go:153", after := #[{ on := 6, ground := Go.Ground.data }, { on := 7, ground := Go.Ground.data }, { on := 5, ground := Go.Ground.chain }, { on := 5, ground := Go.Ground.guard }], guard := some (5, false) }) rfl (fun K hK => ?_) AllReadyH.nil
  go_simp
  refine (contains_b _ _ _ _ B5.out _).mono ?_
  rintro e w' ⟨rfl, hg⟩
  dsimp only
  refine hK.out _ _ ?_ (fun hHeld => ?_)
  · exact hHeld.trans hg
  clear hK K
  try simp only [Act.put, List.setIfInBounds_toArray, List.set_cons_zero, List.set_cons_succ]
  refine wpAnyH_ready (rs := [12]) (by kernel_rfl) (by simp) ?_
  refine AllReadyH.cons (o := { dst := some 39, op := Go.Op.call { callee := Go.Callee.value (Go.Operand.func 7), args := #[Go.Operand.tmp 36, Go.Operand.tmp 38], argTypes := #[25, 25] }, type := 4, pos := "law.go:153", after := #[{ on := 9, ground := Go.Ground.data }, { on := 11, ground := Go.Ground.data }, { on := 8, ground := Go.Ground.chain }, { on := 5, ground := Go.Ground.guard }], guard := some (5, false) }) rfl (fun K hK => ?_) AllReadyH.nil
  go_simp
  refine (covers_b _ _ _ _ _ E5.out _).mono ?_
  rintro e w' ⟨rfl, hg⟩
  dsimp only
  refine hK.out _ _ ?_ (fun hHeld => ?_)
  · exact hHeld.trans hg
  clear hK K
  try simp only [Act.put, List.setIfInBounds_toArray, List.set_cons_zero, List.set_cons_succ]
  refine wpAnyH_take (i := 13) (oi := { dst := some 40, op := Go.Op.binOp Go.BinOp.neq 4 (Go.Operand.tmp 35) (Go.Operand.tmp 39) 4, type := 4, pos := "law.go:153", after := #[{ on := 8, ground := Go.Ground.data }, { on := 12, ground := Go.Ground.data }, { on := 5, ground := Go.Ground.guard }], guard := some (5, false) }) (v := ?_) rfl (by kernel_rfl) (by kernel_rfl) (by kernel_rfl) (fun _ _ _ h => h) (Or.inl ⟨by rfl, ?_⟩) (by assumption) ?_
  rotate_left
  · intro w hSw
    try dsimp only at hSw
    have hc := hSw.cells
    go_simp
    try with_reducible rfl
  try simp only [Act.put, List.setIfInBounds_toArray, List.set_cons_zero, List.set_cons_succ]
  refine wpAnyH_take (i := 14) (oi := { dst := some 41, op := Go.Op.pick (Go.Operand.tmp 32) (Go.Operand.const (Go.Value.bool true)) (Go.Operand.tmp 40), type := 4, pos := "law.go:153", after := #[{ on := 5, ground := Go.Ground.data }, { on := 13, ground := Go.Ground.data }], guard := none }) (v := ?_) rfl (by kernel_rfl) (by kernel_rfl) (by kernel_rfl) (fun _ _ _ h => h) (Or.inl ⟨by rfl, ?_⟩) (by assumption) ?_
  rotate_left
  · intro w hSw
    try dsimp only at hSw
    have hc := hSw.cells
    go_simp
    try with_reducible rfl
  try simp only [Act.put, List.setIfInBounds_toArray, List.set_cons_zero, List.set_cons_succ]
  refine wpAnyH_done (by kernel_rfl) ?_ _
  have HG : G (((w.alloc (pfxb p l)).alloc (pfxb q m)).alloc (pfxb r n)) w' := hHeld
  clear P0 B5 E5 hb5 hHeld
  obtain ⟨d1, d2, d3, d4, d5, d6, hz⟩ := three HG
  go_wp2_with fail
  (with_reducible refine (covers_b _ _ _ _ _ B1.out _).mono ?_)
  rintro e w' ⟨rfl, hg⟩
  have HG1 : G (((w.alloc (pfxb p l)).alloc (pfxb q m)).alloc (pfxb r n)) w' := HG.trans hg
  clear d1 d2 d3 d4 d5 d6 hz HG
  have HG := HG1
  clear HG1
  obtain ⟨d1, d2, d3, d4, d5, d6, hz⟩ := three HG
  clear hg
  (try clear n1 n2 n3)
  have n1 : w.heap.size < w'.heap.size := by omega
  have n2 : w.heap.size + 1 < w'.heap.size := by omega
  have n3 : w.heap.size + 1 + 1 < w'.heap.size := by omega
  go_wp2_with fail
  (with_reducible refine (covers_b _ _ _ _ _ B2.out _).mono ?_)
  rintro e w' ⟨rfl, hg⟩
  have HG1 : G (((w.alloc (pfxb p l)).alloc (pfxb q m)).alloc (pfxb r n)) w' := HG.trans hg
  clear d1 d2 d3 d4 d5 d6 hz HG
  have HG := HG1
  clear HG1
  obtain ⟨d1, d2, d3, d4, d5, d6, hz⟩ := three HG
  clear hg
  (try clear n1 n2 n3)
  have n1 : w.heap.size < w'.heap.size := by omega
  have n2 : w.heap.size + 1 < w'.heap.size := by omega
  have n3 : w.heap.size + 1 + 1 < w'.heap.size := by omega
  go_wp2_with fail
  (with_reducible refine (covers_b _ _ _ _ _ B1.out _).mono ?_)
  rintro e w' ⟨rfl, hg⟩
  have HG1 : G (((w.alloc (pfxb p l)).alloc (pfxb q m)).alloc (pfxb r n)) w' := HG.trans hg
  clear d1 d2 d3 d4 d5 d6 hz HG
  have HG := HG1
  clear HG1
  obtain ⟨d1, d2, d3, d4, d5, d6, hz⟩ := three HG
  clear hg
  (try clear n1 n2 n3)
  have n1 : w.heap.size < w'.heap.size := by omega
  have n2 : w.heap.size + 1 < w'.heap.size := by omega
  have n3 : w.heap.size + 1 + 1 < w'.heap.size := by omega
  go_wp2_with fail
  (with_reducible refine (contains_b _ _ _ _ B4.out _).mono ?_)
  rintro e w' ⟨rfl, hg⟩
  have HG1 : G (((w.alloc (pfxb p l)).alloc (pfxb q m)).alloc (pfxb r n)) w' := HG.trans hg
  clear d1 d2 d3 d4 d5 d6 hz HG
  have HG := HG1
  clear HG1
  obtain ⟨d1, d2, d3, d4, d5, d6, hz⟩ := three HG
  clear hg
  (try clear n1 n2 n3)
  have n1 : w.heap.size < w'.heap.size := by omega
  have n2 : w.heap.size + 1 < w'.heap.size := by omega
  have n3 : w.heap.size + 1 + 1 < w'.heap.size := by omega
  go_wp2_with fail
  (with_reducible refine (contains_b _ _ _ _ B5t.out _).mono ?_)
  rintro e w' ⟨rfl, hg⟩
  have HG1 : G (((w.alloc (pfxb p l)).alloc (pfxb q m)).alloc (pfxb r n)) w' := HG.trans hg
  clear d1 d2 d3 d4 d5 d6 hz HG
  have HG := HG1
  clear HG1
  obtain ⟨d1, d2, d3, d4, d5, d6, hz⟩ := three HG
  clear hg
  (try clear n1 n2 n3)
  have n1 : w.heap.size < w'.heap.size := by omega
  have n2 : w.heap.size + 1 < w'.heap.size := by omega
  have n3 : w.heap.size + 1 + 1 < w'.heap.size := by omega
  go_wp2_with fail
  (with_reducible refine (clean_yes _ _ V1.out _).mono ?_)
  rintro e w' ⟨rfl, hg⟩
  have HG1 : G (((w.alloc (pfxb p l)).alloc (pfxb q m)).alloc (pfxb r n)) w' := HG.trans hg
  clear d1 d2 d3 d4 d5 d6 hz HG
  have HG := HG1
  clear HG1
  obtain ⟨d1, d2, d3, d4, d5, d6, hz⟩ := three HG
  clear hg
  (try clear n1 n2 n3)
  have n1 : w.heap.size < w'.heap.size := by omega
  have n2 : w.heap.size + 1 < w'.heap.size := by omega
  have n3 : w.heap.size + 1 + 1 < w'.heap.size := by omega
  go_wp2_with fail
  (with_reducible refine (clean_yes _ _ V2.out _).mono ?_)
  rintro e w' ⟨rfl, hg⟩
  have HG1 : G (((w.alloc (pfxb p l)).alloc (pfxb q m)).alloc (pfxb r n)) w' := HG.trans (((G.refl _).alloc _ _).trans hg)
  clear d1 d2 d3 d4 d5 d6 hz HG
  have HG := HG1
  clear HG1
  obtain ⟨d1, d2, d3, d4, d5, d6, hz⟩ := three HG
  obtain ⟨e1, e2, e3⟩ := newer hg
  clear hg
  (try clear n1 n2 n3)
  have n1 : w.heap.size < w'.heap.size := by omega
  have n2 : w.heap.size + 1 < w'.heap.size := by omega
  have n3 : w.heap.size + 1 + 1 < w'.heap.size := by omega
  go_wp2_with fail
  (with_reducible refine (covers_b _ _ _ _ _ B1.out _).mono ?_)
  rintro e w' ⟨rfl, hg⟩
  have HG1 : G (((w.alloc (pfxb p l)).alloc (pfxb q m)).alloc (pfxb r n)) w' := HG.trans (((G.refl _).alloc _ _).trans hg)
  clear d1 d2 d3 d4 d5 d6 hz HG
  have HG := HG1
  clear HG1
  obtain ⟨d1, d2, d3, d4, d5, d6, hz⟩ := three HG
  have en := older (((G.refl _).alloc _ _).trans hg) ⟨e1, e2, e3⟩
  clear e1 e2 e3
  obtain ⟨e1, e2, e3⟩ := en
  obtain ⟨f1, f2, f3⟩ := newer hg
  clear hg
  (try clear n1 n2 n3)
  have n1 : w.heap.size < w'.heap.size := by omega
  have n2 : w.heap.size + 1 < w'.heap.size := by omega
  have n3 : w.heap.size + 1 + 1 < w'.heap.size := by omega
  go_wp2_with fail
  (with_reducible refine (covers_b _ _ _ _ _ B6.out _).mono ?_)
  rintro e w' ⟨rfl, hg⟩
  have HG1 : G (((w.alloc (pfxb p l)).alloc (pfxb q m)).alloc (pfxb r n)) w' := HG.trans hg
  clear d1 d2 d3 d4 d5 d6 hz HG
  have HG := HG1
  clear HG1
  obtain ⟨d1, d2, d3, d4, d5, d6, hz⟩ := three HG
  have en := older hg ⟨e1, e2, e3⟩
  clear e1 e2 e3
  obtain ⟨e1, e2, e3⟩ := en
  have fn := older hg ⟨f1, f2, f3⟩
  clear f1 f2 f3
  obtain ⟨f1, f2, f3⟩ := fn
  clear hg
  (try clear n1 n2 n3)
  have n1 : w.heap.size < w'.heap.size := by omega
  have n2 : w.heap.size + 1 < w'.heap.size := by omega
  have n3 : w.heap.size + 1 + 1 < w'.heap.size := by omega
  go_wp2_with fail
  (with_reducible refine (clean_again _ _ V1.out _).mono ?_)
  rintro e w' ⟨rfl, hg⟩
  have HG1 : G (((w.alloc (pfxb p l)).alloc (pfxb q m)).alloc (pfxb r n)) w' := HG.trans hg
  clear d1 d2 d3 d4 d5 d6 hz HG
  have HG := HG1
  clear HG1
  obtain ⟨d1, d2, d3, d4, d5, d6, hz⟩ := three HG
  have en := older hg ⟨e1, e2, e3⟩
  clear e1 e2 e3
  obtain ⟨e1, e2, e3⟩ := en
  have fn := older hg ⟨f1, f2, f3⟩
  clear f1 f2 f3
  obtain ⟨f1, f2, f3⟩ := fn
  clear hg
  (try clear n1 n2 n3)
  have n1 : w.heap.size < w'.heap.size := by omega
  have n2 : w.heap.size + 1 < w'.heap.size := by omega
  have n3 : w.heap.size + 1 + 1 < w'.heap.size := by omega
  go_wp2_with fail
  (with_reducible refine (covers_b _ _ _ _ _ A1.out _).mono ?_)
  rintro e w' ⟨rfl, hg⟩
  have HG1 : G (((w.alloc (pfxb p l)).alloc (pfxb q m)).alloc (pfxb r n)) w' := HG.trans (((G.refl _).alloc _ _).trans hg)
  clear d1 d2 d3 d4 d5 d6 hz HG
  have HG := HG1
  clear HG1
  obtain ⟨d1, d2, d3, d4, d5, d6, hz⟩ := three HG
  have en := older (((G.refl _).alloc _ _).trans hg) ⟨e1, e2, e3⟩
  clear e1 e2 e3
  obtain ⟨e1, e2, e3⟩ := en
  have fn := older (((G.refl _).alloc _ _).trans hg) ⟨f1, f2, f3⟩
  clear f1 f2 f3
  obtain ⟨f1, f2, f3⟩ := fn
  obtain ⟨g1, g2, g3⟩ := newer hg
  clear hg
  (try clear n1 n2 n3)
  have n1 : w.heap.size < w'.heap.size := by omega
  have n2 : w.heap.size + 1 < w'.heap.size := by omega
  have n3 : w.heap.size + 1 + 1 < w'.heap.size := by omega
  go_wp2_with fail
  (with_reducible refine (covers_b _ _ _ _ _ A2.out _).mono ?_)
  rintro e w' ⟨rfl, hg⟩
  have HG1 : G (((w.alloc (pfxb p l)).alloc (pfxb q m)).alloc (pfxb r n)) w' := HG.trans hg
  clear d1 d2 d3 d4 d5 d6 hz HG
  have HG := HG1
  clear HG1
  obtain ⟨d1, d2, d3, d4, d5, d6, hz⟩ := three HG
  have en := older hg ⟨e1, e2, e3⟩
  clear e1 e2 e3
  obtain ⟨e1, e2, e3⟩ := en
  have fn := older hg ⟨f1, f2, f3⟩
  clear f1 f2 f3
  obtain ⟨f1, f2, f3⟩ := fn
  have gn := older hg ⟨g1, g2, g3⟩
  clear g1 g2 g3
  obtain ⟨g1, g2, g3⟩ := gn
  clear hg
  (try clear n1 n2 n3)
  have n1 : w.heap.size < w'.heap.size := by omega
  have n2 : w.heap.size + 1 < w'.heap.size := by omega
  have n3 : w.heap.size + 1 + 1 < w'.heap.size := by omega
  go_wp2_with fail
  go_ret
  exact ⟨rfl, ((((((G.refl w).alloc _ _).alloc _ _).alloc _ _).trans HG).grown)⟩

set_option maxHeartbeats 2000000 in
theorem cov_11101010 (p l q m r n x : Int) (w : World)
    (V1 : Hid (vld l = true)) (V2 : Hid (vld m = true)) (P0 : Hid (cv p l p l = true)) (B1 : Hid (cv p l q m = true)) (b5 : Bool) (B5 : Hid (ct p l x = b5)) (E5 : Hid (cv p l x 32 = b5)) (hl0 : 0 ≤ l) (hl1 : l ≤ 32) (B2 : Hid (cv q m r n = false)) (B4 : Hid (ct q m x = true)) (B5t : Hid (ct p l x = true)) (B6 : Hid (cv q m p l = false)) (c1 : (cl p l == cl q m) = true) (c2 : (l == m) = false) (A1 : Hid (cv (cl p l) l p l = true)) (A2 : Hid (cv p l (cl p l) l = true)) :
    Calls Try.prog 3 #[pfx p l, pfx q m, pfx r n, .int .u32 x] w fun e w' => e = .returned (.bool true) ∧ Grown w w' := by
  go_enter Try.func3, Try.ntmps3
  go_wp2_with (first | (go_at_call 6; refine (lives_any _).mono ?_; rintro e w' ⟨rfl, rfl⟩))
  have hb5 : (b5 != b5) = false := bne_self_eq_false b5
  refine wp_region_held_drew (S := fun W => G (((w.alloc (pfxb p l)).alloc (pfxb q m)).alloc (pfxb r n)) W) (by kernel_rfl) (G.refl _).drew (fun hHeld => ?_)
  refine wpAnyH_take (i := 0) (oi := { dst := some 27, op := Go.Op.load 25 (Go.Operand.tmp 4), type := 25, pos := "law.go:153", after := #[], guard := none }) (v := ?_) rfl (by kernel_rfl) (by kernel_rfl) (by kernel_rfl) (fun _ _ _ h => h) (Or.inl ⟨by rfl, ?_⟩) (by assumption) ?_
  rotate_left
  · intro w hSw
    try dsimp only at hSw
    have hc := hSw.cells
    go_simp
    try with_reducible rfl
  try simp only [Act.put, List.setIfInBounds_toArray, List.set_cons_zero, List.set_cons_succ]
  refine wpAnyH_take (i := 1) (oi := { dst := some 28, op := Go.Op.load 25 (Go.Operand.tmp 4), type := 25, pos := "law.go:153", after := #[], guard := none }) (v := ?_) rfl (by kernel_rfl) (by kernel_rfl) (by kernel_rfl) (fun _ _ _ h => h) (Or.inl ⟨by rfl, ?_⟩) (by assumption) ?_
  rotate_left
  · intro w hSw
    try dsimp only at hSw
    have hc := hSw.cells
    go_simp
    try with_reducible rfl
  try simp only [Act.put, List.setIfInBounds_toArray, List.set_cons_zero, List.set_cons_succ]
  refine wpAnyH_take (i := 3) (oi := { dst := some 30, op := Go.Op.move (Go.Operand.tmp 9), type := 4, pos := "law.go:153", after := #[], guard := none }) (v := ?_) rfl (by kernel_rfl) (by kernel_rfl) (by kernel_rfl) (fun _ _ _ h => h) (Or.inl ⟨by rfl, ?_⟩) (by assumption) ?_
  rotate_left
  · intro w hSw
    try dsimp only at hSw
    have hc := hSw.cells
    go_simp
    try with_reducible rfl
  try simp only [Act.put, List.setIfInBounds_toArray, List.set_cons_zero, List.set_cons_succ]
  refine wpAnyH_ready (rs := [2]) (by kernel_rfl) (by simp) ?_
  refine AllReadyH.cons (o := { dst := some 29, op := Go.Op.call { callee := Go.Callee.value (Go.Operand.func 7), args := #[Go.Operand.tmp 27, Go.Operand.tmp 28], argTypes := #[25, 25] }, type := 4, pos := "law.go:153", after := #[{ on := 0, ground := Go.Ground.data }, { on := 1, ground := Go.Ground.data }], guard := none }) rfl (fun K hK => ?_) AllReadyH.nil
  go_simp
  refine (covers_b _ _ _ _ _ P0.out _).mono ?_
  rintro e w' ⟨rfl, hg⟩
  dsimp only
  refine hK.out _ _ ?_ (fun hHeld => ?_)
  · exact hHeld.trans hg
  clear hK K
  try simp only [Act.put, List.setIfInBounds_toArray, List.set_cons_zero, List.set_cons_succ]
  refine wpAnyH_take (i := 4) (oi := { dst := some 31, op := Go.Op.binOp Go.BinOp.neq 4 (Go.Operand.tmp 29) (Go.Operand.tmp 30) 4, type := 4, pos := "law.go:153", after := #[{ on := 2, ground := Go.Ground.data }, { on := 3, ground := Go.Ground.data }], guard := none }) (v := ?_) rfl (by kernel_rfl) (by kernel_rfl) (by kernel_rfl) (fun _ _ _ h => h) (Or.inl ⟨by rfl, ?_⟩) (by assumption) ?_
  rotate_left
  · intro w hSw
    try dsimp only at hSw
    have hc := hSw.cells
    go_simp
    try with_reducible rfl
  try simp only [Act.put, List.setIfInBounds_toArray, List.set_cons_zero, List.set_cons_succ]
  refine wpAnyH_take (i := 5) (oi := { dst := some 32, op := Go.Op.move (Go.Operand.tmp 31), type := 4, pos := "law.go:153", after := #[{ on := 4, ground := Go.Ground.data }, { on := 2, ground := Go.Ground.chain }], guard := none }) (v := ?_) rfl (by kernel_rfl) (by kernel_rfl) (by kernel_rfl) (fun _ _ _ h => h) (Or.inl ⟨by rfl, ?_⟩) (by assumption) ?_
  rotate_left
  · intro w hSw
    try dsimp only at hSw
    have hc := hSw.cells
    go_simp
    try with_reducible rfl
  try simp only [Act.put, List.setIfInBounds_toArray, List.set_cons_zero, List.set_cons_succ]
  refine wpAnyH_take (i := 6) (oi := { dst := some 33, op := Go.Op.load 25 (Go.Operand.tmp 4), type := 25, pos := "law.go:153", after := #[{ on := 5, ground := Go.Ground.guard }], guard := some (5, false) }) (v := ?_) rfl (by kernel_rfl) (by kernel_rfl) (by kernel_rfl) (fun _ _ _ h => h) (Or.inl ⟨by rfl, ?_⟩) (by assumption) ?_
  rotate_left
  · intro w hSw
    try dsimp only at hSw
    have hc := hSw.cells
    go_simp
    try with_reducible rfl
  try simp only [Act.put, List.setIfInBounds_toArray, List.set_cons_zero, List.set_cons_succ]
  refine wpAnyH_take (i := 7) (oi := { dst := some 34, op := Go.Op.move (Go.Operand.tmp 3), type := 23, pos := "law.go:153", after := #[{ on := 5, ground := Go.Ground.guard }], guard := some (5, false) }) (v := ?_) rfl (by kernel_rfl) (by kernel_rfl) (by kernel_rfl) (fun _ _ _ h => h) (Or.inl ⟨by rfl, ?_⟩) (by assumption) ?_
  rotate_left
  · intro w hSw
    try dsimp only at hSw
    have hc := hSw.cells
    go_simp
    try with_reducible rfl
  try simp only [Act.put, List.setIfInBounds_toArray, List.set_cons_zero, List.set_cons_succ]
  refine wpAnyH_take (i := 9) (oi := { dst := some 36, op := Go.Op.load 25 (Go.Operand.tmp 4), type := 25, pos := "law.go:153", after := #[{ on := 5, ground := Go.Ground.guard }], guard := some (5, false) }) (v := ?_) rfl (by kernel_rfl) (by kernel_rfl) (by kernel_rfl) (fun _ _ _ h => h) (Or.inl ⟨by rfl, ?_⟩) (by assumption) ?_
  rotate_left
  · intro w hSw
    try dsimp only at hSw
    have hc := hSw.cells
    go_simp
    try with_reducible rfl
  try simp only [Act.put, List.setIfInBounds_toArray, List.set_cons_zero, List.set_cons_succ]
  refine wpAnyH_take (i := 10) (oi := { dst := some 37, op := Go.Op.move (Go.Operand.tmp 3), type := 23, pos := "law.go:153", after := #[{ on := 5, ground := Go.Ground.guard }], guard := some (5, false) }) (v := ?_) rfl (by kernel_rfl) (by kernel_rfl) (by kernel_rfl) (fun _ _ _ h => h) (Or.inl ⟨by rfl, ?_⟩) (by assumption) ?_
  rotate_left
  · intro w hSw
    try dsimp only at hSw
    have hc := hSw.cells
    go_simp
    try with_reducible rfl
  try simp only [Act.put, List.setIfInBounds_toArray, List.set_cons_zero, List.set_cons_succ]
  refine wpAnyH_take (i := 11) (oi := { dst := some 38, op := Go.Op.build 25 #[(0, Go.Operand.tmp 37), (1, Go.Operand.const (Go.Value.int Go.IntKind.i64 32))], type := 25, pos := "law.go:153", after := #[{ on := 10, ground := Go.Ground.data }, { on := 5, ground := Go.Ground.guard }], guard := some (5, false) }) (v := ?_) rfl (by kernel_rfl) (by kernel_rfl) (by kernel_rfl) (fun _ _ _ h => h) (Or.inl ⟨by rfl, ?_⟩) (by assumption) ?_
  rotate_left
  · intro w hSw
    try dsimp only at hSw
    have hc := hSw.cells
    go_simp
    try with_reducible rfl
  try simp only [Act.put, List.setIfInBounds_toArray, List.set_cons_zero, List.set_cons_succ]
  refine wpAnyH_ready (rs := [8]) (by kernel_rfl) (by simp) ?_
  refine AllReadyH.cons (o := { dst := some 35, op := Go.Op.call { callee := Go.Callee.value (Go.Operand.func 8), args := #[Go.Operand.tmp 33, Go.Operand.tmp 34], argTypes := #[25, 23] }, type := 4, pos := "law.go:153", after := #[{ on := 6, ground := Go.Ground.data }, { on := 7, ground := Go.Ground.data }, { on := 5, ground := Go.Ground.chain }, { on := 5, ground := Go.Ground.guard }], guard := some (5, false) }) rfl (fun K hK => ?_) AllReadyH.nil
  go_simp
  refine (contains_b _ _ _ _ B5.out _).mono ?_
  rintro e w' ⟨rfl, hg⟩
  dsimp only
  refine hK.out _ _ ?_ (fun hHeld => ?_)
  · exact hHeld.trans hg
  clear hK K
  try simp only [Act.put, List.setIfInBounds_toArray, List.set_cons_zero, List.set_cons_succ]
  refine wpAnyH_ready (rs := [12]) (by kernel_rfl) (by simp) ?_
  refine AllReadyH.cons (o := { dst := some 39, op := Go.Op.call { callee := Go.Callee.value (Go.Operand.func 7), args := #[Go.Operand.tmp 36, Go.Operand.tmp 38], argTypes := #[25, 25] }, type := 4, pos := "law.go:153", after := #[{ on := 9, ground := Go.Ground.data }, { on := 11, ground := Go.Ground.data }, { on := 8, ground := Go.Ground.chain }, { on := 5, ground := Go.Ground.guard }], guard := some (5, false) }) rfl (fun K hK => ?_) AllReadyH.nil
  go_simp
  refine (covers_b _ _ _ _ _ E5.out _).mono ?_
  rintro e w' ⟨rfl, hg⟩
  dsimp only
  refine hK.out _ _ ?_ (fun hHeld => ?_)
  · exact hHeld.trans hg
  clear hK K
  try simp only [Act.put, List.setIfInBounds_toArray, List.set_cons_zero, List.set_cons_succ]
  refine wpAnyH_take (i := 13) (oi := { dst := some 40, op := Go.Op.binOp Go.BinOp.neq 4 (Go.Operand.tmp 35) (Go.Operand.tmp 39) 4, type := 4, pos := "law.go:153", after := #[{ on := 8, ground := Go.Ground.data }, { on := 12, ground := Go.Ground.data }, { on := 5, ground := Go.Ground.guard }], guard := some (5, false) }) (v := ?_) rfl (by kernel_rfl) (by kernel_rfl) (by kernel_rfl) (fun _ _ _ h => h) (Or.inl ⟨by rfl, ?_⟩) (by assumption) ?_
  rotate_left
  · intro w hSw
    try dsimp only at hSw
    have hc := hSw.cells
    go_simp
    try with_reducible rfl
  try simp only [Act.put, List.setIfInBounds_toArray, List.set_cons_zero, List.set_cons_succ]
  refine wpAnyH_take (i := 14) (oi := { dst := some 41, op := Go.Op.pick (Go.Operand.tmp 32) (Go.Operand.const (Go.Value.bool true)) (Go.Operand.tmp 40), type := 4, pos := "law.go:153", after := #[{ on := 5, ground := Go.Ground.data }, { on := 13, ground := Go.Ground.data }], guard := none }) (v := ?_) rfl (by kernel_rfl) (by kernel_rfl) (by kernel_rfl) (fun _ _ _ h => h) (Or.inl ⟨by rfl, ?_⟩) (by assumption) ?_
  rotate_left
  · intro w hSw
    try dsimp only at hSw
    have hc := hSw.cells
    go_simp
    try with_reducible rfl
  try simp only [Act.put, List.setIfInBounds_toArray, List.set_cons_zero, List.set_cons_succ]
  refine wpAnyH_done (by kernel_rfl) ?_ _
  have HG : G (((w.alloc (pfxb p l)).alloc (pfxb q m)).alloc (pfxb r n)) w' := hHeld
  clear P0 B5 E5 hb5 hHeld
  obtain ⟨d1, d2, d3, d4, d5, d6, hz⟩ := three HG
  go_wp2_with fail
  (with_reducible refine (covers_b _ _ _ _ _ B1.out _).mono ?_)
  rintro e w' ⟨rfl, hg⟩
  have HG1 : G (((w.alloc (pfxb p l)).alloc (pfxb q m)).alloc (pfxb r n)) w' := HG.trans hg
  clear d1 d2 d3 d4 d5 d6 hz HG
  have HG := HG1
  clear HG1
  obtain ⟨d1, d2, d3, d4, d5, d6, hz⟩ := three HG
  clear hg
  (try clear n1 n2 n3)
  have n1 : w.heap.size < w'.heap.size := by omega
  have n2 : w.heap.size + 1 < w'.heap.size := by omega
  have n3 : w.heap.size + 1 + 1 < w'.heap.size := by omega
  go_wp2_with fail
  (with_reducible refine (covers_b _ _ _ _ _ B2.out _).mono ?_)
  rintro e w' ⟨rfl, hg⟩
  have HG1 : G (((w.alloc (pfxb p l)).alloc (pfxb q m)).alloc (pfxb r n)) w' := HG.trans hg
  clear d1 d2 d3 d4 d5 d6 hz HG
  have HG := HG1
  clear HG1
  obtain ⟨d1, d2, d3, d4, d5, d6, hz⟩ := three HG
  clear hg
  (try clear n1 n2 n3)
  have n1 : w.heap.size < w'.heap.size := by omega
  have n2 : w.heap.size + 1 < w'.heap.size := by omega
  have n3 : w.heap.size + 1 + 1 < w'.heap.size := by omega
  go_wp2_with fail
  (with_reducible refine (covers_b _ _ _ _ _ B1.out _).mono ?_)
  rintro e w' ⟨rfl, hg⟩
  have HG1 : G (((w.alloc (pfxb p l)).alloc (pfxb q m)).alloc (pfxb r n)) w' := HG.trans hg
  clear d1 d2 d3 d4 d5 d6 hz HG
  have HG := HG1
  clear HG1
  obtain ⟨d1, d2, d3, d4, d5, d6, hz⟩ := three HG
  clear hg
  (try clear n1 n2 n3)
  have n1 : w.heap.size < w'.heap.size := by omega
  have n2 : w.heap.size + 1 < w'.heap.size := by omega
  have n3 : w.heap.size + 1 + 1 < w'.heap.size := by omega
  go_wp2_with fail
  (with_reducible refine (contains_b _ _ _ _ B4.out _).mono ?_)
  rintro e w' ⟨rfl, hg⟩
  have HG1 : G (((w.alloc (pfxb p l)).alloc (pfxb q m)).alloc (pfxb r n)) w' := HG.trans hg
  clear d1 d2 d3 d4 d5 d6 hz HG
  have HG := HG1
  clear HG1
  obtain ⟨d1, d2, d3, d4, d5, d6, hz⟩ := three HG
  clear hg
  (try clear n1 n2 n3)
  have n1 : w.heap.size < w'.heap.size := by omega
  have n2 : w.heap.size + 1 < w'.heap.size := by omega
  have n3 : w.heap.size + 1 + 1 < w'.heap.size := by omega
  go_wp2_with fail
  (with_reducible refine (contains_b _ _ _ _ B5t.out _).mono ?_)
  rintro e w' ⟨rfl, hg⟩
  have HG1 : G (((w.alloc (pfxb p l)).alloc (pfxb q m)).alloc (pfxb r n)) w' := HG.trans hg
  clear d1 d2 d3 d4 d5 d6 hz HG
  have HG := HG1
  clear HG1
  obtain ⟨d1, d2, d3, d4, d5, d6, hz⟩ := three HG
  clear hg
  (try clear n1 n2 n3)
  have n1 : w.heap.size < w'.heap.size := by omega
  have n2 : w.heap.size + 1 < w'.heap.size := by omega
  have n3 : w.heap.size + 1 + 1 < w'.heap.size := by omega
  go_wp2_with fail
  (with_reducible refine (clean_yes _ _ V1.out _).mono ?_)
  rintro e w' ⟨rfl, hg⟩
  have HG1 : G (((w.alloc (pfxb p l)).alloc (pfxb q m)).alloc (pfxb r n)) w' := HG.trans hg
  clear d1 d2 d3 d4 d5 d6 hz HG
  have HG := HG1
  clear HG1
  obtain ⟨d1, d2, d3, d4, d5, d6, hz⟩ := three HG
  clear hg
  (try clear n1 n2 n3)
  have n1 : w.heap.size < w'.heap.size := by omega
  have n2 : w.heap.size + 1 < w'.heap.size := by omega
  have n3 : w.heap.size + 1 + 1 < w'.heap.size := by omega
  go_wp2_with fail
  (with_reducible refine (clean_yes _ _ V2.out _).mono ?_)
  rintro e w' ⟨rfl, hg⟩
  have HG1 : G (((w.alloc (pfxb p l)).alloc (pfxb q m)).alloc (pfxb r n)) w' := HG.trans (((G.refl _).alloc _ _).trans hg)
  clear d1 d2 d3 d4 d5 d6 hz HG
  have HG := HG1
  clear HG1
  obtain ⟨d1, d2, d3, d4, d5, d6, hz⟩ := three HG
  obtain ⟨e1, e2, e3⟩ := newer hg
  clear hg
  (try clear n1 n2 n3)
  have n1 : w.heap.size < w'.heap.size := by omega
  have n2 : w.heap.size + 1 < w'.heap.size := by omega
  have n3 : w.heap.size + 1 + 1 < w'.heap.size := by omega
  go_wp2_with fail
  (with_reducible refine (covers_b _ _ _ _ _ B1.out _).mono ?_)
  rintro e w' ⟨rfl, hg⟩
  have HG1 : G (((w.alloc (pfxb p l)).alloc (pfxb q m)).alloc (pfxb r n)) w' := HG.trans (((G.refl _).alloc _ _).trans hg)
  clear d1 d2 d3 d4 d5 d6 hz HG
  have HG := HG1
  clear HG1
  obtain ⟨d1, d2, d3, d4, d5, d6, hz⟩ := three HG
  have en := older (((G.refl _).alloc _ _).trans hg) ⟨e1, e2, e3⟩
  clear e1 e2 e3
  obtain ⟨e1, e2, e3⟩ := en
  obtain ⟨f1, f2, f3⟩ := newer hg
  clear hg
  (try clear n1 n2 n3)
  have n1 : w.heap.size < w'.heap.size := by omega
  have n2 : w.heap.size + 1 < w'.heap.size := by omega
  have n3 : w.heap.size + 1 + 1 < w'.heap.size := by omega
  go_wp2_with fail
  (with_reducible refine (covers_b _ _ _ _ _ B6.out _).mono ?_)
  rintro e w' ⟨rfl, hg⟩
  have HG1 : G (((w.alloc (pfxb p l)).alloc (pfxb q m)).alloc (pfxb r n)) w' := HG.trans hg
  clear d1 d2 d3 d4 d5 d6 hz HG
  have HG := HG1
  clear HG1
  obtain ⟨d1, d2, d3, d4, d5, d6, hz⟩ := three HG
  have en := older hg ⟨e1, e2, e3⟩
  clear e1 e2 e3
  obtain ⟨e1, e2, e3⟩ := en
  have fn := older hg ⟨f1, f2, f3⟩
  clear f1 f2 f3
  obtain ⟨f1, f2, f3⟩ := fn
  clear hg
  (try clear n1 n2 n3)
  have n1 : w.heap.size < w'.heap.size := by omega
  have n2 : w.heap.size + 1 < w'.heap.size := by omega
  have n3 : w.heap.size + 1 + 1 < w'.heap.size := by omega
  go_wp2_with fail
  (with_reducible refine (clean_again _ _ V1.out _).mono ?_)
  rintro e w' ⟨rfl, hg⟩
  have HG1 : G (((w.alloc (pfxb p l)).alloc (pfxb q m)).alloc (pfxb r n)) w' := HG.trans hg
  clear d1 d2 d3 d4 d5 d6 hz HG
  have HG := HG1
  clear HG1
  obtain ⟨d1, d2, d3, d4, d5, d6, hz⟩ := three HG
  have en := older hg ⟨e1, e2, e3⟩
  clear e1 e2 e3
  obtain ⟨e1, e2, e3⟩ := en
  have fn := older hg ⟨f1, f2, f3⟩
  clear f1 f2 f3
  obtain ⟨f1, f2, f3⟩ := fn
  clear hg
  (try clear n1 n2 n3)
  have n1 : w.heap.size < w'.heap.size := by omega
  have n2 : w.heap.size + 1 < w'.heap.size := by omega
  have n3 : w.heap.size + 1 + 1 < w'.heap.size := by omega
  go_wp2_with fail
  (with_reducible refine (covers_b _ _ _ _ _ A1.out _).mono ?_)
  rintro e w' ⟨rfl, hg⟩
  have HG1 : G (((w.alloc (pfxb p l)).alloc (pfxb q m)).alloc (pfxb r n)) w' := HG.trans (((G.refl _).alloc _ _).trans hg)
  clear d1 d2 d3 d4 d5 d6 hz HG
  have HG := HG1
  clear HG1
  obtain ⟨d1, d2, d3, d4, d5, d6, hz⟩ := three HG
  have en := older (((G.refl _).alloc _ _).trans hg) ⟨e1, e2, e3⟩
  clear e1 e2 e3
  obtain ⟨e1, e2, e3⟩ := en
  have fn := older (((G.refl _).alloc _ _).trans hg) ⟨f1, f2, f3⟩
  clear f1 f2 f3
  obtain ⟨f1, f2, f3⟩ := fn
  obtain ⟨g1, g2, g3⟩ := newer hg
  clear hg
  (try clear n1 n2 n3)
  have n1 : w.heap.size < w'.heap.size := by omega
  have n2 : w.heap.size + 1 < w'.heap.size := by omega
  have n3 : w.heap.size + 1 + 1 < w'.heap.size := by omega
  go_wp2_with fail
  (with_reducible refine (covers_b _ _ _ _ _ A2.out _).mono ?_)
  rintro e w' ⟨rfl, hg⟩
  have HG1 : G (((w.alloc (pfxb p l)).alloc (pfxb q m)).alloc (pfxb r n)) w' := HG.trans hg
  clear d1 d2 d3 d4 d5 d6 hz HG
  have HG := HG1
  clear HG1
  obtain ⟨d1, d2, d3, d4, d5, d6, hz⟩ := three HG
  have en := older hg ⟨e1, e2, e3⟩
  clear e1 e2 e3
  obtain ⟨e1, e2, e3⟩ := en
  have fn := older hg ⟨f1, f2, f3⟩
  clear f1 f2 f3
  obtain ⟨f1, f2, f3⟩ := fn
  have gn := older hg ⟨g1, g2, g3⟩
  clear g1 g2 g3
  obtain ⟨g1, g2, g3⟩ := gn
  clear hg
  (try clear n1 n2 n3)
  have n1 : w.heap.size < w'.heap.size := by omega
  have n2 : w.heap.size + 1 < w'.heap.size := by omega
  have n3 : w.heap.size + 1 + 1 < w'.heap.size := by omega
  go_wp2_with fail
  go_ret
  exact ⟨rfl, ((((((G.refl w).alloc _ _).alloc _ _).alloc _ _).trans HG).grown)⟩

set_option maxHeartbeats 2000000 in
theorem cov_11110111 (p l q m r n x : Int) (w : World)
    (V1 : Hid (vld l = true)) (V2 : Hid (vld m = true)) (P0 : Hid (cv p l p l = true)) (B1 : Hid (cv p l q m = true)) (b5 : Bool) (B5 : Hid (ct p l x = b5)) (E5 : Hid (cv p l x 32 = b5)) (hl0 : 0 ≤ l) (hl1 : l ≤ 32) (B2 : Hid (cv q m r n = true)) (B4 : Hid (ct q m x = false)) (B3 : Hid (cv p l r n = true)) (B6 : Hid (cv q m p l = true)) (c1 : (cl p l == cl q m) = true) (c2 : (l == m) = true) (A1 : Hid (cv (cl p l) l p l = true)) (A2 : Hid (cv p l (cl p l) l = true)) :
    Calls Try.prog 3 #[pfx p l, pfx q m, pfx r n, .int .u32 x] w fun e w' => e = .returned (.bool true) ∧ Grown w w' := by
  go_enter Try.func3, Try.ntmps3
  go_wp2_with (first | (go_at_call 6; refine (lives_any _).mono ?_; rintro e w' ⟨rfl, rfl⟩))
  have hb5 : (b5 != b5) = false := bne_self_eq_false b5
  refine wp_region_held_drew (S := fun W => G (((w.alloc (pfxb p l)).alloc (pfxb q m)).alloc (pfxb r n)) W) (by kernel_rfl) (G.refl _).drew (fun hHeld => ?_)
  refine wpAnyH_take (i := 0) (oi := { dst := some 27, op := Go.Op.load 25 (Go.Operand.tmp 4), type := 25, pos := "law.go:153", after := #[], guard := none }) (v := ?_) rfl (by kernel_rfl) (by kernel_rfl) (by kernel_rfl) (fun _ _ _ h => h) (Or.inl ⟨by rfl, ?_⟩) (by assumption) ?_
  rotate_left
  · intro w hSw
    try dsimp only at hSw
    have hc := hSw.cells
    go_simp
    try with_reducible rfl
  try simp only [Act.put, List.setIfInBounds_toArray, List.set_cons_zero, List.set_cons_succ]
  refine wpAnyH_take (i := 1) (oi := { dst := some 28, op := Go.Op.load 25 (Go.Operand.tmp 4), type := 25, pos := "law.go:153", after := #[], guard := none }) (v := ?_) rfl (by kernel_rfl) (by kernel_rfl) (by kernel_rfl) (fun _ _ _ h => h) (Or.inl ⟨by rfl, ?_⟩) (by assumption) ?_
  rotate_left
  · intro w hSw
    try dsimp only at hSw
    have hc := hSw.cells
    go_simp
    try with_reducible rfl
  try simp only [Act.put, List.setIfInBounds_toArray, List.set_cons_zero, List.set_cons_succ]
  refine wpAnyH_take (i := 3) (oi := { dst := some 30, op := Go.Op.move (Go.Operand.tmp 9), type := 4, pos := "law.go:153", after := #[], guard := none }) (v := ?_) rfl (by kernel_rfl) (by kernel_rfl) (by kernel_rfl) (fun _ _ _ h => h) (Or.inl ⟨by rfl, ?_⟩) (by assumption) ?_
  rotate_left
  · intro w hSw
    try dsimp only at hSw
    have hc := hSw.cells
    go_simp
    try with_reducible rfl
  try simp only [Act.put, List.setIfInBounds_toArray, List.set_cons_zero, List.set_cons_succ]
  refine wpAnyH_ready (rs := [2]) (by kernel_rfl) (by simp) ?_
  refine AllReadyH.cons (o := { dst := some 29, op := Go.Op.call { callee := Go.Callee.value (Go.Operand.func 7), args := #[Go.Operand.tmp 27, Go.Operand.tmp 28], argTypes := #[25, 25] }, type := 4, pos := "law.go:153", after := #[{ on := 0, ground := Go.Ground.data }, { on := 1, ground := Go.Ground.data }], guard := none }) rfl (fun K hK => ?_) AllReadyH.nil
  go_simp
  refine (covers_b _ _ _ _ _ P0.out _).mono ?_
  rintro e w' ⟨rfl, hg⟩
  dsimp only
  refine hK.out _ _ ?_ (fun hHeld => ?_)
  · exact hHeld.trans hg
  clear hK K
  try simp only [Act.put, List.setIfInBounds_toArray, List.set_cons_zero, List.set_cons_succ]
  refine wpAnyH_take (i := 4) (oi := { dst := some 31, op := Go.Op.binOp Go.BinOp.neq 4 (Go.Operand.tmp 29) (Go.Operand.tmp 30) 4, type := 4, pos := "law.go:153", after := #[{ on := 2, ground := Go.Ground.data }, { on := 3, ground := Go.Ground.data }], guard := none }) (v := ?_) rfl (by kernel_rfl) (by kernel_rfl) (by kernel_rfl) (fun _ _ _ h => h) (Or.inl ⟨by rfl, ?_⟩) (by assumption) ?_
  rotate_left
  · intro w hSw
    try dsimp only at hSw
    have hc := hSw.cells
    go_simp
    try with_reducible rfl
  try simp only [Act.put, List.setIfInBounds_toArray, List.set_cons_zero, List.set_cons_succ]
  refine wpAnyH_take (i := 5) (oi := { dst := some 32, op := Go.Op.move (Go.Operand.tmp 31), type := 4, pos := "law.go:153", after := #[{ on := 4, ground := Go.Ground.data }, { on := 2, ground := Go.Ground.chain }], guard := none }) (v := ?_) rfl (by kernel_rfl) (by kernel_rfl) (by kernel_rfl) (fun _ _ _ h => h) (Or.inl ⟨by rfl, ?_⟩) (by assumption) ?_
  rotate_left
  · intro w hSw
    try dsimp only at hSw
    have hc := hSw.cells
    go_simp
    try with_reducible rfl
  try simp only [Act.put, List.setIfInBounds_toArray, List.set_cons_zero, List.set_cons_succ]
  refine wpAnyH_take (i := 6) (oi := { dst := some 33, op := Go.Op.load 25 (Go.Operand.tmp 4), type := 25, pos := "law.go:153", after := #[{ on := 5, ground := Go.Ground.guard }], guard := some (5, false) }) (v := ?_) rfl (by kernel_rfl) (by kernel_rfl) (by kernel_rfl) (fun _ _ _ h => h) (Or.inl ⟨by rfl, ?_⟩) (by assumption) ?_
  rotate_left
  · intro w hSw
    try dsimp only at hSw
    have hc := hSw.cells
    go_simp
    try with_reducible rfl
  try simp only [Act.put, List.setIfInBounds_toArray, List.set_cons_zero, List.set_cons_succ]
  refine wpAnyH_take (i := 7) (oi := { dst := some 34, op := Go.Op.move (Go.Operand.tmp 3), type := 23, pos := "law.go:153", after := #[{ on := 5, ground := Go.Ground.guard }], guard := some (5, false) }) (v := ?_) rfl (by kernel_rfl) (by kernel_rfl) (by kernel_rfl) (fun _ _ _ h => h) (Or.inl ⟨by rfl, ?_⟩) (by assumption) ?_
  rotate_left
  · intro w hSw
    try dsimp only at hSw
    have hc := hSw.cells
    go_simp
    try with_reducible rfl
  try simp only [Act.put, List.setIfInBounds_toArray, List.set_cons_zero, List.set_cons_succ]
  refine wpAnyH_take (i := 9) (oi := { dst := some 36, op := Go.Op.load 25 (Go.Operand.tmp 4), type := 25, pos := "law.go:153", after := #[{ on := 5, ground := Go.Ground.guard }], guard := some (5, false) }) (v := ?_) rfl (by kernel_rfl) (by kernel_rfl) (by kernel_rfl) (fun _ _ _ h => h) (Or.inl ⟨by rfl, ?_⟩) (by assumption) ?_
  rotate_left
  · intro w hSw
    try dsimp only at hSw
    have hc := hSw.cells
    go_simp
    try with_reducible rfl
  try simp only [Act.put, List.setIfInBounds_toArray, List.set_cons_zero, List.set_cons_succ]
  refine wpAnyH_take (i := 10) (oi := { dst := some 37, op := Go.Op.move (Go.Operand.tmp 3), type := 23, pos := "law.go:153", after := #[{ on := 5, ground := Go.Ground.guard }], guard := some (5, false) }) (v := ?_) rfl (by kernel_rfl) (by kernel_rfl) (by kernel_rfl) (fun _ _ _ h => h) (Or.inl ⟨by rfl, ?_⟩) (by assumption) ?_
  rotate_left
  · intro w hSw
    try dsimp only at hSw
    have hc := hSw.cells
    go_simp
    try with_reducible rfl
  try simp only [Act.put, List.setIfInBounds_toArray, List.set_cons_zero, List.set_cons_succ]
  refine wpAnyH_take (i := 11) (oi := { dst := some 38, op := Go.Op.build 25 #[(0, Go.Operand.tmp 37), (1, Go.Operand.const (Go.Value.int Go.IntKind.i64 32))], type := 25, pos := "law.go:153", after := #[{ on := 10, ground := Go.Ground.data }, { on := 5, ground := Go.Ground.guard }], guard := some (5, false) }) (v := ?_) rfl (by kernel_rfl) (by kernel_rfl) (by kernel_rfl) (fun _ _ _ h => h) (Or.inl ⟨by rfl, ?_⟩) (by assumption) ?_
  rotate_left
  · intro w hSw
    try dsimp only at hSw
    have hc := hSw.cells
    go_simp
    try with_reducible rfl
  try simp only [Act.put, List.setIfInBounds_toArray, List.set_cons_zero, List.set_cons_succ]
  refine wpAnyH_ready (rs := [8]) (by kernel_rfl) (by simp) ?_
  refine AllReadyH.cons (o := { dst := some 35, op := Go.Op.call { callee := Go.Callee.value (Go.Operand.func 8), args := #[Go.Operand.tmp 33, Go.Operand.tmp 34], argTypes := #[25, 23] }, type := 4, pos := "law.go:153", after := #[{ on := 6, ground := Go.Ground.data }, { on := 7, ground := Go.Ground.data }, { on := 5, ground := Go.Ground.chain }, { on := 5, ground := Go.Ground.guard }], guard := some (5, false) }) rfl (fun K hK => ?_) AllReadyH.nil
  go_simp
  refine (contains_b _ _ _ _ B5.out _).mono ?_
  rintro e w' ⟨rfl, hg⟩
  dsimp only
  refine hK.out _ _ ?_ (fun hHeld => ?_)
  · exact hHeld.trans hg
  clear hK K
  try simp only [Act.put, List.setIfInBounds_toArray, List.set_cons_zero, List.set_cons_succ]
  refine wpAnyH_ready (rs := [12]) (by kernel_rfl) (by simp) ?_
  refine AllReadyH.cons (o := { dst := some 39, op := Go.Op.call { callee := Go.Callee.value (Go.Operand.func 7), args := #[Go.Operand.tmp 36, Go.Operand.tmp 38], argTypes := #[25, 25] }, type := 4, pos := "law.go:153", after := #[{ on := 9, ground := Go.Ground.data }, { on := 11, ground := Go.Ground.data }, { on := 8, ground := Go.Ground.chain }, { on := 5, ground := Go.Ground.guard }], guard := some (5, false) }) rfl (fun K hK => ?_) AllReadyH.nil
  go_simp
  refine (covers_b _ _ _ _ _ E5.out _).mono ?_
  rintro e w' ⟨rfl, hg⟩
  dsimp only
  refine hK.out _ _ ?_ (fun hHeld => ?_)
  · exact hHeld.trans hg
  clear hK K
  try simp only [Act.put, List.setIfInBounds_toArray, List.set_cons_zero, List.set_cons_succ]
  refine wpAnyH_take (i := 13) (oi := { dst := some 40, op := Go.Op.binOp Go.BinOp.neq 4 (Go.Operand.tmp 35) (Go.Operand.tmp 39) 4, type := 4, pos := "law.go:153", after := #[{ on := 8, ground := Go.Ground.data }, { on := 12, ground := Go.Ground.data }, { on := 5, ground := Go.Ground.guard }], guard := some (5, false) }) (v := ?_) rfl (by kernel_rfl) (by kernel_rfl) (by kernel_rfl) (fun _ _ _ h => h) (Or.inl ⟨by rfl, ?_⟩) (by assumption) ?_
  rotate_left
  · intro w hSw
    try dsimp only at hSw
    have hc := hSw.cells
    go_simp
    try with_reducible rfl
  try simp only [Act.put, List.setIfInBounds_toArray, List.set_cons_zero, List.set_cons_succ]
  refine wpAnyH_take (i := 14) (oi := { dst := some 41, op := Go.Op.pick (Go.Operand.tmp 32) (Go.Operand.const (Go.Value.bool true)) (Go.Operand.tmp 40), type := 4, pos := "law.go:153", after := #[{ on := 5, ground := Go.Ground.data }, { on := 13, ground := Go.Ground.data }], guard := none }) (v := ?_) rfl (by kernel_rfl) (by kernel_rfl) (by kernel_rfl) (fun _ _ _ h => h) (Or.inl ⟨by rfl, ?_⟩) (by assumption) ?_
  rotate_left
  · intro w hSw
    try dsimp only at hSw
    have hc := hSw.cells
    go_simp
    try with_reducible rfl
  try simp only [Act.put, List.setIfInBounds_toArray, List.set_cons_zero, List.set_cons_succ]
  refine wpAnyH_done (by kernel_rfl) ?_ _
  have HG : G (((w.alloc (pfxb p l)).alloc (pfxb q m)).alloc (pfxb r n)) w' := hHeld
  clear P0 B5 E5 hb5 hHeld
  obtain ⟨d1, d2, d3, d4, d5, d6, hz⟩ := three HG
  go_wp2_with fail
  (with_reducible refine (covers_b _ _ _ _ _ B1.out _).mono ?_)
  rintro e w' ⟨rfl, hg⟩
  have HG1 : G (((w.alloc (pfxb p l)).alloc (pfxb q m)).alloc (pfxb r n)) w' := HG.trans hg
  clear d1 d2 d3 d4 d5 d6 hz HG
  have HG := HG1
  clear HG1
  obtain ⟨d1, d2, d3, d4, d5, d6, hz⟩ := three HG
  clear hg
  (try clear n1 n2 n3)
  have n1 : w.heap.size < w'.heap.size := by omega
  have n2 : w.heap.size + 1 < w'.heap.size := by omega
  have n3 : w.heap.size + 1 + 1 < w'.heap.size := by omega
  go_wp2_with fail
  (with_reducible refine (covers_b _ _ _ _ _ B2.out _).mono ?_)
  rintro e w' ⟨rfl, hg⟩
  have HG1 : G (((w.alloc (pfxb p l)).alloc (pfxb q m)).alloc (pfxb r n)) w' := HG.trans hg
  clear d1 d2 d3 d4 d5 d6 hz HG
  have HG := HG1
  clear HG1
  obtain ⟨d1, d2, d3, d4, d5, d6, hz⟩ := three HG
  clear hg
  (try clear n1 n2 n3)
  have n1 : w.heap.size < w'.heap.size := by omega
  have n2 : w.heap.size + 1 < w'.heap.size := by omega
  have n3 : w.heap.size + 1 + 1 < w'.heap.size := by omega
  go_wp2_with fail
  (with_reducible refine (covers_b _ _ _ _ _ B3.out _).mono ?_)
  rintro e w' ⟨rfl, hg⟩
  have HG1 : G (((w.alloc (pfxb p l)).alloc (pfxb q m)).alloc (pfxb r n)) w' := HG.trans hg
  clear d1 d2 d3 d4 d5 d6 hz HG
  have HG := HG1
  clear HG1
  obtain ⟨d1, d2, d3, d4, d5, d6, hz⟩ := three HG
  clear hg
  (try clear n1 n2 n3)
  have n1 : w.heap.size < w'.heap.size := by omega
  have n2 : w.heap.size + 1 < w'.heap.size := by omega
  have n3 : w.heap.size + 1 + 1 < w'.heap.size := by omega
  go_wp2_with fail
  (with_reducible refine (covers_b _ _ _ _ _ B1.out _).mono ?_)
  rintro e w' ⟨rfl, hg⟩
  have HG1 : G (((w.alloc (pfxb p l)).alloc (pfxb q m)).alloc (pfxb r n)) w' := HG.trans hg
  clear d1 d2 d3 d4 d5 d6 hz HG
  have HG := HG1
  clear HG1
  obtain ⟨d1, d2, d3, d4, d5, d6, hz⟩ := three HG
  clear hg
  (try clear n1 n2 n3)
  have n1 : w.heap.size < w'.heap.size := by omega
  have n2 : w.heap.size + 1 < w'.heap.size := by omega
  have n3 : w.heap.size + 1 + 1 < w'.heap.size := by omega
  go_wp2_with fail
  (with_reducible refine (contains_b _ _ _ _ B4.out _).mono ?_)
  rintro e w' ⟨rfl, hg⟩
  have HG1 : G (((w.alloc (pfxb p l)).alloc (pfxb q m)).alloc (pfxb r n)) w' := HG.trans hg
  clear d1 d2 d3 d4 d5 d6 hz HG
  have HG := HG1
  clear HG1
  obtain ⟨d1, d2, d3, d4, d5, d6, hz⟩ := three HG
  clear hg
  (try clear n1 n2 n3)
  have n1 : w.heap.size < w'.heap.size := by omega
  have n2 : w.heap.size + 1 < w'.heap.size := by omega
  have n3 : w.heap.size + 1 + 1 < w'.heap.size := by omega
  go_wp2_with fail
  (with_reducible refine (clean_yes _ _ V1.out _).mono ?_)
  rintro e w' ⟨rfl, hg⟩
  have HG1 : G (((w.alloc (pfxb p l)).alloc (pfxb q m)).alloc (pfxb r n)) w' := HG.trans hg
  clear d1 d2 d3 d4 d5 d6 hz HG
  have HG := HG1
  clear HG1
  obtain ⟨d1, d2, d3, d4, d5, d6, hz⟩ := three HG
  clear hg
  (try clear n1 n2 n3)
  have n1 : w.heap.size < w'.heap.size := by omega
  have n2 : w.heap.size + 1 < w'.heap.size := by omega
  have n3 : w.heap.size + 1 + 1 < w'.heap.size := by omega
  go_wp2_with fail
  (with_reducible refine (clean_yes _ _ V2.out _).mono ?_)
  rintro e w' ⟨rfl, hg⟩
  have HG1 : G (((w.alloc (pfxb p l)).alloc (pfxb q m)).alloc (pfxb r n)) w' := HG.trans (((G.refl _).alloc _ _).trans hg)
  clear d1 d2 d3 d4 d5 d6 hz HG
  have HG := HG1
  clear HG1
  obtain ⟨d1, d2, d3, d4, d5, d6, hz⟩ := three HG
  obtain ⟨e1, e2, e3⟩ := newer hg
  clear hg
  (try clear n1 n2 n3)
  have n1 : w.heap.size < w'.heap.size := by omega
  have n2 : w.heap.size + 1 < w'.heap.size := by omega
  have n3 : w.heap.size + 1 + 1 < w'.heap.size := by omega
  go_wp2_with fail
  (with_reducible refine (covers_b _ _ _ _ _ B1.out _).mono ?_)
  rintro e w' ⟨rfl, hg⟩
  have HG1 : G (((w.alloc (pfxb p l)).alloc (pfxb q m)).alloc (pfxb r n)) w' := HG.trans (((G.refl _).alloc _ _).trans hg)
  clear d1 d2 d3 d4 d5 d6 hz HG
  have HG := HG1
  clear HG1
  obtain ⟨d1, d2, d3, d4, d5, d6, hz⟩ := three HG
  have en := older (((G.refl _).alloc _ _).trans hg) ⟨e1, e2, e3⟩
  clear e1 e2 e3
  obtain ⟨e1, e2, e3⟩ := en
  obtain ⟨f1, f2, f3⟩ := newer hg
  clear hg
  (try clear n1 n2 n3)
  have n1 : w.heap.size < w'.heap.size := by omega
  have n2 : w.heap.size + 1 < w'.heap.size := by omega
  have n3 : w.heap.size + 1 + 1 < w'.heap.size := by omega
  go_wp2_with fail
  (with_reducible refine (covers_b _ _ _ _ _ B6.out _).mono ?_)
  rintro e w' ⟨rfl, hg⟩
  have HG1 : G (((w.alloc (pfxb p l)).alloc (pfxb q m)).alloc (pfxb r n)) w' := HG.trans hg
  clear d1 d2 d3 d4 d5 d6 hz HG
  have HG := HG1
  clear HG1
  obtain ⟨d1, d2, d3, d4, d5, d6, hz⟩ := three HG
  have en := older hg ⟨e1, e2, e3⟩
  clear e1 e2 e3
  obtain ⟨e1, e2, e3⟩ := en
  have fn := older hg ⟨f1, f2, f3⟩
  clear f1 f2 f3
  obtain ⟨f1, f2, f3⟩ := fn
  clear hg
  (try clear n1 n2 n3)
  have n1 : w.heap.size < w'.heap.size := by omega
  have n2 : w.heap.size + 1 < w'.heap.size := by omega
  have n3 : w.heap.size + 1 + 1 < w'.heap.size := by omega
  go_wp2_with fail
  (with_reducible refine (clean_again _ _ V1.out _).mono ?_)
  rintro e w' ⟨rfl, hg⟩
  have HG1 : G (((w.alloc (pfxb p l)).alloc (pfxb q m)).alloc (pfxb r n)) w' := HG.trans hg
  clear d1 d2 d3 d4 d5 d6 hz HG
  have HG := HG1
  clear HG1
  obtain ⟨d1, d2, d3, d4, d5, d6, hz⟩ := three HG
  have en := older hg ⟨e1, e2, e3⟩
  clear e1 e2 e3
  obtain ⟨e1, e2, e3⟩ := en
  have fn := older hg ⟨f1, f2, f3⟩
  clear f1 f2 f3
  obtain ⟨f1, f2, f3⟩ := fn
  clear hg
  (try clear n1 n2 n3)
  have n1 : w.heap.size < w'.heap.size := by omega
  have n2 : w.heap.size + 1 < w'.heap.size := by omega
  have n3 : w.heap.size + 1 + 1 < w'.heap.size := by omega
  go_wp2_with fail
  (with_reducible refine (covers_b _ _ _ _ _ A1.out _).mono ?_)
  rintro e w' ⟨rfl, hg⟩
  have HG1 : G (((w.alloc (pfxb p l)).alloc (pfxb q m)).alloc (pfxb r n)) w' := HG.trans (((G.refl _).alloc _ _).trans hg)
  clear d1 d2 d3 d4 d5 d6 hz HG
  have HG := HG1
  clear HG1
  obtain ⟨d1, d2, d3, d4, d5, d6, hz⟩ := three HG
  have en := older (((G.refl _).alloc _ _).trans hg) ⟨e1, e2, e3⟩
  clear e1 e2 e3
  obtain ⟨e1, e2, e3⟩ := en
  have fn := older (((G.refl _).alloc _ _).trans hg) ⟨f1, f2, f3⟩
  clear f1 f2 f3
  obtain ⟨f1, f2, f3⟩ := fn
  obtain ⟨g1, g2, g3⟩ := newer hg
  clear hg
  (try clear n1 n2 n3)
  have n1 : w.heap.size < w'.heap.size := by omega
  have n2 : w.heap.size + 1 < w'.heap.size := by omega
  have n3 : w.heap.size + 1 + 1 < w'.heap.size := by omega
  go_wp2_with fail
  (with_reducible refine (covers_b _ _ _ _ _ A2.out _).mono ?_)
  rintro e w' ⟨rfl, hg⟩
  have HG1 : G (((w.alloc (pfxb p l)).alloc (pfxb q m)).alloc (pfxb r n)) w' := HG.trans hg
  clear d1 d2 d3 d4 d5 d6 hz HG
  have HG := HG1
  clear HG1
  obtain ⟨d1, d2, d3, d4, d5, d6, hz⟩ := three HG
  have en := older hg ⟨e1, e2, e3⟩
  clear e1 e2 e3
  obtain ⟨e1, e2, e3⟩ := en
  have fn := older hg ⟨f1, f2, f3⟩
  clear f1 f2 f3
  obtain ⟨f1, f2, f3⟩ := fn
  have gn := older hg ⟨g1, g2, g3⟩
  clear g1 g2 g3
  obtain ⟨g1, g2, g3⟩ := gn
  clear hg
  (try clear n1 n2 n3)
  have n1 : w.heap.size < w'.heap.size := by omega
  have n2 : w.heap.size + 1 < w'.heap.size := by omega
  have n3 : w.heap.size + 1 + 1 < w'.heap.size := by omega
  go_wp2_with fail
  go_ret
  exact ⟨rfl, ((((((G.refl w).alloc _ _).alloc _ _).alloc _ _).trans HG).grown)⟩

set_option maxHeartbeats 2000000 in
theorem cov_11110000 (p l q m r n x : Int) (w : World)
    (V1 : Hid (vld l = true)) (V2 : Hid (vld m = true)) (P0 : Hid (cv p l p l = true)) (B1 : Hid (cv p l q m = true)) (b5 : Bool) (B5 : Hid (ct p l x = b5)) (E5 : Hid (cv p l x 32 = b5)) (hl0 : 0 ≤ l) (hl1 : l ≤ 32) (B2 : Hid (cv q m r n = true)) (B4 : Hid (ct q m x = false)) (B3 : Hid (cv p l r n = true)) (B6 : Hid (cv q m p l = false)) (c1 : (cl p l == cl q m) = false) (A1 : Hid (cv (cl p l) l p l = true)) (A2 : Hid (cv p l (cl p l) l = true)) :
    Calls Try.prog 3 #[pfx p l, pfx q m, pfx r n, .int .u32 x] w fun e w' => e = .returned (.bool true) ∧ Grown w w' := by
  go_enter Try.func3, Try.ntmps3
  go_wp2_with (first | (go_at_call 6; refine (lives_any _).mono ?_; rintro e w' ⟨rfl, rfl⟩))
  have hb5 : (b5 != b5) = false := bne_self_eq_false b5
  refine wp_region_held_drew (S := fun W => G (((w.alloc (pfxb p l)).alloc (pfxb q m)).alloc (pfxb r n)) W) (by kernel_rfl) (G.refl _).drew (fun hHeld => ?_)
  refine wpAnyH_take (i := 0) (oi := { dst := some 27, op := Go.Op.load 25 (Go.Operand.tmp 4), type := 25, pos := "law.go:153", after := #[], guard := none }) (v := ?_) rfl (by kernel_rfl) (by kernel_rfl) (by kernel_rfl) (fun _ _ _ h => h) (Or.inl ⟨by rfl, ?_⟩) (by assumption) ?_
  rotate_left
  · intro w hSw
    try dsimp only at hSw
    have hc := hSw.cells
    go_simp
    try with_reducible rfl
  try simp only [Act.put, List.setIfInBounds_toArray, List.set_cons_zero, List.set_cons_succ]
  refine wpAnyH_take (i := 1) (oi := { dst := some 28, op := Go.Op.load 25 (Go.Operand.tmp 4), type := 25, pos := "law.go:153", after := #[], guard := none }) (v := ?_) rfl (by kernel_rfl) (by kernel_rfl) (by kernel_rfl) (fun _ _ _ h => h) (Or.inl ⟨by rfl, ?_⟩) (by assumption) ?_
  rotate_left
  · intro w hSw
    try dsimp only at hSw
    have hc := hSw.cells
    go_simp
    try with_reducible rfl
  try simp only [Act.put, List.setIfInBounds_toArray, List.set_cons_zero, List.set_cons_succ]
  refine wpAnyH_take (i := 3) (oi := { dst := some 30, op := Go.Op.move (Go.Operand.tmp 9), type := 4, pos := "law.go:153", after := #[], guard := none }) (v := ?_) rfl (by kernel_rfl) (by kernel_rfl) (by kernel_rfl) (fun _ _ _ h => h) (Or.inl ⟨by rfl, ?_⟩) (by assumption) ?_
  rotate_left
  · intro w hSw
    try dsimp only at hSw
    have hc := hSw.cells
    go_simp
    try with_reducible rfl
  try simp only [Act.put, List.setIfInBounds_toArray, List.set_cons_zero, List.set_cons_succ]
  refine wpAnyH_ready (rs := [2]) (by kernel_rfl) (by simp) ?_
  refine AllReadyH.cons (o := { dst := some 29, op := Go.Op.call { callee := Go.Callee.value (Go.Operand.func 7), args := #[Go.Operand.tmp 27, Go.Operand.tmp 28], argTypes := #[25, 25] }, type := 4, pos := "law.go:153", after := #[{ on := 0, ground := Go.Ground.data }, { on := 1, ground := Go.Ground.data }], guard := none }) rfl (fun K hK => ?_) AllReadyH.nil
  go_simp
  refine (covers_b _ _ _ _ _ P0.out _).mono ?_
  rintro e w' ⟨rfl, hg⟩
  dsimp only
  refine hK.out _ _ ?_ (fun hHeld => ?_)
  · exact hHeld.trans hg
  clear hK K
  try simp only [Act.put, List.setIfInBounds_toArray, List.set_cons_zero, List.set_cons_succ]
  refine wpAnyH_take (i := 4) (oi := { dst := some 31, op := Go.Op.binOp Go.BinOp.neq 4 (Go.Operand.tmp 29) (Go.Operand.tmp 30) 4, type := 4, pos := "law.go:153", after := #[{ on := 2, ground := Go.Ground.data }, { on := 3, ground := Go.Ground.data }], guard := none }) (v := ?_) rfl (by kernel_rfl) (by kernel_rfl) (by kernel_rfl) (fun _ _ _ h => h) (Or.inl ⟨by rfl, ?_⟩) (by assumption) ?_
  rotate_left
  · intro w hSw
    try dsimp only at hSw
    have hc := hSw.cells
    go_simp
    try with_reducible rfl
  try simp only [Act.put, List.setIfInBounds_toArray, List.set_cons_zero, List.set_cons_succ]
  refine wpAnyH_take (i := 5) (oi := { dst := some 32, op := Go.Op.move (Go.Operand.tmp 31), type := 4, pos := "law.go:153", after := #[{ on := 4, ground := Go.Ground.data }, { on := 2, ground := Go.Ground.chain }], guard := none }) (v := ?_) rfl (by kernel_rfl) (by kernel_rfl) (by kernel_rfl) (fun _ _ _ h => h) (Or.inl ⟨by rfl, ?_⟩) (by assumption) ?_
  rotate_left
  · intro w hSw
    try dsimp only at hSw
    have hc := hSw.cells
    go_simp
    try with_reducible rfl
  try simp only [Act.put, List.setIfInBounds_toArray, List.set_cons_zero, List.set_cons_succ]
  refine wpAnyH_take (i := 6) (oi := { dst := some 33, op := Go.Op.load 25 (Go.Operand.tmp 4), type := 25, pos := "law.go:153", after := #[{ on := 5, ground := Go.Ground.guard }], guard := some (5, false) }) (v := ?_) rfl (by kernel_rfl) (by kernel_rfl) (by kernel_rfl) (fun _ _ _ h => h) (Or.inl ⟨by rfl, ?_⟩) (by assumption) ?_
  rotate_left
  · intro w hSw
    try dsimp only at hSw
    have hc := hSw.cells
    go_simp
    try with_reducible rfl
  try simp only [Act.put, List.setIfInBounds_toArray, List.set_cons_zero, List.set_cons_succ]
  refine wpAnyH_take (i := 7) (oi := { dst := some 34, op := Go.Op.move (Go.Operand.tmp 3), type := 23, pos := "law.go:153", after := #[{ on := 5, ground := Go.Ground.guard }], guard := some (5, false) }) (v := ?_) rfl (by kernel_rfl) (by kernel_rfl) (by kernel_rfl) (fun _ _ _ h => h) (Or.inl ⟨by rfl, ?_⟩) (by assumption) ?_
  rotate_left
  · intro w hSw
    try dsimp only at hSw
    have hc := hSw.cells
    go_simp
    try with_reducible rfl
  try simp only [Act.put, List.setIfInBounds_toArray, List.set_cons_zero, List.set_cons_succ]
  refine wpAnyH_take (i := 9) (oi := { dst := some 36, op := Go.Op.load 25 (Go.Operand.tmp 4), type := 25, pos := "law.go:153", after := #[{ on := 5, ground := Go.Ground.guard }], guard := some (5, false) }) (v := ?_) rfl (by kernel_rfl) (by kernel_rfl) (by kernel_rfl) (fun _ _ _ h => h) (Or.inl ⟨by rfl, ?_⟩) (by assumption) ?_
  rotate_left
  · intro w hSw
    try dsimp only at hSw
    have hc := hSw.cells
    go_simp
    try with_reducible rfl
  try simp only [Act.put, List.setIfInBounds_toArray, List.set_cons_zero, List.set_cons_succ]
  refine wpAnyH_take (i := 10) (oi := { dst := some 37, op := Go.Op.move (Go.Operand.tmp 3), type := 23, pos := "law.go:153", after := #[{ on := 5, ground := Go.Ground.guard }], guard := some (5, false) }) (v := ?_) rfl (by kernel_rfl) (by kernel_rfl) (by kernel_rfl) (fun _ _ _ h => h) (Or.inl ⟨by rfl, ?_⟩) (by assumption) ?_
  rotate_left
  · intro w hSw
    try dsimp only at hSw
    have hc := hSw.cells
    go_simp
    try with_reducible rfl
  try simp only [Act.put, List.setIfInBounds_toArray, List.set_cons_zero, List.set_cons_succ]
  refine wpAnyH_take (i := 11) (oi := { dst := some 38, op := Go.Op.build 25 #[(0, Go.Operand.tmp 37), (1, Go.Operand.const (Go.Value.int Go.IntKind.i64 32))], type := 25, pos := "law.go:153", after := #[{ on := 10, ground := Go.Ground.data }, { on := 5, ground := Go.Ground.guard }], guard := some (5, false) }) (v := ?_) rfl (by kernel_rfl) (by kernel_rfl) (by kernel_rfl) (fun _ _ _ h => h) (Or.inl ⟨by rfl, ?_⟩) (by assumption) ?_
  rotate_left
  · intro w hSw
    try dsimp only at hSw
    have hc := hSw.cells
    go_simp
    try with_reducible rfl
  try simp only [Act.put, List.setIfInBounds_toArray, List.set_cons_zero, List.set_cons_succ]
  refine wpAnyH_ready (rs := [8]) (by kernel_rfl) (by simp) ?_
  refine AllReadyH.cons (o := { dst := some 35, op := Go.Op.call { callee := Go.Callee.value (Go.Operand.func 8), args := #[Go.Operand.tmp 33, Go.Operand.tmp 34], argTypes := #[25, 23] }, type := 4, pos := "law.go:153", after := #[{ on := 6, ground := Go.Ground.data }, { on := 7, ground := Go.Ground.data }, { on := 5, ground := Go.Ground.chain }, { on := 5, ground := Go.Ground.guard }], guard := some (5, false) }) rfl (fun K hK => ?_) AllReadyH.nil
  go_simp
  refine (contains_b _ _ _ _ B5.out _).mono ?_
  rintro e w' ⟨rfl, hg⟩
  dsimp only
  refine hK.out _ _ ?_ (fun hHeld => ?_)
  · exact hHeld.trans hg
  clear hK K
  try simp only [Act.put, List.setIfInBounds_toArray, List.set_cons_zero, List.set_cons_succ]
  refine wpAnyH_ready (rs := [12]) (by kernel_rfl) (by simp) ?_
  refine AllReadyH.cons (o := { dst := some 39, op := Go.Op.call { callee := Go.Callee.value (Go.Operand.func 7), args := #[Go.Operand.tmp 36, Go.Operand.tmp 38], argTypes := #[25, 25] }, type := 4, pos := "law.go:153", after := #[{ on := 9, ground := Go.Ground.data }, { on := 11, ground := Go.Ground.data }, { on := 8, ground := Go.Ground.chain }, { on := 5, ground := Go.Ground.guard }], guard := some (5, false) }) rfl (fun K hK => ?_) AllReadyH.nil
  go_simp
  refine (covers_b _ _ _ _ _ E5.out _).mono ?_
  rintro e w' ⟨rfl, hg⟩
  dsimp only
  refine hK.out _ _ ?_ (fun hHeld => ?_)
  · exact hHeld.trans hg
  clear hK K
  try simp only [Act.put, List.setIfInBounds_toArray, List.set_cons_zero, List.set_cons_succ]
  refine wpAnyH_take (i := 13) (oi := { dst := some 40, op := Go.Op.binOp Go.BinOp.neq 4 (Go.Operand.tmp 35) (Go.Operand.tmp 39) 4, type := 4, pos := "law.go:153", after := #[{ on := 8, ground := Go.Ground.data }, { on := 12, ground := Go.Ground.data }, { on := 5, ground := Go.Ground.guard }], guard := some (5, false) }) (v := ?_) rfl (by kernel_rfl) (by kernel_rfl) (by kernel_rfl) (fun _ _ _ h => h) (Or.inl ⟨by rfl, ?_⟩) (by assumption) ?_
  rotate_left
  · intro w hSw
    try dsimp only at hSw
    have hc := hSw.cells
    go_simp
    try with_reducible rfl
  try simp only [Act.put, List.setIfInBounds_toArray, List.set_cons_zero, List.set_cons_succ]
  refine wpAnyH_take (i := 14) (oi := { dst := some 41, op := Go.Op.pick (Go.Operand.tmp 32) (Go.Operand.const (Go.Value.bool true)) (Go.Operand.tmp 40), type := 4, pos := "law.go:153", after := #[{ on := 5, ground := Go.Ground.data }, { on := 13, ground := Go.Ground.data }], guard := none }) (v := ?_) rfl (by kernel_rfl) (by kernel_rfl) (by kernel_rfl) (fun _ _ _ h => h) (Or.inl ⟨by rfl, ?_⟩) (by assumption) ?_
  rotate_left
  · intro w hSw
    try dsimp only at hSw
    have hc := hSw.cells
    go_simp
    try with_reducible rfl
  try simp only [Act.put, List.setIfInBounds_toArray, List.set_cons_zero, List.set_cons_succ]
  refine wpAnyH_done (by kernel_rfl) ?_ _
  have HG : G (((w.alloc (pfxb p l)).alloc (pfxb q m)).alloc (pfxb r n)) w' := hHeld
  clear P0 B5 E5 hb5 hHeld
  obtain ⟨d1, d2, d3, d4, d5, d6, hz⟩ := three HG
  go_wp2_with fail
  (with_reducible refine (covers_b _ _ _ _ _ B1.out _).mono ?_)
  rintro e w' ⟨rfl, hg⟩
  have HG1 : G (((w.alloc (pfxb p l)).alloc (pfxb q m)).alloc (pfxb r n)) w' := HG.trans hg
  clear d1 d2 d3 d4 d5 d6 hz HG
  have HG := HG1
  clear HG1
  obtain ⟨d1, d2, d3, d4, d5, d6, hz⟩ := three HG
  clear hg
  (try clear n1 n2 n3)
  have n1 : w.heap.size < w'.heap.size := by omega
  have n2 : w.heap.size + 1 < w'.heap.size := by omega
  have n3 : w.heap.size + 1 + 1 < w'.heap.size := by omega
  go_wp2_with fail
  (with_reducible refine (covers_b _ _ _ _ _ B2.out _).mono ?_)
  rintro e w' ⟨rfl, hg⟩
  have HG1 : G (((w.alloc (pfxb p l)).alloc (pfxb q m)).alloc (pfxb r n)) w' := HG.trans hg
  clear d1 d2 d3 d4 d5 d6 hz HG
  have HG := HG1
  clear HG1
  obtain ⟨d1, d2, d3, d4, d5, d6, hz⟩ := three HG
  clear hg
  (try clear n1 n2 n3)
  have n1 : w.heap.size < w'.heap.size := by omega
  have n2 : w.heap.size + 1 < w'.heap.size := by omega
  have n3 : w.heap.size + 1 + 1 < w'.heap.size := by omega
  go_wp2_with fail
  (with_reducible refine (covers_b _ _ _ _ _ B3.out _).mono ?_)
  rintro e w' ⟨rfl, hg⟩
  have HG1 : G (((w.alloc (pfxb p l)).alloc (pfxb q m)).alloc (pfxb r n)) w' := HG.trans hg
  clear d1 d2 d3 d4 d5 d6 hz HG
  have HG := HG1
  clear HG1
  obtain ⟨d1, d2, d3, d4, d5, d6, hz⟩ := three HG
  clear hg
  (try clear n1 n2 n3)
  have n1 : w.heap.size < w'.heap.size := by omega
  have n2 : w.heap.size + 1 < w'.heap.size := by omega
  have n3 : w.heap.size + 1 + 1 < w'.heap.size := by omega
  go_wp2_with fail
  (with_reducible refine (covers_b _ _ _ _ _ B1.out _).mono ?_)
  rintro e w' ⟨rfl, hg⟩
  have HG1 : G (((w.alloc (pfxb p l)).alloc (pfxb q m)).alloc (pfxb r n)) w' := HG.trans hg
  clear d1 d2 d3 d4 d5 d6 hz HG
  have HG := HG1
  clear HG1
  obtain ⟨d1, d2, d3, d4, d5, d6, hz⟩ := three HG
  clear hg
  (try clear n1 n2 n3)
  have n1 : w.heap.size < w'.heap.size := by omega
  have n2 : w.heap.size + 1 < w'.heap.size := by omega
  have n3 : w.heap.size + 1 + 1 < w'.heap.size := by omega
  go_wp2_with fail
  (with_reducible refine (contains_b _ _ _ _ B4.out _).mono ?_)
  rintro e w' ⟨rfl, hg⟩
  have HG1 : G (((w.alloc (pfxb p l)).alloc (pfxb q m)).alloc (pfxb r n)) w' := HG.trans hg
  clear d1 d2 d3 d4 d5 d6 hz HG
  have HG := HG1
  clear HG1
  obtain ⟨d1, d2, d3, d4, d5, d6, hz⟩ := three HG
  clear hg
  (try clear n1 n2 n3)
  have n1 : w.heap.size < w'.heap.size := by omega
  have n2 : w.heap.size + 1 < w'.heap.size := by omega
  have n3 : w.heap.size + 1 + 1 < w'.heap.size := by omega
  go_wp2_with fail
  (with_reducible refine (clean_yes _ _ V1.out _).mono ?_)
  rintro e w' ⟨rfl, hg⟩
  have HG1 : G (((w.alloc (pfxb p l)).alloc (pfxb q m)).alloc (pfxb r n)) w' := HG.trans hg
  clear d1 d2 d3 d4 d5 d6 hz HG
  have HG := HG1
  clear HG1
  obtain ⟨d1, d2, d3, d4, d5, d6, hz⟩ := three HG
  clear hg
  (try clear n1 n2 n3)
  have n1 : w.heap.size < w'.heap.size := by omega
  have n2 : w.heap.size + 1 < w'.heap.size := by omega
  have n3 : w.heap.size + 1 + 1 < w'.heap.size := by omega
  go_wp2_with fail
  (with_reducible refine (clean_yes _ _ V2.out _).mono ?_)
  rintro e w' ⟨rfl, hg⟩
  have HG1 : G (((w.alloc (pfxb p l)).alloc (pfxb q m)).alloc (pfxb r n)) w' := HG.trans (((G.refl _).alloc _ _).trans hg)
  clear d1 d2 d3 d4 d5 d6 hz HG
  have HG := HG1
  clear HG1
  obtain ⟨d1, d2, d3, d4, d5, d6, hz⟩ := three HG
  obtain ⟨e1, e2, e3⟩ := newer hg
  clear hg
  (try clear n1 n2 n3)
  have n1 : w.heap.size < w'.heap.size := by omega
  have n2 : w.heap.size + 1 < w'.heap.size := by omega
  have n3 : w.heap.size + 1 + 1 < w'.heap.size := by omega
  go_wp2_with fail
  (with_reducible refine (covers_b _ _ _ _ _ B1.out _).mono ?_)
  rintro e w' ⟨rfl, hg⟩
  have HG1 : G (((w.alloc (pfxb p l)).alloc (pfxb q m)).alloc (pfxb r n)) w' := HG.trans (((G.refl _).alloc _ _).trans hg)
  clear d1 d2 d3 d4 d5 d6 hz HG
  have HG := HG1
  clear HG1
  obtain ⟨d1, d2, d3, d4, d5, d6, hz⟩ := three HG
  have en := older (((G.refl _).alloc _ _).trans hg) ⟨e1, e2, e3⟩
  clear e1 e2 e3
  obtain ⟨e1, e2, e3⟩ := en
  obtain ⟨f1, f2, f3⟩ := newer hg
  clear hg
  (try clear n1 n2 n3)
  have n1 : w.heap.size < w'.heap.size := by omega
  have n2 : w.heap.size + 1 < w'.heap.size := by omega
  have n3 : w.heap.size + 1 + 1 < w'.heap.size := by omega
  go_wp2_with fail
  (with_reducible refine (covers_b _ _ _ _ _ B6.out _).mono ?_)
  rintro e w' ⟨rfl, hg⟩
  have HG1 : G (((w.alloc (pfxb p l)).alloc (pfxb q m)).alloc (pfxb r n)) w' := HG.trans hg
  clear d1 d2 d3 d4 d5 d6 hz HG
  have HG := HG1
  clear HG1
  obtain ⟨d1, d2, d3, d4, d5, d6, hz⟩ := three HG
  have en := older hg ⟨e1, e2, e3⟩
  clear e1 e2 e3
  obtain ⟨e1, e2, e3⟩ := en
  have fn := older hg ⟨f1, f2, f3⟩
  clear f1 f2 f3
  obtain ⟨f1, f2, f3⟩ := fn
  clear hg
  (try clear n1 n2 n3)
  have n1 : w.heap.size < w'.heap.size := by omega
  have n2 : w.heap.size + 1 < w'.heap.size := by omega
  have n3 : w.heap.size + 1 + 1 < w'.heap.size := by omega
  go_wp2_with fail
  (with_reducible refine (clean_again _ _ V1.out _).mono ?_)
  rintro e w' ⟨rfl, hg⟩
  have HG1 : G (((w.alloc (pfxb p l)).alloc (pfxb q m)).alloc (pfxb r n)) w' := HG.trans hg
  clear d1 d2 d3 d4 d5 d6 hz HG
  have HG := HG1
  clear HG1
  obtain ⟨d1, d2, d3, d4, d5, d6, hz⟩ := three HG
  have en := older hg ⟨e1, e2, e3⟩
  clear e1 e2 e3
  obtain ⟨e1, e2, e3⟩ := en
  have fn := older hg ⟨f1, f2, f3⟩
  clear f1 f2 f3
  obtain ⟨f1, f2, f3⟩ := fn
  clear hg
  (try clear n1 n2 n3)
  have n1 : w.heap.size < w'.heap.size := by omega
  have n2 : w.heap.size + 1 < w'.heap.size := by omega
  have n3 : w.heap.size + 1 + 1 < w'.heap.size := by omega
  go_wp2_with fail
  (with_reducible refine (covers_b _ _ _ _ _ A1.out _).mono ?_)
  rintro e w' ⟨rfl, hg⟩
  have HG1 : G (((w.alloc (pfxb p l)).alloc (pfxb q m)).alloc (pfxb r n)) w' := HG.trans (((G.refl _).alloc _ _).trans hg)
  clear d1 d2 d3 d4 d5 d6 hz HG
  have HG := HG1
  clear HG1
  obtain ⟨d1, d2, d3, d4, d5, d6, hz⟩ := three HG
  have en := older (((G.refl _).alloc _ _).trans hg) ⟨e1, e2, e3⟩
  clear e1 e2 e3
  obtain ⟨e1, e2, e3⟩ := en
  have fn := older (((G.refl _).alloc _ _).trans hg) ⟨f1, f2, f3⟩
  clear f1 f2 f3
  obtain ⟨f1, f2, f3⟩ := fn
  obtain ⟨g1, g2, g3⟩ := newer hg
  clear hg
  (try clear n1 n2 n3)
  have n1 : w.heap.size < w'.heap.size := by omega
  have n2 : w.heap.size + 1 < w'.heap.size := by omega
  have n3 : w.heap.size + 1 + 1 < w'.heap.size := by omega
  go_wp2_with fail
  (with_reducible refine (covers_b _ _ _ _ _ A2.out _).mono ?_)
  rintro e w' ⟨rfl, hg⟩
  have HG1 : G (((w.alloc (pfxb p l)).alloc (pfxb q m)).alloc (pfxb r n)) w' := HG.trans hg
  clear d1 d2 d3 d4 d5 d6 hz HG
  have HG := HG1
  clear HG1
  obtain ⟨d1, d2, d3, d4, d5, d6, hz⟩ := three HG
  have en := older hg ⟨e1, e2, e3⟩
  clear e1 e2 e3
  obtain ⟨e1, e2, e3⟩ := en
  have fn := older hg ⟨f1, f2, f3⟩
  clear f1 f2 f3
  obtain ⟨f1, f2, f3⟩ := fn
  have gn := older hg ⟨g1, g2, g3⟩
  clear g1 g2 g3
  obtain ⟨g1, g2, g3⟩ := gn
  clear hg
  (try clear n1 n2 n3)
  have n1 : w.heap.size < w'.heap.size := by omega
  have n2 : w.heap.size + 1 < w'.heap.size := by omega
  have n3 : w.heap.size + 1 + 1 < w'.heap.size := by omega
  go_wp2_with fail
  go_ret
  exact ⟨rfl, ((((((G.refl w).alloc _ _).alloc _ _).alloc _ _).trans HG).grown)⟩

set_option maxHeartbeats 2000000 in
theorem cov_11110010 (p l q m r n x : Int) (w : World)
    (V1 : Hid (vld l = true)) (V2 : Hid (vld m = true)) (P0 : Hid (cv p l p l = true)) (B1 : Hid (cv p l q m = true)) (b5 : Bool) (B5 : Hid (ct p l x = b5)) (E5 : Hid (cv p l x 32 = b5)) (hl0 : 0 ≤ l) (hl1 : l ≤ 32) (B2 : Hid (cv q m r n = true)) (B4 : Hid (ct q m x = false)) (B3 : Hid (cv p l r n = true)) (B6 : Hid (cv q m p l = false)) (c1 : (cl p l == cl q m) = true) (c2 : (l == m) = false) (A1 : Hid (cv (cl p l) l p l = true)) (A2 : Hid (cv p l (cl p l) l = true)) :
    Calls Try.prog 3 #[pfx p l, pfx q m, pfx r n, .int .u32 x] w fun e w' => e = .returned (.bool true) ∧ Grown w w' := by
  go_enter Try.func3, Try.ntmps3
  go_wp2_with (first | (go_at_call 6; refine (lives_any _).mono ?_; rintro e w' ⟨rfl, rfl⟩))
  have hb5 : (b5 != b5) = false := bne_self_eq_false b5
  refine wp_region_held_drew (S := fun W => G (((w.alloc (pfxb p l)).alloc (pfxb q m)).alloc (pfxb r n)) W) (by kernel_rfl) (G.refl _).drew (fun hHeld => ?_)
  refine wpAnyH_take (i := 0) (oi := { dst := some 27, op := Go.Op.load 25 (Go.Operand.tmp 4), type := 25, pos := "law.go:153", after := #[], guard := none }) (v := ?_) rfl (by kernel_rfl) (by kernel_rfl) (by kernel_rfl) (fun _ _ _ h => h) (Or.inl ⟨by rfl, ?_⟩) (by assumption) ?_
  rotate_left
  · intro w hSw
    try dsimp only at hSw
    have hc := hSw.cells
    go_simp
    try with_reducible rfl
  try simp only [Act.put, List.setIfInBounds_toArray, List.set_cons_zero, List.set_cons_succ]
  refine wpAnyH_take (i := 1) (oi := { dst := some 28, op := Go.Op.load 25 (Go.Operand.tmp 4), type := 25, pos := "law.go:153", after := #[], guard := none }) (v := ?_) rfl (by kernel_rfl) (by kernel_rfl) (by kernel_rfl) (fun _ _ _ h => h) (Or.inl ⟨by rfl, ?_⟩) (by assumption) ?_
  rotate_left
  · intro w hSw
    try dsimp only at hSw
    have hc := hSw.cells
    go_simp
    try with_reducible rfl
  try simp only [Act.put, List.setIfInBounds_toArray, List.set_cons_zero, List.set_cons_succ]
  refine wpAnyH_take (i := 3) (oi := { dst := some 30, op := Go.Op.move (Go.Operand.tmp 9), type := 4, pos := "law.go:153", after := #[], guard := none }) (v := ?_) rfl (by kernel_rfl) (by kernel_rfl) (by kernel_rfl) (fun _ _ _ h => h) (Or.inl ⟨by rfl, ?_⟩) (by assumption) ?_
  rotate_left
  · intro w hSw
    try dsimp only at hSw
    have hc := hSw.cells
    go_simp
    try with_reducible rfl
  try simp only [Act.put, List.setIfInBounds_toArray, List.set_cons_zero, List.set_cons_succ]
  refine wpAnyH_ready (rs := [2]) (by kernel_rfl) (by simp) ?_
  refine AllReadyH.cons (o := { dst := some 29, op := Go.Op.call { callee := Go.Callee.value (Go.Operand.func 7), args := #[Go.Operand.tmp 27, Go.Operand.tmp 28], argTypes := #[25, 25] }, type := 4, pos := "law.go:153", after := #[{ on := 0, ground := Go.Ground.data }, { on := 1, ground := Go.Ground.data }], guard := none }) rfl (fun K hK => ?_) AllReadyH.nil
  go_simp
  refine (covers_b _ _ _ _ _ P0.out _).mono ?_
  rintro e w' ⟨rfl, hg⟩
  dsimp only
  refine hK.out _ _ ?_ (fun hHeld => ?_)
  · exact hHeld.trans hg
  clear hK K
  try simp only [Act.put, List.setIfInBounds_toArray, List.set_cons_zero, List.set_cons_succ]
  refine wpAnyH_take (i := 4) (oi := { dst := some 31, op := Go.Op.binOp Go.BinOp.neq 4 (Go.Operand.tmp 29) (Go.Operand.tmp 30) 4, type := 4, pos := "law.go:153", after := #[{ on := 2, ground := Go.Ground.data }, { on := 3, ground := Go.Ground.data }], guard := none }) (v := ?_) rfl (by kernel_rfl) (by kernel_rfl) (by kernel_rfl) (fun _ _ _ h => h) (Or.inl ⟨by rfl, ?_⟩) (by assumption) ?_
  rotate_left
  · intro w hSw
    try dsimp only at hSw
    have hc := hSw.cells
    go_simp
    try with_reducible rfl
  try simp only [Act.put, List.setIfInBounds_toArray, List.set_cons_zero, List.set_cons_succ]
  refine wpAnyH_take (i := 5) (oi := { dst := some 32, op := Go.Op.move (Go.Operand.tmp 31), type := 4, pos := "law.go:153", after := #[{ on := 4, ground := Go.Ground.data }, { on := 2, ground := Go.Ground.chain }], guard := none }) (v := ?_) rfl (by kernel_rfl) (by kernel_rfl) (by kernel_rfl) (fun _ _ _ h => h) (Or.inl ⟨by rfl, ?_⟩) (by assumption) ?_
  rotate_left
  · intro w hSw
    try dsimp only at hSw
    have hc := hSw.cells
    go_simp
    try with_reducible rfl
  try simp only [Act.put, List.setIfInBounds_toArray, List.set_cons_zero, List.set_cons_succ]
  refine wpAnyH_take (i := 6) (oi := { dst := some 33, op := Go.Op.load 25 (Go.Operand.tmp 4), type := 25, pos := "law.go:153", after := #[{ on := 5, ground := Go.Ground.guard }], guard := some (5, false) }) (v := ?_) rfl (by kernel_rfl) (by kernel_rfl) (by kernel_rfl) (fun _ _ _ h => h) (Or.inl ⟨by rfl, ?_⟩) (by assumption) ?_
  rotate_left
  · intro w hSw
    try dsimp only at hSw
    have hc := hSw.cells
    go_simp
    try with_reducible rfl
  try simp only [Act.put, List.setIfInBounds_toArray, List.set_cons_zero, List.set_cons_succ]
  refine wpAnyH_take (i := 7) (oi := { dst := some 34, op := Go.Op.move (Go.Operand.tmp 3), type := 23, pos := "law.go:153", after := #[{ on := 5, ground := Go.Ground.guard }], guard := some (5, false) }) (v := ?_) rfl (by kernel_rfl) (by kernel_rfl) (by kernel_rfl) (fun _ _ _ h => h) (Or.inl ⟨by rfl, ?_⟩) (by assumption) ?_
  rotate_left
  · intro w hSw
    try dsimp only at hSw
    have hc := hSw.cells
    go_simp
    try with_reducible rfl
  try simp only [Act.put, List.setIfInBounds_toArray, List.set_cons_zero, List.set_cons_succ]
  refine wpAnyH_take (i := 9) (oi := { dst := some 36, op := Go.Op.load 25 (Go.Operand.tmp 4), type := 25, pos := "law.go:153", after := #[{ on := 5, ground := Go.Ground.guard }], guard := some (5, false) }) (v := ?_) rfl (by kernel_rfl) (by kernel_rfl) (by kernel_rfl) (fun _ _ _ h => h) (Or.inl ⟨by rfl, ?_⟩) (by assumption) ?_
  rotate_left
  · intro w hSw
    try dsimp only at hSw
    have hc := hSw.cells
    go_simp
    try with_reducible rfl
  try simp only [Act.put, List.setIfInBounds_toArray, List.set_cons_zero, List.set_cons_succ]
  refine wpAnyH_take (i := 10) (oi := { dst := some 37, op := Go.Op.move (Go.Operand.tmp 3), type := 23, pos := "law.go:153", after := #[{ on := 5, ground := Go.Ground.guard }], guard := some (5, false) }) (v := ?_) rfl (by kernel_rfl) (by kernel_rfl) (by kernel_rfl) (fun _ _ _ h => h) (Or.inl ⟨by rfl, ?_⟩) (by assumption) ?_
  rotate_left
  · intro w hSw
    try dsimp only at hSw
    have hc := hSw.cells
    go_simp
    try with_reducible rfl
  try simp only [Act.put, List.setIfInBounds_toArray, List.set_cons_zero, List.set_cons_succ]
  refine wpAnyH_take (i := 11) (oi := { dst := some 38, op := Go.Op.build 25 #[(0, Go.Operand.tmp 37), (1, Go.Operand.const (Go.Value.int Go.IntKind.i64 32))], type := 25, pos := "law.go:153", after := #[{ on := 10, ground := Go.Ground.data }, { on := 5, ground := Go.Ground.guard }], guard := some (5, false) }) (v := ?_) rfl (by kernel_rfl) (by kernel_rfl) (by kernel_rfl) (fun _ _ _ h => h) (Or.inl ⟨by rfl, ?_⟩) (by assumption) ?_
  rotate_left
  · intro w hSw
    try dsimp only at hSw
    have hc := hSw.cells
    go_simp
    try with_reducible rfl
  try simp only [Act.put, List.setIfInBounds_toArray, List.set_cons_zero, List.set_cons_succ]
  refine wpAnyH_ready (rs := [8]) (by kernel_rfl) (by simp) ?_
  refine AllReadyH.cons (o := { dst := some 35, op := Go.Op.call { callee := Go.Callee.value (Go.Operand.func 8), args := #[Go.Operand.tmp 33, Go.Operand.tmp 34], argTypes := #[25, 23] }, type := 4, pos := "law.go:153", after := #[{ on := 6, ground := Go.Ground.data }, { on := 7, ground := Go.Ground.data }, { on := 5, ground := Go.Ground.chain }, { on := 5, ground := Go.Ground.guard }], guard := some (5, false) }) rfl (fun K hK => ?_) AllReadyH.nil
  go_simp
  refine (contains_b _ _ _ _ B5.out _).mono ?_
  rintro e w' ⟨rfl, hg⟩
  dsimp only
  refine hK.out _ _ ?_ (fun hHeld => ?_)
  · exact hHeld.trans hg
  clear hK K
  try simp only [Act.put, List.setIfInBounds_toArray, List.set_cons_zero, List.set_cons_succ]
  refine wpAnyH_ready (rs := [12]) (by kernel_rfl) (by simp) ?_
  refine AllReadyH.cons (o := { dst := some 39, op := Go.Op.call { callee := Go.Callee.value (Go.Operand.func 7), args := #[Go.Operand.tmp 36, Go.Operand.tmp 38], argTypes := #[25, 25] }, type := 4, pos := "law.go:153", after := #[{ on := 9, ground := Go.Ground.data }, { on := 11, ground := Go.Ground.data }, { on := 8, ground := Go.Ground.chain }, { on := 5, ground := Go.Ground.guard }], guard := some (5, false) }) rfl (fun K hK => ?_) AllReadyH.nil
  go_simp
  refine (covers_b _ _ _ _ _ E5.out _).mono ?_
  rintro e w' ⟨rfl, hg⟩
  dsimp only
  refine hK.out _ _ ?_ (fun hHeld => ?_)
  · exact hHeld.trans hg
  clear hK K
  try simp only [Act.put, List.setIfInBounds_toArray, List.set_cons_zero, List.set_cons_succ]
  refine wpAnyH_take (i := 13) (oi := { dst := some 40, op := Go.Op.binOp Go.BinOp.neq 4 (Go.Operand.tmp 35) (Go.Operand.tmp 39) 4, type := 4, pos := "law.go:153", after := #[{ on := 8, ground := Go.Ground.data }, { on := 12, ground := Go.Ground.data }, { on := 5, ground := Go.Ground.guard }], guard := some (5, false) }) (v := ?_) rfl (by kernel_rfl) (by kernel_rfl) (by kernel_rfl) (fun _ _ _ h => h) (Or.inl ⟨by rfl, ?_⟩) (by assumption) ?_
  rotate_left
  · intro w hSw
    try dsimp only at hSw
    have hc := hSw.cells
    go_simp
    try with_reducible rfl
  try simp only [Act.put, List.setIfInBounds_toArray, List.set_cons_zero, List.set_cons_succ]
  refine wpAnyH_take (i := 14) (oi := { dst := some 41, op := Go.Op.pick (Go.Operand.tmp 32) (Go.Operand.const (Go.Value.bool true)) (Go.Operand.tmp 40), type := 4, pos := "law.go:153", after := #[{ on := 5, ground := Go.Ground.data }, { on := 13, ground := Go.Ground.data }], guard := none }) (v := ?_) rfl (by kernel_rfl) (by kernel_rfl) (by kernel_rfl) (fun _ _ _ h => h) (Or.inl ⟨by rfl, ?_⟩) (by assumption) ?_
  rotate_left
  · intro w hSw
    try dsimp only at hSw
    have hc := hSw.cells
    go_simp
    try with_reducible rfl
  try simp only [Act.put, List.setIfInBounds_toArray, List.set_cons_zero, List.set_cons_succ]
  refine wpAnyH_done (by kernel_rfl) ?_ _
  have HG : G (((w.alloc (pfxb p l)).alloc (pfxb q m)).alloc (pfxb r n)) w' := hHeld
  clear P0 B5 E5 hb5 hHeld
  obtain ⟨d1, d2, d3, d4, d5, d6, hz⟩ := three HG
  go_wp2_with fail
  (with_reducible refine (covers_b _ _ _ _ _ B1.out _).mono ?_)
  rintro e w' ⟨rfl, hg⟩
  have HG1 : G (((w.alloc (pfxb p l)).alloc (pfxb q m)).alloc (pfxb r n)) w' := HG.trans hg
  clear d1 d2 d3 d4 d5 d6 hz HG
  have HG := HG1
  clear HG1
  obtain ⟨d1, d2, d3, d4, d5, d6, hz⟩ := three HG
  clear hg
  (try clear n1 n2 n3)
  have n1 : w.heap.size < w'.heap.size := by omega
  have n2 : w.heap.size + 1 < w'.heap.size := by omega
  have n3 : w.heap.size + 1 + 1 < w'.heap.size := by omega
  go_wp2_with fail
  (with_reducible refine (covers_b _ _ _ _ _ B2.out _).mono ?_)
  rintro e w' ⟨rfl, hg⟩
  have HG1 : G (((w.alloc (pfxb p l)).alloc (pfxb q m)).alloc (pfxb r n)) w' := HG.trans hg
  clear d1 d2 d3 d4 d5 d6 hz HG
  have HG := HG1
  clear HG1
  obtain ⟨d1, d2, d3, d4, d5, d6, hz⟩ := three HG
  clear hg
  (try clear n1 n2 n3)
  have n1 : w.heap.size < w'.heap.size := by omega
  have n2 : w.heap.size + 1 < w'.heap.size := by omega
  have n3 : w.heap.size + 1 + 1 < w'.heap.size := by omega
  go_wp2_with fail
  (with_reducible refine (covers_b _ _ _ _ _ B3.out _).mono ?_)
  rintro e w' ⟨rfl, hg⟩
  have HG1 : G (((w.alloc (pfxb p l)).alloc (pfxb q m)).alloc (pfxb r n)) w' := HG.trans hg
  clear d1 d2 d3 d4 d5 d6 hz HG
  have HG := HG1
  clear HG1
  obtain ⟨d1, d2, d3, d4, d5, d6, hz⟩ := three HG
  clear hg
  (try clear n1 n2 n3)
  have n1 : w.heap.size < w'.heap.size := by omega
  have n2 : w.heap.size + 1 < w'.heap.size := by omega
  have n3 : w.heap.size + 1 + 1 < w'.heap.size := by omega
  go_wp2_with fail
  (with_reducible refine (covers_b _ _ _ _ _ B1.out _).mono ?_)
  rintro e w' ⟨rfl, hg⟩
  have HG1 : G (((w.alloc (pfxb p l)).alloc (pfxb q m)).alloc (pfxb r n)) w' := HG.trans hg
  clear d1 d2 d3 d4 d5 d6 hz HG
  have HG := HG1
  clear HG1
  obtain ⟨d1, d2, d3, d4, d5, d6, hz⟩ := three HG
  clear hg
  (try clear n1 n2 n3)
  have n1 : w.heap.size < w'.heap.size := by omega
  have n2 : w.heap.size + 1 < w'.heap.size := by omega
  have n3 : w.heap.size + 1 + 1 < w'.heap.size := by omega
  go_wp2_with fail
  (with_reducible refine (contains_b _ _ _ _ B4.out _).mono ?_)
  rintro e w' ⟨rfl, hg⟩
  have HG1 : G (((w.alloc (pfxb p l)).alloc (pfxb q m)).alloc (pfxb r n)) w' := HG.trans hg
  clear d1 d2 d3 d4 d5 d6 hz HG
  have HG := HG1
  clear HG1
  obtain ⟨d1, d2, d3, d4, d5, d6, hz⟩ := three HG
  clear hg
  (try clear n1 n2 n3)
  have n1 : w.heap.size < w'.heap.size := by omega
  have n2 : w.heap.size + 1 < w'.heap.size := by omega
  have n3 : w.heap.size + 1 + 1 < w'.heap.size := by omega
  go_wp2_with fail
  (with_reducible refine (clean_yes _ _ V1.out _).mono ?_)
  rintro e w' ⟨rfl, hg⟩
  have HG1 : G (((w.alloc (pfxb p l)).alloc (pfxb q m)).alloc (pfxb r n)) w' := HG.trans hg
  clear d1 d2 d3 d4 d5 d6 hz HG
  have HG := HG1
  clear HG1
  obtain ⟨d1, d2, d3, d4, d5, d6, hz⟩ := three HG
  clear hg
  (try clear n1 n2 n3)
  have n1 : w.heap.size < w'.heap.size := by omega
  have n2 : w.heap.size + 1 < w'.heap.size := by omega
  have n3 : w.heap.size + 1 + 1 < w'.heap.size := by omega
  go_wp2_with fail
  (with_reducible refine (clean_yes _ _ V2.out _).mono ?_)
  rintro e w' ⟨rfl, hg⟩
  have HG1 : G (((w.alloc (pfxb p l)).alloc (pfxb q m)).alloc (pfxb r n)) w' := HG.trans (((G.refl _).alloc _ _).trans hg)
  clear d1 d2 d3 d4 d5 d6 hz HG
  have HG := HG1
  clear HG1
  obtain ⟨d1, d2, d3, d4, d5, d6, hz⟩ := three HG
  obtain ⟨e1, e2, e3⟩ := newer hg
  clear hg
  (try clear n1 n2 n3)
  have n1 : w.heap.size < w'.heap.size := by omega
  have n2 : w.heap.size + 1 < w'.heap.size := by omega
  have n3 : w.heap.size + 1 + 1 < w'.heap.size := by omega
  go_wp2_with fail
  (with_reducible refine (covers_b _ _ _ _ _ B1.out _).mono ?_)
  rintro e w' ⟨rfl, hg⟩
  have HG1 : G (((w.alloc (pfxb p l)).alloc (pfxb q m)).alloc (pfxb r n)) w' := HG.trans (((G.refl _).alloc _ _).trans hg)
  clear d1 d2 d3 d4 d5 d6 hz HG
  have HG := HG1
  clear HG1
  obtain ⟨d1, d2, d3, d4, d5, d6, hz⟩ := three HG
  have en := older (((G.refl _).alloc _ _).trans hg) ⟨e1, e2, e3⟩
  clear e1 e2 e3
  obtain ⟨e1, e2, e3⟩ := en
  obtain ⟨f1, f2, f3⟩ := newer hg
  clear hg
  (try clear n1 n2 n3)
  have n1 : w.heap.size < w'.heap.size := by omega
  have n2 : w.heap.size + 1 < w'.heap.size := by omega
  have n3 : w.heap.size + 1 + 1 < w'.heap.size := by omega
  go_wp2_with fail
  (with_reducible refine (covers_b _ _ _ _ _ B6.out _).mono ?_)
  rintro e w' ⟨rfl, hg⟩
  have HG1 : G (((w.alloc (pfxb p l)).alloc (pfxb q m)).alloc (pfxb r n)) w' := HG.trans hg
  clear d1 d2 d3 d4 d5 d6 hz HG
  have HG := HG1
  clear HG1
  obtain ⟨d1, d2, d3, d4, d5, d6, hz⟩ := three HG
  have en := older hg ⟨e1, e2, e3⟩
  clear e1 e2 e3
  obtain ⟨e1, e2, e3⟩ := en
  have fn := older hg ⟨f1, f2, f3⟩
  clear f1 f2 f3
  obtain ⟨f1, f2, f3⟩ := fn
  clear hg
  (try clear n1 n2 n3)
  have n1 : w.heap.size < w'.heap.size := by omega
  have n2 : w.heap.size + 1 < w'.heap.size := by omega
  have n3 : w.heap.size + 1 + 1 < w'.heap.size := by omega
  go_wp2_with fail
  (with_reducible refine (clean_again _ _ V1.out _).mono ?_)
  rintro e w' ⟨rfl, hg⟩
  have HG1 : G (((w.alloc (pfxb p l)).alloc (pfxb q m)).alloc (pfxb r n)) w' := HG.trans hg
  clear d1 d2 d3 d4 d5 d6 hz HG
  have HG := HG1
  clear HG1
  obtain ⟨d1, d2, d3, d4, d5, d6, hz⟩ := three HG
  have en := older hg ⟨e1, e2, e3⟩
  clear e1 e2 e3
  obtain ⟨e1, e2, e3⟩ := en
  have fn := older hg ⟨f1, f2, f3⟩
  clear f1 f2 f3
  obtain ⟨f1, f2, f3⟩ := fn
  clear hg
  (try clear n1 n2 n3)
  have n1 : w.heap.size < w'.heap.size := by omega
  have n2 : w.heap.size + 1 < w'.heap.size := by omega
  have n3 : w.heap.size + 1 + 1 < w'.heap.size := by omega
  go_wp2_with fail
  (with_reducible refine (covers_b _ _ _ _ _ A1.out _).mono ?_)
  rintro e w' ⟨rfl, hg⟩
  have HG1 : G (((w.alloc (pfxb p l)).alloc (pfxb q m)).alloc (pfxb r n)) w' := HG.trans (((G.refl _).alloc _ _).trans hg)
  clear d1 d2 d3 d4 d5 d6 hz HG
  have HG := HG1
  clear HG1
  obtain ⟨d1, d2, d3, d4, d5, d6, hz⟩ := three HG
  have en := older (((G.refl _).alloc _ _).trans hg) ⟨e1, e2, e3⟩
  clear e1 e2 e3
  obtain ⟨e1, e2, e3⟩ := en
  have fn := older (((G.refl _).alloc _ _).trans hg) ⟨f1, f2, f3⟩
  clear f1 f2 f3
  obtain ⟨f1, f2, f3⟩ := fn
  obtain ⟨g1, g2, g3⟩ := newer hg
  clear hg
  (try clear n1 n2 n3)
  have n1 : w.heap.size < w'.heap.size := by omega
  have n2 : w.heap.size + 1 < w'.heap.size := by omega
  have n3 : w.heap.size + 1 + 1 < w'.heap.size := by omega
  go_wp2_with fail
  (with_reducible refine (covers_b _ _ _ _ _ A2.out _).mono ?_)
  rintro e w' ⟨rfl, hg⟩
  have HG1 : G (((w.alloc (pfxb p l)).alloc (pfxb q m)).alloc (pfxb r n)) w' := HG.trans hg
  clear d1 d2 d3 d4 d5 d6 hz HG
  have HG := HG1
  clear HG1
  obtain ⟨d1, d2, d3, d4, d5, d6, hz⟩ := three HG
  have en := older hg ⟨e1, e2, e3⟩
  clear e1 e2 e3
  obtain ⟨e1, e2, e3⟩ := en
  have fn := older hg ⟨f1, f2, f3⟩
  clear f1 f2 f3
  obtain ⟨f1, f2, f3⟩ := fn
  have gn := older hg ⟨g1, g2, g3⟩
  clear g1 g2 g3
  obtain ⟨g1, g2, g3⟩ := gn
  clear hg
  (try clear n1 n2 n3)
  have n1 : w.heap.size < w'.heap.size := by omega
  have n2 : w.heap.size + 1 < w'.heap.size := by omega
  have n3 : w.heap.size + 1 + 1 < w'.heap.size := by omega
  go_wp2_with fail
  go_ret
  exact ⟨rfl, ((((((G.refl w).alloc _ _).alloc _ _).alloc _ _).trans HG).grown)⟩

set_option maxHeartbeats 2000000 in
theorem cov_11111111 (p l q m r n x : Int) (w : World)
    (V1 : Hid (vld l = true)) (V2 : Hid (vld m = true)) (P0 : Hid (cv p l p l = true)) (B1 : Hid (cv p l q m = true)) (b5 : Bool) (B5 : Hid (ct p l x = b5)) (E5 : Hid (cv p l x 32 = b5)) (hl0 : 0 ≤ l) (hl1 : l ≤ 32) (B2 : Hid (cv q m r n = true)) (B4 : Hid (ct q m x = true)) (B3 : Hid (cv p l r n = true)) (B5t : Hid (ct p l x = true)) (B6 : Hid (cv q m p l = true)) (c1 : (cl p l == cl q m) = true) (c2 : (l == m) = true) (A1 : Hid (cv (cl p l) l p l = true)) (A2 : Hid (cv p l (cl p l) l = true)) :
    Calls Try.prog 3 #[pfx p l, pfx q m, pfx r n, .int .u32 x] w fun e w' => e = .returned (.bool true) ∧ Grown w w' := by
  go_enter Try.func3, Try.ntmps3
  go_wp2_with (first | (go_at_call 6; refine (lives_any _).mono ?_; rintro e w' ⟨rfl, rfl⟩))
  have hb5 : (b5 != b5) = false := bne_self_eq_false b5
  refine wp_region_held_drew (S := fun W => G (((w.alloc (pfxb p l)).alloc (pfxb q m)).alloc (pfxb r n)) W) (by kernel_rfl) (G.refl _).drew (fun hHeld => ?_)
  refine wpAnyH_take (i := 0) (oi := { dst := some 27, op := Go.Op.load 25 (Go.Operand.tmp 4), type := 25, pos := "law.go:153", after := #[], guard := none }) (v := ?_) rfl (by kernel_rfl) (by kernel_rfl) (by kernel_rfl) (fun _ _ _ h => h) (Or.inl ⟨by rfl, ?_⟩) (by assumption) ?_
  rotate_left
  · intro w hSw
    try dsimp only at hSw
    have hc := hSw.cells
    go_simp
    try with_reducible rfl
  try simp only [Act.put, List.setIfInBounds_toArray, List.set_cons_zero, List.set_cons_succ]
  refine wpAnyH_take (i := 1) (oi := { dst := some 28, op := Go.Op.load 25 (Go.Operand.tmp 4), type := 25, pos := "law.go:153", after := #[], guard := none }) (v := ?_) rfl (by kernel_rfl) (by kernel_rfl) (by kernel_rfl) (fun _ _ _ h => h) (Or.inl ⟨by rfl, ?_⟩) (by assumption) ?_
  rotate_left
  · intro w hSw
    try dsimp only at hSw
    have hc := hSw.cells
    go_simp
    try with_reducible rfl
  try simp only [Act.put, List.setIfInBounds_toArray, List.set_cons_zero, List.set_cons_succ]
  refine wpAnyH_take (i := 3) (oi := { dst := some 30, op := Go.Op.move (Go.Operand.tmp 9), type := 4, pos := "law.go:153", after := #[], guard := none }) (v := ?_) rfl (by kernel_rfl) (by kernel_rfl) (by kernel_rfl) (fun _ _ _ h => h) (Or.inl ⟨by rfl, ?_⟩) (by assumption) ?_
  rotate_left
  · intro w hSw
    try dsimp only at hSw
    have hc := hSw.cells
    go_simp
    try with_reducible rfl
  try simp only [Act.put, List.setIfInBounds_toArray, List.set_cons_zero, List.set_cons_succ]
  refine wpAnyH_ready (rs := [2]) (by kernel_rfl) (by simp) ?_
  refine AllReadyH.cons (o := { dst := some 29, op := Go.Op.call { callee := Go.Callee.value (Go.Operand.func 7), args := #[Go.Operand.tmp 27, Go.Operand.tmp 28], argTypes := #[25, 25] }, type := 4, pos := "law.go:153", after := #[{ on := 0, ground := Go.Ground.data }, { on := 1, ground := Go.Ground.data }], guard := none }) rfl (fun K hK => ?_) AllReadyH.nil
  go_simp
  refine (covers_b _ _ _ _ _ P0.out _).mono ?_
  rintro e w' ⟨rfl, hg⟩
  dsimp only
  refine hK.out _ _ ?_ (fun hHeld => ?_)
  · exact hHeld.trans hg
  clear hK K
  try simp only [Act.put, List.setIfInBounds_toArray, List.set_cons_zero, List.set_cons_succ]
  refine wpAnyH_take (i := 4) (oi := { dst := some 31, op := Go.Op.binOp Go.BinOp.neq 4 (Go.Operand.tmp 29) (Go.Operand.tmp 30) 4, type := 4, pos := "law.go:153", after := #[{ on := 2, ground := Go.Ground.data }, { on := 3, ground := Go.Ground.data }], guard := none }) (v := ?_) rfl (by kernel_rfl) (by kernel_rfl) (by kernel_rfl) (fun _ _ _ h => h) (Or.inl ⟨by rfl, ?_⟩) (by assumption) ?_
  rotate_left
  · intro w hSw
    try dsimp only at hSw
    have hc := hSw.cells
    go_simp
    try with_reducible rfl
  try simp only [Act.put, List.setIfInBounds_toArray, List.set_cons_zero, List.set_cons_succ]
  refine wpAnyH_take (i := 5) (oi := { dst := some 32, op := Go.Op.move (Go.Operand.tmp 31), type := 4, pos := "law.go:153", after := #[{ on := 4, ground := Go.Ground.data }, { on := 2, ground := Go.Ground.chain }], guard := none }) (v := ?_) rfl (by kernel_rfl) (by kernel_rfl) (by kernel_rfl) (fun _ _ _ h => h) (Or.inl ⟨by rfl, ?_⟩) (by assumption) ?_
  rotate_left
  · intro w hSw
    try dsimp only at hSw
    have hc := hSw.cells
    go_simp
    try with_reducible rfl
  try simp only [Act.put, List.setIfInBounds_toArray, List.set_cons_zero, List.set_cons_succ]
  refine wpAnyH_take (i := 6) (oi := { dst := some 33, op := Go.Op.load 25 (Go.Operand.tmp 4), type := 25, pos := "law.go:153", after := #[{ on := 5, ground := Go.Ground.guard }], guard := some (5, false) }) (v := ?_) rfl (by kernel_rfl) (by kernel_rfl) (by kernel_rfl) (fun _ _ _ h => h) (Or.inl ⟨by rfl, ?_⟩) (by assumption) ?_
  rotate_left
  · intro w hSw
    try dsimp only at hSw
    have hc := hSw.cells
    go_simp
    try with_reducible rfl
  try simp only [Act.put, List.setIfInBounds_toArray, List.set_cons_zero, List.set_cons_succ]
  refine wpAnyH_take (i := 7) (oi := { dst := some 34, op := Go.Op.move (Go.Operand.tmp 3), type := 23, pos := "law.go:153", after := #[{ on := 5, ground := Go.Ground.guard }], guard := some (5, false) }) (v := ?_) rfl (by kernel_rfl) (by kernel_rfl) (by kernel_rfl) (fun _ _ _ h => h) (Or.inl ⟨by rfl, ?_⟩) (by assumption) ?_
  rotate_left
  · intro w hSw
    try dsimp only at hSw
    have hc := hSw.cells
    go_simp
    try with_reducible rfl
  try simp only [Act.put, List.setIfInBounds_toArray, List.set_cons_zero, List.set_cons_succ]
  refine wpAnyH_take (i := 9) (oi := { dst := some 36, op := Go.Op.load 25 (Go.Operand.tmp 4), type := 25, pos := "law.go:153", after := #[{ on := 5, ground := Go.Ground.guard }], guard := some (5, false) }) (v := ?_) rfl (by kernel_rfl) (by kernel_rfl) (by kernel_rfl) (fun _ _ _ h => h) (Or.inl ⟨by rfl, ?_⟩) (by assumption) ?_
  rotate_left
  · intro w hSw
    try dsimp only at hSw
    have hc := hSw.cells
    go_simp
    try with_reducible rfl
  try simp only [Act.put, List.setIfInBounds_toArray, List.set_cons_zero, List.set_cons_succ]
  refine wpAnyH_take (i := 10) (oi := { dst := some 37, op := Go.Op.move (Go.Operand.tmp 3), type := 23, pos := "law.go:153", after := #[{ on := 5, ground := Go.Ground.guard }], guard := some (5, false) }) (v := ?_) rfl (by kernel_rfl) (by kernel_rfl) (by kernel_rfl) (fun _ _ _ h => h) (Or.inl ⟨by rfl, ?_⟩) (by assumption) ?_
  rotate_left
  · intro w hSw
    try dsimp only at hSw
    have hc := hSw.cells
    go_simp
    try with_reducible rfl
  try simp only [Act.put, List.setIfInBounds_toArray, List.set_cons_zero, List.set_cons_succ]
  refine wpAnyH_take (i := 11) (oi := { dst := some 38, op := Go.Op.build 25 #[(0, Go.Operand.tmp 37), (1, Go.Operand.const (Go.Value.int Go.IntKind.i64 32))], type := 25, pos := "law.go:153", after := #[{ on := 10, ground := Go.Ground.data }, { on := 5, ground := Go.Ground.guard }], guard := some (5, false) }) (v := ?_) rfl (by kernel_rfl) (by kernel_rfl) (by kernel_rfl) (fun _ _ _ h => h) (Or.inl ⟨by rfl, ?_⟩) (by assumption) ?_
  rotate_left
  · intro w hSw
    try dsimp only at hSw
    have hc := hSw.cells
    go_simp
    try with_reducible rfl
  try simp only [Act.put, List.setIfInBounds_toArray, List.set_cons_zero, List.set_cons_succ]
  refine wpAnyH_ready (rs := [8]) (by kernel_rfl) (by simp) ?_
  refine AllReadyH.cons (o := { dst := some 35, op := Go.Op.call { callee := Go.Callee.value (Go.Operand.func 8), args := #[Go.Operand.tmp 33, Go.Operand.tmp 34], argTypes := #[25, 23] }, type := 4, pos := "law.go:153", after := #[{ on := 6, ground := Go.Ground.data }, { on := 7, ground := Go.Ground.data }, { on := 5, ground := Go.Ground.chain }, { on := 5, ground := Go.Ground.guard }], guard := some (5, false) }) rfl (fun K hK => ?_) AllReadyH.nil
  go_simp
  refine (contains_b _ _ _ _ B5.out _).mono ?_
  rintro e w' ⟨rfl, hg⟩
  dsimp only
  refine hK.out _ _ ?_ (fun hHeld => ?_)
  · exact hHeld.trans hg
  clear hK K
  try simp only [Act.put, List.setIfInBounds_toArray, List.set_cons_zero, List.set_cons_succ]
  refine wpAnyH_ready (rs := [12]) (by kernel_rfl) (by simp) ?_
  refine AllReadyH.cons (o := { dst := some 39, op := Go.Op.call { callee := Go.Callee.value (Go.Operand.func 7), args := #[Go.Operand.tmp 36, Go.Operand.tmp 38], argTypes := #[25, 25] }, type := 4, pos := "law.go:153", after := #[{ on := 9, ground := Go.Ground.data }, { on := 11, ground := Go.Ground.data }, { on := 8, ground := Go.Ground.chain }, { on := 5, ground := Go.Ground.guard }], guard := some (5, false) }) rfl (fun K hK => ?_) AllReadyH.nil
  go_simp
  refine (covers_b _ _ _ _ _ E5.out _).mono ?_
  rintro e w' ⟨rfl, hg⟩
  dsimp only
  refine hK.out _ _ ?_ (fun hHeld => ?_)
  · exact hHeld.trans hg
  clear hK K
  try simp only [Act.put, List.setIfInBounds_toArray, List.set_cons_zero, List.set_cons_succ]
  refine wpAnyH_take (i := 13) (oi := { dst := some 40, op := Go.Op.binOp Go.BinOp.neq 4 (Go.Operand.tmp 35) (Go.Operand.tmp 39) 4, type := 4, pos := "law.go:153", after := #[{ on := 8, ground := Go.Ground.data }, { on := 12, ground := Go.Ground.data }, { on := 5, ground := Go.Ground.guard }], guard := some (5, false) }) (v := ?_) rfl (by kernel_rfl) (by kernel_rfl) (by kernel_rfl) (fun _ _ _ h => h) (Or.inl ⟨by rfl, ?_⟩) (by assumption) ?_
  rotate_left
  · intro w hSw
    try dsimp only at hSw
    have hc := hSw.cells
    go_simp
    try with_reducible rfl
  try simp only [Act.put, List.setIfInBounds_toArray, List.set_cons_zero, List.set_cons_succ]
  refine wpAnyH_take (i := 14) (oi := { dst := some 41, op := Go.Op.pick (Go.Operand.tmp 32) (Go.Operand.const (Go.Value.bool true)) (Go.Operand.tmp 40), type := 4, pos := "law.go:153", after := #[{ on := 5, ground := Go.Ground.data }, { on := 13, ground := Go.Ground.data }], guard := none }) (v := ?_) rfl (by kernel_rfl) (by kernel_rfl) (by kernel_rfl) (fun _ _ _ h => h) (Or.inl ⟨by rfl, ?_⟩) (by assumption) ?_
  rotate_left
  · intro w hSw
    try dsimp only at hSw
    have hc := hSw.cells
    go_simp
    try with_reducible rfl
  try simp only [Act.put, List.setIfInBounds_toArray, List.set_cons_zero, List.set_cons_succ]
  refine wpAnyH_done (by kernel_rfl) ?_ _
  have HG : G (((w.alloc (pfxb p l)).alloc (pfxb q m)).alloc (pfxb r n)) w' := hHeld
  clear P0 B5 E5 hb5 hHeld
  obtain ⟨d1, d2, d3, d4, d5, d6, hz⟩ := three HG
  go_wp2_with fail
  (with_reducible refine (covers_b _ _ _ _ _ B1.out _).mono ?_)
  rintro e w' ⟨rfl, hg⟩
  have HG1 : G (((w.alloc (pfxb p l)).alloc (pfxb q m)).alloc (pfxb r n)) w' := HG.trans hg
  clear d1 d2 d3 d4 d5 d6 hz HG
  have HG := HG1
  clear HG1
  obtain ⟨d1, d2, d3, d4, d5, d6, hz⟩ := three HG
  clear hg
  (try clear n1 n2 n3)
  have n1 : w.heap.size < w'.heap.size := by omega
  have n2 : w.heap.size + 1 < w'.heap.size := by omega
  have n3 : w.heap.size + 1 + 1 < w'.heap.size := by omega
  go_wp2_with fail
  (with_reducible refine (covers_b _ _ _ _ _ B2.out _).mono ?_)
  rintro e w' ⟨rfl, hg⟩
  have HG1 : G (((w.alloc (pfxb p l)).alloc (pfxb q m)).alloc (pfxb r n)) w' := HG.trans hg
  clear d1 d2 d3 d4 d5 d6 hz HG
  have HG := HG1
  clear HG1
  obtain ⟨d1, d2, d3, d4, d5, d6, hz⟩ := three HG
  clear hg
  (try clear n1 n2 n3)
  have n1 : w.heap.size < w'.heap.size := by omega
  have n2 : w.heap.size + 1 < w'.heap.size := by omega
  have n3 : w.heap.size + 1 + 1 < w'.heap.size := by omega
  go_wp2_with fail
  (with_reducible refine (covers_b _ _ _ _ _ B3.out _).mono ?_)
  rintro e w' ⟨rfl, hg⟩
  have HG1 : G (((w.alloc (pfxb p l)).alloc (pfxb q m)).alloc (pfxb r n)) w' := HG.trans hg
  clear d1 d2 d3 d4 d5 d6 hz HG
  have HG := HG1
  clear HG1
  obtain ⟨d1, d2, d3, d4, d5, d6, hz⟩ := three HG
  clear hg
  (try clear n1 n2 n3)
  have n1 : w.heap.size < w'.heap.size := by omega
  have n2 : w.heap.size + 1 < w'.heap.size := by omega
  have n3 : w.heap.size + 1 + 1 < w'.heap.size := by omega
  go_wp2_with fail
  (with_reducible refine (covers_b _ _ _ _ _ B1.out _).mono ?_)
  rintro e w' ⟨rfl, hg⟩
  have HG1 : G (((w.alloc (pfxb p l)).alloc (pfxb q m)).alloc (pfxb r n)) w' := HG.trans hg
  clear d1 d2 d3 d4 d5 d6 hz HG
  have HG := HG1
  clear HG1
  obtain ⟨d1, d2, d3, d4, d5, d6, hz⟩ := three HG
  clear hg
  (try clear n1 n2 n3)
  have n1 : w.heap.size < w'.heap.size := by omega
  have n2 : w.heap.size + 1 < w'.heap.size := by omega
  have n3 : w.heap.size + 1 + 1 < w'.heap.size := by omega
  go_wp2_with fail
  (with_reducible refine (contains_b _ _ _ _ B4.out _).mono ?_)
  rintro e w' ⟨rfl, hg⟩
  have HG1 : G (((w.alloc (pfxb p l)).alloc (pfxb q m)).alloc (pfxb r n)) w' := HG.trans hg
  clear d1 d2 d3 d4 d5 d6 hz HG
  have HG := HG1
  clear HG1
  obtain ⟨d1, d2, d3, d4, d5, d6, hz⟩ := three HG
  clear hg
  (try clear n1 n2 n3)
  have n1 : w.heap.size < w'.heap.size := by omega
  have n2 : w.heap.size + 1 < w'.heap.size := by omega
  have n3 : w.heap.size + 1 + 1 < w'.heap.size := by omega
  go_wp2_with fail
  (with_reducible refine (contains_b _ _ _ _ B5t.out _).mono ?_)
  rintro e w' ⟨rfl, hg⟩
  have HG1 : G (((w.alloc (pfxb p l)).alloc (pfxb q m)).alloc (pfxb r n)) w' := HG.trans hg
  clear d1 d2 d3 d4 d5 d6 hz HG
  have HG := HG1
  clear HG1
  obtain ⟨d1, d2, d3, d4, d5, d6, hz⟩ := three HG
  clear hg
  (try clear n1 n2 n3)
  have n1 : w.heap.size < w'.heap.size := by omega
  have n2 : w.heap.size + 1 < w'.heap.size := by omega
  have n3 : w.heap.size + 1 + 1 < w'.heap.size := by omega
  go_wp2_with fail
  (with_reducible refine (clean_yes _ _ V1.out _).mono ?_)
  rintro e w' ⟨rfl, hg⟩
  have HG1 : G (((w.alloc (pfxb p l)).alloc (pfxb q m)).alloc (pfxb r n)) w' := HG.trans hg
  clear d1 d2 d3 d4 d5 d6 hz HG
  have HG := HG1
  clear HG1
  obtain ⟨d1, d2, d3, d4, d5, d6, hz⟩ := three HG
  clear hg
  (try clear n1 n2 n3)
  have n1 : w.heap.size < w'.heap.size := by omega
  have n2 : w.heap.size + 1 < w'.heap.size := by omega
  have n3 : w.heap.size + 1 + 1 < w'.heap.size := by omega
  go_wp2_with fail
  (with_reducible refine (clean_yes _ _ V2.out _).mono ?_)
  rintro e w' ⟨rfl, hg⟩
  have HG1 : G (((w.alloc (pfxb p l)).alloc (pfxb q m)).alloc (pfxb r n)) w' := HG.trans (((G.refl _).alloc _ _).trans hg)
  clear d1 d2 d3 d4 d5 d6 hz HG
  have HG := HG1
  clear HG1
  obtain ⟨d1, d2, d3, d4, d5, d6, hz⟩ := three HG
  obtain ⟨e1, e2, e3⟩ := newer hg
  clear hg
  (try clear n1 n2 n3)
  have n1 : w.heap.size < w'.heap.size := by omega
  have n2 : w.heap.size + 1 < w'.heap.size := by omega
  have n3 : w.heap.size + 1 + 1 < w'.heap.size := by omega
  go_wp2_with fail
  (with_reducible refine (covers_b _ _ _ _ _ B1.out _).mono ?_)
  rintro e w' ⟨rfl, hg⟩
  have HG1 : G (((w.alloc (pfxb p l)).alloc (pfxb q m)).alloc (pfxb r n)) w' := HG.trans (((G.refl _).alloc _ _).trans hg)
  clear d1 d2 d3 d4 d5 d6 hz HG
  have HG := HG1
  clear HG1
  obtain ⟨d1, d2, d3, d4, d5, d6, hz⟩ := three HG
  have en := older (((G.refl _).alloc _ _).trans hg) ⟨e1, e2, e3⟩
  clear e1 e2 e3
  obtain ⟨e1, e2, e3⟩ := en
  obtain ⟨f1, f2, f3⟩ := newer hg
  clear hg
  (try clear n1 n2 n3)
  have n1 : w.heap.size < w'.heap.size := by omega
  have n2 : w.heap.size + 1 < w'.heap.size := by omega
  have n3 : w.heap.size + 1 + 1 < w'.heap.size := by omega
  go_wp2_with fail
  (with_reducible refine (covers_b _ _ _ _ _ B6.out _).mono ?_)
  rintro e w' ⟨rfl, hg⟩
  have HG1 : G (((w.alloc (pfxb p l)).alloc (pfxb q m)).alloc (pfxb r n)) w' := HG.trans hg
  clear d1 d2 d3 d4 d5 d6 hz HG
  have HG := HG1
  clear HG1
  obtain ⟨d1, d2, d3, d4, d5, d6, hz⟩ := three HG
  have en := older hg ⟨e1, e2, e3⟩
  clear e1 e2 e3
  obtain ⟨e1, e2, e3⟩ := en
  have fn := older hg ⟨f1, f2, f3⟩
  clear f1 f2 f3
  obtain ⟨f1, f2, f3⟩ := fn
  clear hg
  (try clear n1 n2 n3)
  have n1 : w.heap.size < w'.heap.size := by omega
  have n2 : w.heap.size + 1 < w'.heap.size := by omega
  have n3 : w.heap.size + 1 + 1 < w'.heap.size := by omega
  go_wp2_with fail
  (with_reducible refine (clean_again _ _ V1.out _).mono ?_)
  rintro e w' ⟨rfl, hg⟩
  have HG1 : G (((w.alloc (pfxb p l)).alloc (pfxb q m)).alloc (pfxb r n)) w' := HG.trans hg
  clear d1 d2 d3 d4 d5 d6 hz HG
  have HG := HG1
  clear HG1
  obtain ⟨d1, d2, d3, d4, d5, d6, hz⟩ := three HG
  have en := older hg ⟨e1, e2, e3⟩
  clear e1 e2 e3
  obtain ⟨e1, e2, e3⟩ := en
  have fn := older hg ⟨f1, f2, f3⟩
  clear f1 f2 f3
  obtain ⟨f1, f2, f3⟩ := fn
  clear hg
  (try clear n1 n2 n3)
  have n1 : w.heap.size < w'.heap.size := by omega
  have n2 : w.heap.size + 1 < w'.heap.size := by omega
  have n3 : w.heap.size + 1 + 1 < w'.heap.size := by omega
  go_wp2_with fail
  (with_reducible refine (covers_b _ _ _ _ _ A1.out _).mono ?_)
  rintro e w' ⟨rfl, hg⟩
  have HG1 : G (((w.alloc (pfxb p l)).alloc (pfxb q m)).alloc (pfxb r n)) w' := HG.trans (((G.refl _).alloc _ _).trans hg)
  clear d1 d2 d3 d4 d5 d6 hz HG
  have HG := HG1
  clear HG1
  obtain ⟨d1, d2, d3, d4, d5, d6, hz⟩ := three HG
  have en := older (((G.refl _).alloc _ _).trans hg) ⟨e1, e2, e3⟩
  clear e1 e2 e3
  obtain ⟨e1, e2, e3⟩ := en
  have fn := older (((G.refl _).alloc _ _).trans hg) ⟨f1, f2, f3⟩
  clear f1 f2 f3
  obtain ⟨f1, f2, f3⟩ := fn
  obtain ⟨g1, g2, g3⟩ := newer hg
  clear hg
  (try clear n1 n2 n3)
  have n1 : w.heap.size < w'.heap.size := by omega
  have n2 : w.heap.size + 1 < w'.heap.size := by omega
  have n3 : w.heap.size + 1 + 1 < w'.heap.size := by omega
  go_wp2_with fail
  (with_reducible refine (covers_b _ _ _ _ _ A2.out _).mono ?_)
  rintro e w' ⟨rfl, hg⟩
  have HG1 : G (((w.alloc (pfxb p l)).alloc (pfxb q m)).alloc (pfxb r n)) w' := HG.trans hg
  clear d1 d2 d3 d4 d5 d6 hz HG
  have HG := HG1
  clear HG1
  obtain ⟨d1, d2, d3, d4, d5, d6, hz⟩ := three HG
  have en := older hg ⟨e1, e2, e3⟩
  clear e1 e2 e3
  obtain ⟨e1, e2, e3⟩ := en
  have fn := older hg ⟨f1, f2, f3⟩
  clear f1 f2 f3
  obtain ⟨f1, f2, f3⟩ := fn
  have gn := older hg ⟨g1, g2, g3⟩
  clear g1 g2 g3
  obtain ⟨g1, g2, g3⟩ := gn
  clear hg
  (try clear n1 n2 n3)
  have n1 : w.heap.size < w'.heap.size := by omega
  have n2 : w.heap.size + 1 < w'.heap.size := by omega
  have n3 : w.heap.size + 1 + 1 < w'.heap.size := by omega
  go_wp2_with fail
  go_ret
  exact ⟨rfl, ((((((G.refl w).alloc _ _).alloc _ _).alloc _ _).trans HG).grown)⟩

set_option maxHeartbeats 2000000 in
theorem cov_11111000 (p l q m r n x : Int) (w : World)
    (V1 : Hid (vld l = true)) (V2 : Hid (vld m = true)) (P0 : Hid (cv p l p l = true)) (B1 : Hid (cv p l q m = true)) (b5 : Bool) (B5 : Hid (ct p l x = b5)) (E5 : Hid (cv p l x 32 = b5)) (hl0 : 0 ≤ l) (hl1 : l ≤ 32) (B2 : Hid (cv q m r n = true)) (B4 : Hid (ct q m x = true)) (B3 : Hid (cv p l r n = true)) (B5t : Hid (ct p l x = true)) (B6 : Hid (cv q m p l = false)) (c1 : (cl p l == cl q m) = false) (A1 : Hid (cv (cl p l) l p l = true)) (A2 : Hid (cv p l (cl p l) l = true)) :
    Calls Try.prog 3 #[pfx p l, pfx q m, pfx r n, .int .u32 x] w fun e w' => e = .returned (.bool true) ∧ Grown w w' := by
  go_enter Try.func3, Try.ntmps3
  go_wp2_with (first | (go_at_call 6; refine (lives_any _).mono ?_; rintro e w' ⟨rfl, rfl⟩))
  have hb5 : (b5 != b5) = false := bne_self_eq_false b5
  refine wp_region_held_drew (S := fun W => G (((w.alloc (pfxb p l)).alloc (pfxb q m)).alloc (pfxb r n)) W) (by kernel_rfl) (G.refl _).drew (fun hHeld => ?_)
  refine wpAnyH_take (i := 0) (oi := { dst := some 27, op := Go.Op.load 25 (Go.Operand.tmp 4), type := 25, pos := "law.go:153", after := #[], guard := none }) (v := ?_) rfl (by kernel_rfl) (by kernel_rfl) (by kernel_rfl) (fun _ _ _ h => h) (Or.inl ⟨by rfl, ?_⟩) (by assumption) ?_
  rotate_left
  · intro w hSw
    try dsimp only at hSw
    have hc := hSw.cells
    go_simp
    try with_reducible rfl
  try simp only [Act.put, List.setIfInBounds_toArray, List.set_cons_zero, List.set_cons_succ]
  refine wpAnyH_take (i := 1) (oi := { dst := some 28, op := Go.Op.load 25 (Go.Operand.tmp 4), type := 25, pos := "law.go:153", after := #[], guard := none }) (v := ?_) rfl (by kernel_rfl) (by kernel_rfl) (by kernel_rfl) (fun _ _ _ h => h) (Or.inl ⟨by rfl, ?_⟩) (by assumption) ?_
  rotate_left
  · intro w hSw
    try dsimp only at hSw
    have hc := hSw.cells
    go_simp
    try with_reducible rfl
  try simp only [Act.put, List.setIfInBounds_toArray, List.set_cons_zero, List.set_cons_succ]
  refine wpAnyH_take (i := 3) (oi := { dst := some 30, op := Go.Op.move (Go.Operand.tmp 9), type := 4, pos := "law.go:153", after := #[], guard := none }) (v := ?_) rfl (by kernel_rfl) (by kernel_rfl) (by kernel_rfl) (fun _ _ _ h => h) (Or.inl ⟨by rfl, ?_⟩) (by assumption) ?_
  rotate_left
  · intro w hSw
    try dsimp only at hSw
    have hc := hSw.cells
    go_simp
    try with_reducible rfl
  try simp only [Act.put, List.setIfInBounds_toArray, List.set_cons_zero, List.set_cons_succ]
  refine wpAnyH_ready (rs := [2]) (by kernel_rfl) (by simp) ?_
  refine AllReadyH.cons (o := { dst := some 29, op := Go.Op.call { callee := Go.Callee.value (Go.Operand.func 7), args := #[Go.Operand.tmp 27, Go.Operand.tmp 28], argTypes := #[25, 25] }, type := 4, pos := "law.go:153", after := #[{ on := 0, ground := Go.Ground.data }, { on := 1, ground := Go.Ground.data }], guard := none }) rfl (fun K hK => ?_) AllReadyH.nil
  go_simp
  refine (covers_b _ _ _ _ _ P0.out _).mono ?_
  rintro e w' ⟨rfl, hg⟩
  dsimp only
  refine hK.out _ _ ?_ (fun hHeld => ?_)
  · exact hHeld.trans hg
  clear hK K
  try simp only [Act.put, List.setIfInBounds_toArray, List.set_cons_zero, List.set_cons_succ]
  refine wpAnyH_take (i := 4) (oi := { dst := some 31, op := Go.Op.binOp Go.BinOp.neq 4 (Go.Operand.tmp 29) (Go.Operand.tmp 30) 4, type := 4, pos := "law.go:153", after := #[{ on := 2, ground := Go.Ground.data }, { on := 3, ground := Go.Ground.data }], guard := none }) (v := ?_) rfl (by kernel_rfl) (by kernel_rfl) (by kernel_rfl) (fun _ _ _ h => h) (Or.inl ⟨by rfl, ?_⟩) (by assumption) ?_
  rotate_left
  · intro w hSw
    try dsimp only at hSw
    have hc := hSw.cells
    go_simp
    try with_reducible rfl
  try simp only [Act.put, List.setIfInBounds_toArray, List.set_cons_zero, List.set_cons_succ]
  refine wpAnyH_take (i := 5) (oi := { dst := some 32, op := Go.Op.move (Go.Operand.tmp 31), type := 4, pos := "law.go:153", after := #[{ on := 4, ground := Go.Ground.data }, { on := 2, ground := Go.Ground.chain }], guard := none }) (v := ?_) rfl (by kernel_rfl) (by kernel_rfl) (by kernel_rfl) (fun _ _ _ h => h) (Or.inl ⟨by rfl, ?_⟩) (by assumption) ?_
  rotate_left
  · intro w hSw
    try dsimp only at hSw
    have hc := hSw.cells
    go_simp
    try with_reducible rfl
  try simp only [Act.put, List.setIfInBounds_toArray, List.set_cons_zero, List.set_cons_succ]
  refine wpAnyH_take (i := 6) (oi := { dst := some 33, op := Go.Op.load 25 (Go.Operand.tmp 4), type := 25, pos := "law.go:153", after := #[{ on := 5, ground := Go.Ground.guard }], guard := some (5, false) }) (v := ?_) rfl (by kernel_rfl) (by kernel_rfl) (by kernel_rfl) (fun _ _ _ h => h) (Or.inl ⟨by rfl, ?_⟩) (by assumption) ?_
  rotate_left
  · intro w hSw
    try dsimp only at hSw
    have hc := hSw.cells
    go_simp
    try with_reducible rfl
  try simp only [Act.put, List.setIfInBounds_toArray, List.set_cons_zero, List.set_cons_succ]
  refine wpAnyH_take (i := 7) (oi := { dst := some 34, op := Go.Op.move (Go.Operand.tmp 3), type := 23, pos := "law.go:153", after := #[{ on := 5, ground := Go.Ground.guard }], guard := some (5, false) }) (v := ?_) rfl (by kernel_rfl) (by kernel_rfl) (by kernel_rfl) (fun _ _ _ h => h) (Or.inl ⟨by rfl, ?_⟩) (by assumption) ?_
  rotate_left
  · intro w hSw
    try dsimp only at hSw
    have hc := hSw.cells
    go_simp
    try with_reducible rfl
  try simp only [Act.put, List.setIfInBounds_toArray, List.set_cons_zero, List.set_cons_succ]
  refine wpAnyH_take (i := 9) (oi := { dst := some 36, op := Go.Op.load 25 (Go.Operand.tmp 4), type := 25, pos := "law.go:153", after := #[{ on := 5, ground := Go.Ground.guard }], guard := some (5, false) }) (v := ?_) rfl (by kernel_rfl) (by kernel_rfl) (by kernel_rfl) (fun _ _ _ h => h) (Or.inl ⟨by rfl, ?_⟩) (by assumption) ?_
  rotate_left
  · intro w hSw
    try dsimp only at hSw
    have hc := hSw.cells
    go_simp
    try with_reducible rfl
  try simp only [Act.put, List.setIfInBounds_toArray, List.set_cons_zero, List.set_cons_succ]
  refine wpAnyH_take (i := 10) (oi := { dst := some 37, op := Go.Op.move (Go.Operand.tmp 3), type := 23, pos := "law.go:153", after := #[{ on := 5, ground := Go.Ground.guard }], guard := some (5, false) }) (v := ?_) rfl (by kernel_rfl) (by kernel_rfl) (by kernel_rfl) (fun _ _ _ h => h) (Or.inl ⟨by rfl, ?_⟩) (by assumption) ?_
  rotate_left
  · intro w hSw
    try dsimp only at hSw
    have hc := hSw.cells
    go_simp
    try with_reducible rfl
  try simp only [Act.put, List.setIfInBounds_toArray, List.set_cons_zero, List.set_cons_succ]
  refine wpAnyH_take (i := 11) (oi := { dst := some 38, op := Go.Op.build 25 #[(0, Go.Operand.tmp 37), (1, Go.Operand.const (Go.Value.int Go.IntKind.i64 32))], type := 25, pos := "law.go:153", after := #[{ on := 10, ground := Go.Ground.data }, { on := 5, ground := Go.Ground.guard }], guard := some (5, false) }) (v := ?_) rfl (by kernel_rfl) (by kernel_rfl) (by kernel_rfl) (fun _ _ _ h => h) (Or.inl ⟨by rfl, ?_⟩) (by assumption) ?_
  rotate_left
  · intro w hSw
    try dsimp only at hSw
    have hc := hSw.cells
    go_simp
    try with_reducible rfl
  try simp only [Act.put, List.setIfInBounds_toArray, List.set_cons_zero, List.set_cons_succ]
  refine wpAnyH_ready (rs := [8]) (by kernel_rfl) (by simp) ?_
  refine AllReadyH.cons (o := { dst := some 35, op := Go.Op.call { callee := Go.Callee.value (Go.Operand.func 8), args := #[Go.Operand.tmp 33, Go.Operand.tmp 34], argTypes := #[25, 23] }, type := 4, pos := "law.go:153", after := #[{ on := 6, ground := Go.Ground.data }, { on := 7, ground := Go.Ground.data }, { on := 5, ground := Go.Ground.chain }, { on := 5, ground := Go.Ground.guard }], guard := some (5, false) }) rfl (fun K hK => ?_) AllReadyH.nil
  go_simp
  refine (contains_b _ _ _ _ B5.out _).mono ?_
  rintro e w' ⟨rfl, hg⟩
  dsimp only
  refine hK.out _ _ ?_ (fun hHeld => ?_)
  · exact hHeld.trans hg
  clear hK K
  try simp only [Act.put, List.setIfInBounds_toArray, List.set_cons_zero, List.set_cons_succ]
  refine wpAnyH_ready (rs := [12]) (by kernel_rfl) (by simp) ?_
  refine AllReadyH.cons (o := { dst := some 39, op := Go.Op.call { callee := Go.Callee.value (Go.Operand.func 7), args := #[Go.Operand.tmp 36, Go.Operand.tmp 38], argTypes := #[25, 25] }, type := 4, pos := "law.go:153", after := #[{ on := 9, ground := Go.Ground.data }, { on := 11, ground := Go.Ground.data }, { on := 8, ground := Go.Ground.chain }, { on := 5, ground := Go.Ground.guard }], guard := some (5, false) }) rfl (fun K hK => ?_) AllReadyH.nil
  go_simp
  refine (covers_b _ _ _ _ _ E5.out _).mono ?_
  rintro e w' ⟨rfl, hg⟩
  dsimp only
  refine hK.out _ _ ?_ (fun hHeld => ?_)
  · exact hHeld.trans hg
  clear hK K
  try simp only [Act.put, List.setIfInBounds_toArray, List.set_cons_zero, List.set_cons_succ]
  refine wpAnyH_take (i := 13) (oi := { dst := some 40, op := Go.Op.binOp Go.BinOp.neq 4 (Go.Operand.tmp 35) (Go.Operand.tmp 39) 4, type := 4, pos := "law.go:153", after := #[{ on := 8, ground := Go.Ground.data }, { on := 12, ground := Go.Ground.data }, { on := 5, ground := Go.Ground.guard }], guard := some (5, false) }) (v := ?_) rfl (by kernel_rfl) (by kernel_rfl) (by kernel_rfl) (fun _ _ _ h => h) (Or.inl ⟨by rfl, ?_⟩) (by assumption) ?_
  rotate_left
  · intro w hSw
    try dsimp only at hSw
    have hc := hSw.cells
    go_simp
    try with_reducible rfl
  try simp only [Act.put, List.setIfInBounds_toArray, List.set_cons_zero, List.set_cons_succ]
  refine wpAnyH_take (i := 14) (oi := { dst := some 41, op := Go.Op.pick (Go.Operand.tmp 32) (Go.Operand.const (Go.Value.bool true)) (Go.Operand.tmp 40), type := 4, pos := "law.go:153", after := #[{ on := 5, ground := Go.Ground.data }, { on := 13, ground := Go.Ground.data }], guard := none }) (v := ?_) rfl (by kernel_rfl) (by kernel_rfl) (by kernel_rfl) (fun _ _ _ h => h) (Or.inl ⟨by rfl, ?_⟩) (by assumption) ?_
  rotate_left
  · intro w hSw
    try dsimp only at hSw
    have hc := hSw.cells
    go_simp
    try with_reducible rfl
  try simp only [Act.put, List.setIfInBounds_toArray, List.set_cons_zero, List.set_cons_succ]
  refine wpAnyH_done (by kernel_rfl) ?_ _
  have HG : G (((w.alloc (pfxb p l)).alloc (pfxb q m)).alloc (pfxb r n)) w' := hHeld
  clear P0 B5 E5 hb5 hHeld
  obtain ⟨d1, d2, d3, d4, d5, d6, hz⟩ := three HG
  go_wp2_with fail
  (with_reducible refine (covers_b _ _ _ _ _ B1.out _).mono ?_)
  rintro e w' ⟨rfl, hg⟩
  have HG1 : G (((w.alloc (pfxb p l)).alloc (pfxb q m)).alloc (pfxb r n)) w' := HG.trans hg
  clear d1 d2 d3 d4 d5 d6 hz HG
  have HG := HG1
  clear HG1
  obtain ⟨d1, d2, d3, d4, d5, d6, hz⟩ := three HG
  clear hg
  (try clear n1 n2 n3)
  have n1 : w.heap.size < w'.heap.size := by omega
  have n2 : w.heap.size + 1 < w'.heap.size := by omega
  have n3 : w.heap.size + 1 + 1 < w'.heap.size := by omega
  go_wp2_with fail
  (with_reducible refine (covers_b _ _ _ _ _ B2.out _).mono ?_)
  rintro e w' ⟨rfl, hg⟩
  have HG1 : G (((w.alloc (pfxb p l)).alloc (pfxb q m)).alloc (pfxb r n)) w' := HG.trans hg
  clear d1 d2 d3 d4 d5 d6 hz HG
  have HG := HG1
  clear HG1
  obtain ⟨d1, d2, d3, d4, d5, d6, hz⟩ := three HG
  clear hg
  (try clear n1 n2 n3)
  have n1 : w.heap.size < w'.heap.size := by omega
  have n2 : w.heap.size + 1 < w'.heap.size := by omega
  have n3 : w.heap.size + 1 + 1 < w'.heap.size := by omega
  go_wp2_with fail
  (with_reducible refine (covers_b _ _ _ _ _ B3.out _).mono ?_)
  rintro e w' ⟨rfl, hg⟩
  have HG1 : G (((w.alloc (pfxb p l)).alloc (pfxb q m)).alloc (pfxb r n)) w' := HG.trans hg
  clear d1 d2 d3 d4 d5 d6 hz HG
  have HG := HG1
  clear HG1
  obtain ⟨d1, d2, d3, d4, d5, d6, hz⟩ := three HG
  clear hg
  (try clear n1 n2 n3)
  have n1 : w.heap.size < w'.heap.size := by omega
  have n2 : w.heap.size + 1 < w'.heap.size := by omega
  have n3 : w.heap.size + 1 + 1 < w'.heap.size := by omega
  go_wp2_with fail
  (with_reducible refine (covers_b _ _ _ _ _ B1.out _).mono ?_)
  rintro e w' ⟨rfl, hg⟩
  have HG1 : G (((w.alloc (pfxb p l)).alloc (pfxb q m)).alloc (pfxb r n)) w' := HG.trans hg
  clear d1 d2 d3 d4 d5 d6 hz HG
  have HG := HG1
  clear HG1
  obtain ⟨d1, d2, d3, d4, d5, d6, hz⟩ := three HG
  clear hg
  (try clear n1 n2 n3)
  have n1 : w.heap.size < w'.heap.size := by omega
  have n2 : w.heap.size + 1 < w'.heap.size := by omega
  have n3 : w.heap.size + 1 + 1 < w'.heap.size := by omega
  go_wp2_with fail
  (with_reducible refine (contains_b _ _ _ _ B4.out _).mono ?_)
  rintro e w' ⟨rfl, hg⟩
  have HG1 : G (((w.alloc (pfxb p l)).alloc (pfxb q m)).alloc (pfxb r n)) w' := HG.trans hg
  clear d1 d2 d3 d4 d5 d6 hz HG
  have HG := HG1
  clear HG1
  obtain ⟨d1, d2, d3, d4, d5, d6, hz⟩ := three HG
  clear hg
  (try clear n1 n2 n3)
  have n1 : w.heap.size < w'.heap.size := by omega
  have n2 : w.heap.size + 1 < w'.heap.size := by omega
  have n3 : w.heap.size + 1 + 1 < w'.heap.size := by omega
  go_wp2_with fail
  (with_reducible refine (contains_b _ _ _ _ B5t.out _).mono ?_)
  rintro e w' ⟨rfl, hg⟩
  have HG1 : G (((w.alloc (pfxb p l)).alloc (pfxb q m)).alloc (pfxb r n)) w' := HG.trans hg
  clear d1 d2 d3 d4 d5 d6 hz HG
  have HG := HG1
  clear HG1
  obtain ⟨d1, d2, d3, d4, d5, d6, hz⟩ := three HG
  clear hg
  (try clear n1 n2 n3)
  have n1 : w.heap.size < w'.heap.size := by omega
  have n2 : w.heap.size + 1 < w'.heap.size := by omega
  have n3 : w.heap.size + 1 + 1 < w'.heap.size := by omega
  go_wp2_with fail
  (with_reducible refine (clean_yes _ _ V1.out _).mono ?_)
  rintro e w' ⟨rfl, hg⟩
  have HG1 : G (((w.alloc (pfxb p l)).alloc (pfxb q m)).alloc (pfxb r n)) w' := HG.trans hg
  clear d1 d2 d3 d4 d5 d6 hz HG
  have HG := HG1
  clear HG1
  obtain ⟨d1, d2, d3, d4, d5, d6, hz⟩ := three HG
  clear hg
  (try clear n1 n2 n3)
  have n1 : w.heap.size < w'.heap.size := by omega
  have n2 : w.heap.size + 1 < w'.heap.size := by omega
  have n3 : w.heap.size + 1 + 1 < w'.heap.size := by omega
  go_wp2_with fail
  (with_reducible refine (clean_yes _ _ V2.out _).mono ?_)
  rintro e w' ⟨rfl, hg⟩
  have HG1 : G (((w.alloc (pfxb p l)).alloc (pfxb q m)).alloc (pfxb r n)) w' := HG.trans (((G.refl _).alloc _ _).trans hg)
  clear d1 d2 d3 d4 d5 d6 hz HG
  have HG := HG1
  clear HG1
  obtain ⟨d1, d2, d3, d4, d5, d6, hz⟩ := three HG
  obtain ⟨e1, e2, e3⟩ := newer hg
  clear hg
  (try clear n1 n2 n3)
  have n1 : w.heap.size < w'.heap.size := by omega
  have n2 : w.heap.size + 1 < w'.heap.size := by omega
  have n3 : w.heap.size + 1 + 1 < w'.heap.size := by omega
  go_wp2_with fail
  (with_reducible refine (covers_b _ _ _ _ _ B1.out _).mono ?_)
  rintro e w' ⟨rfl, hg⟩
  have HG1 : G (((w.alloc (pfxb p l)).alloc (pfxb q m)).alloc (pfxb r n)) w' := HG.trans (((G.refl _).alloc _ _).trans hg)
  clear d1 d2 d3 d4 d5 d6 hz HG
  have HG := HG1
  clear HG1
  obtain ⟨d1, d2, d3, d4, d5, d6, hz⟩ := three HG
  have en := older (((G.refl _).alloc _ _).trans hg) ⟨e1, e2, e3⟩
  clear e1 e2 e3
  obtain ⟨e1, e2, e3⟩ := en
  obtain ⟨f1, f2, f3⟩ := newer hg
  clear hg
  (try clear n1 n2 n3)
  have n1 : w.heap.size < w'.heap.size := by omega
  have n2 : w.heap.size + 1 < w'.heap.size := by omega
  have n3 : w.heap.size + 1 + 1 < w'.heap.size := by omega
  go_wp2_with fail
  (with_reducible refine (covers_b _ _ _ _ _ B6.out _).mono ?_)
  rintro e w' ⟨rfl, hg⟩
  have HG1 : G (((w.alloc (pfxb p l)).alloc (pfxb q m)).alloc (pfxb r n)) w' := HG.trans hg
  clear d1 d2 d3 d4 d5 d6 hz HG
  have HG := HG1
  clear HG1
  obtain ⟨d1, d2, d3, d4, d5, d6, hz⟩ := three HG
  have en := older hg ⟨e1, e2, e3⟩
  clear e1 e2 e3
  obtain ⟨e1, e2, e3⟩ := en
  have fn := older hg ⟨f1, f2, f3⟩
  clear f1 f2 f3
  obtain ⟨f1, f2, f3⟩ := fn
  clear hg
  (try clear n1 n2 n3)
  have n1 : w.heap.size < w'.heap.size := by omega
  have n2 : w.heap.size + 1 < w'.heap.size := by omega
  have n3 : w.heap.size + 1 + 1 < w'.heap.size := by omega
  go_wp2_with fail
  (with_reducible refine (clean_again _ _ V1.out _).mono ?_)
  rintro e w' ⟨rfl, hg⟩
  have HG1 : G (((w.alloc (pfxb p l)).alloc (pfxb q m)).alloc (pfxb r n)) w' := HG.trans hg
  clear d1 d2 d3 d4 d5 d6 hz HG
  have HG := HG1
  clear HG1
  obtain ⟨d1, d2, d3, d4, d5, d6, hz⟩ := three HG
  have en := older hg ⟨e1, e2, e3⟩
  clear e1 e2 e3
  obtain ⟨e1, e2, e3⟩ := en
  have fn := older hg ⟨f1, f2, f3⟩
  clear f1 f2 f3
  obtain ⟨f1, f2, f3⟩ := fn
  clear hg
  (try clear n1 n2 n3)
  have n1 : w.heap.size < w'.heap.size := by omega
  have n2 : w.heap.size + 1 < w'.heap.size := by omega
  have n3 : w.heap.size + 1 + 1 < w'.heap.size := by omega
  go_wp2_with fail
  (with_reducible refine (covers_b _ _ _ _ _ A1.out _).mono ?_)
  rintro e w' ⟨rfl, hg⟩
  have HG1 : G (((w.alloc (pfxb p l)).alloc (pfxb q m)).alloc (pfxb r n)) w' := HG.trans (((G.refl _).alloc _ _).trans hg)
  clear d1 d2 d3 d4 d5 d6 hz HG
  have HG := HG1
  clear HG1
  obtain ⟨d1, d2, d3, d4, d5, d6, hz⟩ := three HG
  have en := older (((G.refl _).alloc _ _).trans hg) ⟨e1, e2, e3⟩
  clear e1 e2 e3
  obtain ⟨e1, e2, e3⟩ := en
  have fn := older (((G.refl _).alloc _ _).trans hg) ⟨f1, f2, f3⟩
  clear f1 f2 f3
  obtain ⟨f1, f2, f3⟩ := fn
  obtain ⟨g1, g2, g3⟩ := newer hg
  clear hg
  (try clear n1 n2 n3)
  have n1 : w.heap.size < w'.heap.size := by omega
  have n2 : w.heap.size + 1 < w'.heap.size := by omega
  have n3 : w.heap.size + 1 + 1 < w'.heap.size := by omega
  go_wp2_with fail
  (with_reducible refine (covers_b _ _ _ _ _ A2.out _).mono ?_)
  rintro e w' ⟨rfl, hg⟩
  have HG1 : G (((w.alloc (pfxb p l)).alloc (pfxb q m)).alloc (pfxb r n)) w' := HG.trans hg
  clear d1 d2 d3 d4 d5 d6 hz HG
  have HG := HG1
  clear HG1
  obtain ⟨d1, d2, d3, d4, d5, d6, hz⟩ := three HG
  have en := older hg ⟨e1, e2, e3⟩
  clear e1 e2 e3
  obtain ⟨e1, e2, e3⟩ := en
  have fn := older hg ⟨f1, f2, f3⟩
  clear f1 f2 f3
  obtain ⟨f1, f2, f3⟩ := fn
  have gn := older hg ⟨g1, g2, g3⟩
  clear g1 g2 g3
  obtain ⟨g1, g2, g3⟩ := gn
  clear hg
  (try clear n1 n2 n3)
  have n1 : w.heap.size < w'.heap.size := by omega
  have n2 : w.heap.size + 1 < w'.heap.size := by omega
  have n3 : w.heap.size + 1 + 1 < w'.heap.size := by omega
  go_wp2_with fail
  go_ret
  exact ⟨rfl, ((((((G.refl w).alloc _ _).alloc _ _).alloc _ _).trans HG).grown)⟩

set_option maxHeartbeats 2000000 in
theorem cov_11111010 (p l q m r n x : Int) (w : World)
    (V1 : Hid (vld l = true)) (V2 : Hid (vld m = true)) (P0 : Hid (cv p l p l = true)) (B1 : Hid (cv p l q m = true)) (b5 : Bool) (B5 : Hid (ct p l x = b5)) (E5 : Hid (cv p l x 32 = b5)) (hl0 : 0 ≤ l) (hl1 : l ≤ 32) (B2 : Hid (cv q m r n = true)) (B4 : Hid (ct q m x = true)) (B3 : Hid (cv p l r n = true)) (B5t : Hid (ct p l x = true)) (B6 : Hid (cv q m p l = false)) (c1 : (cl p l == cl q m) = true) (c2 : (l == m) = false) (A1 : Hid (cv (cl p l) l p l = true)) (A2 : Hid (cv p l (cl p l) l = true)) :
    Calls Try.prog 3 #[pfx p l, pfx q m, pfx r n, .int .u32 x] w fun e w' => e = .returned (.bool true) ∧ Grown w w' := by
  go_enter Try.func3, Try.ntmps3
  go_wp2_with (first | (go_at_call 6; refine (lives_any _).mono ?_; rintro e w' ⟨rfl, rfl⟩))
  have hb5 : (b5 != b5) = false := bne_self_eq_false b5
  refine wp_region_held_drew (S := fun W => G (((w.alloc (pfxb p l)).alloc (pfxb q m)).alloc (pfxb r n)) W) (by kernel_rfl) (G.refl _).drew (fun hHeld => ?_)
  refine wpAnyH_take (i := 0) (oi := { dst := some 27, op := Go.Op.load 25 (Go.Operand.tmp 4), type := 25, pos := "law.go:153", after := #[], guard := none }) (v := ?_) rfl (by kernel_rfl) (by kernel_rfl) (by kernel_rfl) (fun _ _ _ h => h) (Or.inl ⟨by rfl, ?_⟩) (by assumption) ?_
  rotate_left
  · intro w hSw
    try dsimp only at hSw
    have hc := hSw.cells
    go_simp
    try with_reducible rfl
  try simp only [Act.put, List.setIfInBounds_toArray, List.set_cons_zero, List.set_cons_succ]
  refine wpAnyH_take (i := 1) (oi := { dst := some 28, op := Go.Op.load 25 (Go.Operand.tmp 4), type := 25, pos := "law.go:153", after := #[], guard := none }) (v := ?_) rfl (by kernel_rfl) (by kernel_rfl) (by kernel_rfl) (fun _ _ _ h => h) (Or.inl ⟨by rfl, ?_⟩) (by assumption) ?_
  rotate_left
  · intro w hSw
    try dsimp only at hSw
    have hc := hSw.cells
    go_simp
    try with_reducible rfl
  try simp only [Act.put, List.setIfInBounds_toArray, List.set_cons_zero, List.set_cons_succ]
  refine wpAnyH_take (i := 3) (oi := { dst := some 30, op := Go.Op.move (Go.Operand.tmp 9), type := 4, pos := "law.go:153", after := #[], guard := none }) (v := ?_) rfl (by kernel_rfl) (by kernel_rfl) (by kernel_rfl) (fun _ _ _ h => h) (Or.inl ⟨by rfl, ?_⟩) (by assumption) ?_
  rotate_left
  · intro w hSw
    try dsimp only at hSw
    have hc := hSw.cells
    go_simp
    try with_reducible rfl
  try simp only [Act.put, List.setIfInBounds_toArray, List.set_cons_zero, List.set_cons_succ]
  refine wpAnyH_ready (rs := [2]) (by kernel_rfl) (by simp) ?_
  refine AllReadyH.cons (o := { dst := some 29, op := Go.Op.call { callee := Go.Callee.value (Go.Operand.func 7), args := #[Go.Operand.tmp 27, Go.Operand.tmp 28], argTypes := #[25, 25] }, type := 4, pos := "law.go:153", after := #[{ on := 0, ground := Go.Ground.data }, { on := 1, ground := Go.Ground.data }], guard := none }) rfl (fun K hK => ?_) AllReadyH.nil
  go_simp
  refine (covers_b _ _ _ _ _ P0.out _).mono ?_
  rintro e w' ⟨rfl, hg⟩
  dsimp only
  refine hK.out _ _ ?_ (fun hHeld => ?_)
  · exact hHeld.trans hg
  clear hK K
  try simp only [Act.put, List.setIfInBounds_toArray, List.set_cons_zero, List.set_cons_succ]
  refine wpAnyH_take (i := 4) (oi := { dst := some 31, op := Go.Op.binOp Go.BinOp.neq 4 (Go.Operand.tmp 29) (Go.Operand.tmp 30) 4, type := 4, pos := "law.go:153", after := #[{ on := 2, ground := Go.Ground.data }, { on := 3, ground := Go.Ground.data }], guard := none }) (v := ?_) rfl (by kernel_rfl) (by kernel_rfl) (by kernel_rfl) (fun _ _ _ h => h) (Or.inl ⟨by rfl, ?_⟩) (by assumption) ?_
  rotate_left
  · intro w hSw
    try dsimp only at hSw
    have hc := hSw.cells
    go_simp
    try with_reducible rfl
  try simp only [Act.put, List.setIfInBounds_toArray, List.set_cons_zero, List.set_cons_succ]
  refine wpAnyH_take (i := 5) (oi := { dst := some 32, op := Go.Op.move (Go.Operand.tmp 31), type := 4, pos := "law.go:153", after := #[{ on := 4, ground := Go.Ground.data }, { on := 2, ground := Go.Ground.chain }], guard := none }) (v := ?_) rfl (by kernel_rfl) (by kernel_rfl) (by kernel_rfl) (fun _ _ _ h => h) (Or.inl ⟨by rfl, ?_⟩) (by assumption) ?_
  rotate_left
  · intro w hSw
    try dsimp only at hSw
    have hc := hSw.cells
    go_simp
    try with_reducible rfl
  try simp only [Act.put, List.setIfInBounds_toArray, List.set_cons_zero, List.set_cons_succ]
  refine wpAnyH_take (i := 6) (oi := { dst := some 33, op := Go.Op.load 25 (Go.Operand.tmp 4), type := 25, pos := "law.go:153", after := #[{ on := 5, ground := Go.Ground.guard }], guard := some (5, false) }) (v := ?_) rfl (by kernel_rfl) (by kernel_rfl) (by kernel_rfl) (fun _ _ _ h => h) (Or.inl ⟨by rfl, ?_⟩) (by assumption) ?_
  rotate_left
  · intro w hSw
    try dsimp only at hSw
    have hc := hSw.cells
    go_simp
    try with_reducible rfl
  try simp only [Act.put, List.setIfInBounds_toArray, List.set_cons_zero, List.set_cons_succ]
  refine wpAnyH_take (i := 7) (oi := { dst := some 34, op := Go.Op.move (Go.Operand.tmp 3), type := 23, pos := "law.go:153", after := #[{ on := 5, ground := Go.Ground.guard }], guard := some (5, false) }) (v := ?_) rfl (by kernel_rfl) (by kernel_rfl) (by kernel_rfl) (fun _ _ _ h => h) (Or.inl ⟨by rfl, ?_⟩) (by assumption) ?_
  rotate_left
  · intro w hSw
    try dsimp only at hSw
    have hc := hSw.cells
    go_simp
    try with_reducible rfl
  try simp only [Act.put, List.setIfInBounds_toArray, List.set_cons_zero, List.set_cons_succ]
  refine wpAnyH_take (i := 9) (oi := { dst := some 36, op := Go.Op.load 25 (Go.Operand.tmp 4), type := 25, pos := "law.go:153", after := #[{ on := 5, ground := Go.Ground.guard }], guard := some (5, false) }) (v := ?_) rfl (by kernel_rfl) (by kernel_rfl) (by kernel_rfl) (fun _ _ _ h => h) (Or.inl ⟨by rfl, ?_⟩) (by assumption) ?_
  rotate_left
  · intro w hSw
    try dsimp only at hSw
    have hc := hSw.cells
    go_simp
    try with_reducible rfl
  try simp only [Act.put, List.setIfInBounds_toArray, List.set_cons_zero, List.set_cons_succ]
  refine wpAnyH_take (i := 10) (oi := { dst := some 37, op := Go.Op.move (Go.Operand.tmp 3), type := 23, pos := "law.go:153", after := #[{ on := 5, ground := Go.Ground.guard }], guard := some (5, false) }) (v := ?_) rfl (by kernel_rfl) (by kernel_rfl) (by kernel_rfl) (fun _ _ _ h => h) (Or.inl ⟨by rfl, ?_⟩) (by assumption) ?_
  rotate_left
  · intro w hSw
    try dsimp only at hSw
    have hc := hSw.cells
    go_simp
    try with_reducible rfl
  try simp only [Act.put, List.setIfInBounds_toArray, List.set_cons_zero, List.set_cons_succ]
  refine wpAnyH_take (i := 11) (oi := { dst := some 38, op := Go.Op.build 25 #[(0, Go.Operand.tmp 37), (1, Go.Operand.const (Go.Value.int Go.IntKind.i64 32))], type := 25, pos := "law.go:153", after := #[{ on := 10, ground := Go.Ground.data }, { on := 5, ground := Go.Ground.guard }], guard := some (5, false) }) (v := ?_) rfl (by kernel_rfl) (by kernel_rfl) (by kernel_rfl) (fun _ _ _ h => h) (Or.inl ⟨by rfl, ?_⟩) (by assumption) ?_
  rotate_left
  · intro w hSw
    try dsimp only at hSw
    have hc := hSw.cells
    go_simp
    try with_reducible rfl
  try simp only [Act.put, List.setIfInBounds_toArray, List.set_cons_zero, List.set_cons_succ]
  refine wpAnyH_ready (rs := [8]) (by kernel_rfl) (by simp) ?_
  refine AllReadyH.cons (o := { dst := some 35, op := Go.Op.call { callee := Go.Callee.value (Go.Operand.func 8), args := #[Go.Operand.tmp 33, Go.Operand.tmp 34], argTypes := #[25, 23] }, type := 4, pos := "law.go:153", after := #[{ on := 6, ground := Go.Ground.data }, { on := 7, ground := Go.Ground.data }, { on := 5, ground := Go.Ground.chain }, { on := 5, ground := Go.Ground.guard }], guard := some (5, false) }) rfl (fun K hK => ?_) AllReadyH.nil
  go_simp
  refine (contains_b _ _ _ _ B5.out _).mono ?_
  rintro e w' ⟨rfl, hg⟩
  dsimp only
  refine hK.out _ _ ?_ (fun hHeld => ?_)
  · exact hHeld.trans hg
  clear hK K
  try simp only [Act.put, List.setIfInBounds_toArray, List.set_cons_zero, List.set_cons_succ]
  refine wpAnyH_ready (rs := [12]) (by kernel_rfl) (by simp) ?_
  refine AllReadyH.cons (o := { dst := some 39, op := Go.Op.call { callee := Go.Callee.value (Go.Operand.func 7), args := #[Go.Operand.tmp 36, Go.Operand.tmp 38], argTypes := #[25, 25] }, type := 4, pos := "law.go:153", after := #[{ on := 9, ground := Go.Ground.data }, { on := 11, ground := Go.Ground.data }, { on := 8, ground := Go.Ground.chain }, { on := 5, ground := Go.Ground.guard }], guard := some (5, false) }) rfl (fun K hK => ?_) AllReadyH.nil
  go_simp
  refine (covers_b _ _ _ _ _ E5.out _).mono ?_
  rintro e w' ⟨rfl, hg⟩
  dsimp only
  refine hK.out _ _ ?_ (fun hHeld => ?_)
  · exact hHeld.trans hg
  clear hK K
  try simp only [Act.put, List.setIfInBounds_toArray, List.set_cons_zero, List.set_cons_succ]
  refine wpAnyH_take (i := 13) (oi := { dst := some 40, op := Go.Op.binOp Go.BinOp.neq 4 (Go.Operand.tmp 35) (Go.Operand.tmp 39) 4, type := 4, pos := "law.go:153", after := #[{ on := 8, ground := Go.Ground.data }, { on := 12, ground := Go.Ground.data }, { on := 5, ground := Go.Ground.guard }], guard := some (5, false) }) (v := ?_) rfl (by kernel_rfl) (by kernel_rfl) (by kernel_rfl) (fun _ _ _ h => h) (Or.inl ⟨by rfl, ?_⟩) (by assumption) ?_
  rotate_left
  · intro w hSw
    try dsimp only at hSw
    have hc := hSw.cells
    go_simp
    try with_reducible rfl
  try simp only [Act.put, List.setIfInBounds_toArray, List.set_cons_zero, List.set_cons_succ]
  refine wpAnyH_take (i := 14) (oi := { dst := some 41, op := Go.Op.pick (Go.Operand.tmp 32) (Go.Operand.const (Go.Value.bool true)) (Go.Operand.tmp 40), type := 4, pos := "law.go:153", after := #[{ on := 5, ground := Go.Ground.data }, { on := 13, ground := Go.Ground.data }], guard := none }) (v := ?_) rfl (by kernel_rfl) (by kernel_rfl) (by kernel_rfl) (fun _ _ _ h => h) (Or.inl ⟨by rfl, ?_⟩) (by assumption) ?_
  rotate_left
  · intro w hSw
    try dsimp only at hSw
    have hc := hSw.cells
    go_simp
    try with_reducible rfl
  try simp only [Act.put, List.setIfInBounds_toArray, List.set_cons_zero, List.set_cons_succ]
  refine wpAnyH_done (by kernel_rfl) ?_ _
  have HG : G (((w.alloc (pfxb p l)).alloc (pfxb q m)).alloc (pfxb r n)) w' := hHeld
  clear P0 B5 E5 hb5 hHeld
  obtain ⟨d1, d2, d3, d4, d5, d6, hz⟩ := three HG
  go_wp2_with fail
  (with_reducible refine (covers_b _ _ _ _ _ B1.out _).mono ?_)
  rintro e w' ⟨rfl, hg⟩
  have HG1 : G (((w.alloc (pfxb p l)).alloc (pfxb q m)).alloc (pfxb r n)) w' := HG.trans hg
  clear d1 d2 d3 d4 d5 d6 hz HG
  have HG := HG1
  clear HG1
  obtain ⟨d1, d2, d3, d4, d5, d6, hz⟩ := three HG
  clear hg
  (try clear n1 n2 n3)
  have n1 : w.heap.size < w'.heap.size := by omega
  have n2 : w.heap.size + 1 < w'.heap.size := by omega
  have n3 : w.heap.size + 1 + 1 < w'.heap.size := by omega
  go_wp2_with fail
  (with_reducible refine (covers_b _ _ _ _ _ B2.out _).mono ?_)
  rintro e w' ⟨rfl, hg⟩
  have HG1 : G (((w.alloc (pfxb p l)).alloc (pfxb q m)).alloc (pfxb r n)) w' := HG.trans hg
  clear d1 d2 d3 d4 d5 d6 hz HG
  have HG := HG1
  clear HG1
  obtain ⟨d1, d2, d3, d4, d5, d6, hz⟩ := three HG
  clear hg
  (try clear n1 n2 n3)
  have n1 : w.heap.size < w'.heap.size := by omega
  have n2 : w.heap.size + 1 < w'.heap.size := by omega
  have n3 : w.heap.size + 1 + 1 < w'.heap.size := by omega
  go_wp2_with fail
  (with_reducible refine (covers_b _ _ _ _ _ B3.out _).mono ?_)
  rintro e w' ⟨rfl, hg⟩
  have HG1 : G (((w.alloc (pfxb p l)).alloc (pfxb q m)).alloc (pfxb r n)) w' := HG.trans hg
  clear d1 d2 d3 d4 d5 d6 hz HG
  have HG := HG1
  clear HG1
  obtain ⟨d1, d2, d3, d4, d5, d6, hz⟩ := three HG
  clear hg
  (try clear n1 n2 n3)
  have n1 : w.heap.size < w'.heap.size := by omega
  have n2 : w.heap.size + 1 < w'.heap.size := by omega
  have n3 : w.heap.size + 1 + 1 < w'.heap.size := by omega
  go_wp2_with fail
  (with_reducible refine (covers_b _ _ _ _ _ B1.out _).mono ?_)
  rintro e w' ⟨rfl, hg⟩
  have HG1 : G (((w.alloc (pfxb p l)).alloc (pfxb q m)).alloc (pfxb r n)) w' := HG.trans hg
  clear d1 d2 d3 d4 d5 d6 hz HG
  have HG := HG1
  clear HG1
  obtain ⟨d1, d2, d3, d4, d5, d6, hz⟩ := three HG
  clear hg
  (try clear n1 n2 n3)
  have n1 : w.heap.size < w'.heap.size := by omega
  have n2 : w.heap.size + 1 < w'.heap.size := by omega
  have n3 : w.heap.size + 1 + 1 < w'.heap.size := by omega
  go_wp2_with fail
  (with_reducible refine (contains_b _ _ _ _ B4.out _).mono ?_)
  rintro e w' ⟨rfl, hg⟩
  have HG1 : G (((w.alloc (pfxb p l)).alloc (pfxb q m)).alloc (pfxb r n)) w' := HG.trans hg
  clear d1 d2 d3 d4 d5 d6 hz HG
  have HG := HG1
  clear HG1
  obtain ⟨d1, d2, d3, d4, d5, d6, hz⟩ := three HG
  clear hg
  (try clear n1 n2 n3)
  have n1 : w.heap.size < w'.heap.size := by omega
  have n2 : w.heap.size + 1 < w'.heap.size := by omega
  have n3 : w.heap.size + 1 + 1 < w'.heap.size := by omega
  go_wp2_with fail
  (with_reducible refine (contains_b _ _ _ _ B5t.out _).mono ?_)
  rintro e w' ⟨rfl, hg⟩
  have HG1 : G (((w.alloc (pfxb p l)).alloc (pfxb q m)).alloc (pfxb r n)) w' := HG.trans hg
  clear d1 d2 d3 d4 d5 d6 hz HG
  have HG := HG1
  clear HG1
  obtain ⟨d1, d2, d3, d4, d5, d6, hz⟩ := three HG
  clear hg
  (try clear n1 n2 n3)
  have n1 : w.heap.size < w'.heap.size := by omega
  have n2 : w.heap.size + 1 < w'.heap.size := by omega
  have n3 : w.heap.size + 1 + 1 < w'.heap.size := by omega
  go_wp2_with fail
  (with_reducible refine (clean_yes _ _ V1.out _).mono ?_)
  rintro e w' ⟨rfl, hg⟩
  have HG1 : G (((w.alloc (pfxb p l)).alloc (pfxb q m)).alloc (pfxb r n)) w' := HG.trans hg
  clear d1 d2 d3 d4 d5 d6 hz HG
  have HG := HG1
  clear HG1
  obtain ⟨d1, d2, d3, d4, d5, d6, hz⟩ := three HG
  clear hg
  (try clear n1 n2 n3)
  have n1 : w.heap.size < w'.heap.size := by omega
  have n2 : w.heap.size + 1 < w'.heap.size := by omega
  have n3 : w.heap.size + 1 + 1 < w'.heap.size := by omega
  go_wp2_with fail
  (with_reducible refine (clean_yes _ _ V2.out _).mono ?_)
  rintro e w' ⟨rfl, hg⟩
  have HG1 : G (((w.alloc (pfxb p l)).alloc (pfxb q m)).alloc (pfxb r n)) w' := HG.trans (((G.refl _).alloc _ _).trans hg)
  clear d1 d2 d3 d4 d5 d6 hz HG
  have HG := HG1
  clear HG1
  obtain ⟨d1, d2, d3, d4, d5, d6, hz⟩ := three HG
  obtain ⟨e1, e2, e3⟩ := newer hg
  clear hg
  (try clear n1 n2 n3)
  have n1 : w.heap.size < w'.heap.size := by omega
  have n2 : w.heap.size + 1 < w'.heap.size := by omega
  have n3 : w.heap.size + 1 + 1 < w'.heap.size := by omega
  go_wp2_with fail
  (with_reducible refine (covers_b _ _ _ _ _ B1.out _).mono ?_)
  rintro e w' ⟨rfl, hg⟩
  have HG1 : G (((w.alloc (pfxb p l)).alloc (pfxb q m)).alloc (pfxb r n)) w' := HG.trans (((G.refl _).alloc _ _).trans hg)
  clear d1 d2 d3 d4 d5 d6 hz HG
  have HG := HG1
  clear HG1
  obtain ⟨d1, d2, d3, d4, d5, d6, hz⟩ := three HG
  have en := older (((G.refl _).alloc _ _).trans hg) ⟨e1, e2, e3⟩
  clear e1 e2 e3
  obtain ⟨e1, e2, e3⟩ := en
  obtain ⟨f1, f2, f3⟩ := newer hg
  clear hg
  (try clear n1 n2 n3)
  have n1 : w.heap.size < w'.heap.size := by omega
  have n2 : w.heap.size + 1 < w'.heap.size := by omega
  have n3 : w.heap.size + 1 + 1 < w'.heap.size := by omega
  go_wp2_with fail
  (with_reducible refine (covers_b _ _ _ _ _ B6.out _).mono ?_)
  rintro e w' ⟨rfl, hg⟩
  have HG1 : G (((w.alloc (pfxb p l)).alloc (pfxb q m)).alloc (pfxb r n)) w' := HG.trans hg
  clear d1 d2 d3 d4 d5 d6 hz HG
  have HG := HG1
  clear HG1
  obtain ⟨d1, d2, d3, d4, d5, d6, hz⟩ := three HG
  have en := older hg ⟨e1, e2, e3⟩
  clear e1 e2 e3
  obtain ⟨e1, e2, e3⟩ := en
  have fn := older hg ⟨f1, f2, f3⟩
  clear f1 f2 f3
  obtain ⟨f1, f2, f3⟩ := fn
  clear hg
  (try clear n1 n2 n3)
  have n1 : w.heap.size < w'.heap.size := by omega
  have n2 : w.heap.size + 1 < w'.heap.size := by omega
  have n3 : w.heap.size + 1 + 1 < w'.heap.size := by omega
  go_wp2_with fail
  (with_reducible refine (clean_again _ _ V1.out _).mono ?_)
  rintro e w' ⟨rfl, hg⟩
  have HG1 : G (((w.alloc (pfxb p l)).alloc (pfxb q m)).alloc (pfxb r n)) w' := HG.trans hg
  clear d1 d2 d3 d4 d5 d6 hz HG
  have HG := HG1
  clear HG1
  obtain ⟨d1, d2, d3, d4, d5, d6, hz⟩ := three HG
  have en := older hg ⟨e1, e2, e3⟩
  clear e1 e2 e3
  obtain ⟨e1, e2, e3⟩ := en
  have fn := older hg ⟨f1, f2, f3⟩
  clear f1 f2 f3
  obtain ⟨f1, f2, f3⟩ := fn
  clear hg
  (try clear n1 n2 n3)
  have n1 : w.heap.size < w'.heap.size := by omega
  have n2 : w.heap.size + 1 < w'.heap.size := by omega
  have n3 : w.heap.size + 1 + 1 < w'.heap.size := by omega
  go_wp2_with fail
  (with_reducible refine (covers_b _ _ _ _ _ A1.out _).mono ?_)
  rintro e w' ⟨rfl, hg⟩
  have HG1 : G (((w.alloc (pfxb p l)).alloc (pfxb q m)).alloc (pfxb r n)) w' := HG.trans (((G.refl _).alloc _ _).trans hg)
  clear d1 d2 d3 d4 d5 d6 hz HG
  have HG := HG1
  clear HG1
  obtain ⟨d1, d2, d3, d4, d5, d6, hz⟩ := three HG
  have en := older (((G.refl _).alloc _ _).trans hg) ⟨e1, e2, e3⟩
  clear e1 e2 e3
  obtain ⟨e1, e2, e3⟩ := en
  have fn := older (((G.refl _).alloc _ _).trans hg) ⟨f1, f2, f3⟩
  clear f1 f2 f3
  obtain ⟨f1, f2, f3⟩ := fn
  obtain ⟨g1, g2, g3⟩ := newer hg
  clear hg
  (try clear n1 n2 n3)
  have n1 : w.heap.size < w'.heap.size := by omega
  have n2 : w.heap.size + 1 < w'.heap.size := by omega
  have n3 : w.heap.size + 1 + 1 < w'.heap.size := by omega
  go_wp2_with fail
  (with_reducible refine (covers_b _ _ _ _ _ A2.out _).mono ?_)
  rintro e w' ⟨rfl, hg⟩
  have HG1 : G (((w.alloc (pfxb p l)).alloc (pfxb q m)).alloc (pfxb r n)) w' := HG.trans hg
  clear d1 d2 d3 d4 d5 d6 hz HG
  have HG := HG1
  clear HG1
  obtain ⟨d1, d2, d3, d4, d5, d6, hz⟩ := three HG
  have en := older hg ⟨e1, e2, e3⟩
  clear e1 e2 e3
  obtain ⟨e1, e2, e3⟩ := en
  have fn := older hg ⟨f1, f2, f3⟩
  clear f1 f2 f3
  obtain ⟨f1, f2, f3⟩ := fn
  have gn := older hg ⟨g1, g2, g3⟩
  clear g1 g2 g3
  obtain ⟨g1, g2, g3⟩ := gn
  clear hg
  (try clear n1 n2 n3)
  have n1 : w.heap.size < w'.heap.size := by omega
  have n2 : w.heap.size + 1 < w'.heap.size := by omega
  have n3 : w.heap.size + 1 + 1 < w'.heap.size := by omega
  go_wp2_with fail
  go_ret
  exact ⟨rfl, ((((((G.refl w).alloc _ _).alloc _ _).alloc _ _).trans HG).grown)⟩

end Go.Proofs.Ytpkdjikcckidgaa
