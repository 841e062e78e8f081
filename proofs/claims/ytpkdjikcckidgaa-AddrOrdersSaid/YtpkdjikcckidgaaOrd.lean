/- The walk of AddrOrders. -/
import Derived.Test.YtpkdjikcckidgaaEsi
import Derived.Test.YtpkdjikcckidgaaCpx
import Derived.Deep.RegionHeld3
import Derived.Deep.DeepCutAuto
namespace Go.Proofs.Ytpkdjikcckidgaa
open Go.RowKit

theorem cm_range (a b : Int) : -1 ≤ cm a b ∧ cm a b ≤ 1 := by unfold cm; split <;> (try split) <;> omega
theorem cm_anti (a b : Int) : cm a b = -cm b a := by unfold cm; split <;> (try split) <;> (try split) <;> omega
theorem cpx_range (p l q m : Int) : -1 ≤ cpx p l q m ∧ cpx p l q m ≤ 1 := by
  have h1 := cm_range p q
  have h2 := cm_range l m
  unfold cpx or2; split <;> assumption
theorem cpx_anti (p l q m : Int) : cpx p l q m = -cpx q m p l := by
  unfold cpx or2
  have h1 := cm_anti p q
  have h2 := cm_anti l m
  split <;> split <;> omega
theorem cpx_zero (p l q m : Int) : cpx p l q m = 0 ↔ p = q ∧ l = m := by
  unfold cpx or2
  have h1 := cm_zero (a := p) (b := q)
  have h2 := cm_zero (a := l) (b := m)
  split <;> omega
theorem cm_le {a b : Int} : cm a b ≤ 0 ↔ a ≤ b := by unfold cm; split <;> (try split) <;> omega
theorem cpx_le {p l q m : Int} : cpx p l q m ≤ 0 ↔ p < q ∨ (p = q ∧ l ≤ m) := by
  unfold cpx or2
  have h1 := cm_zero (a := p) (b := q)
  have h2 := cm_le (a := p) (b := q)
  have h3 := cm_le (a := l) (b := m)
  split <;> omega
theorem cpx_trans {p l q m r n : Int} (h1 : cpx p l q m ≤ 0) (h2 : cpx q m r n ≤ 0) : cpx p l r n ≤ 0 := by
  rw [cpx_le] at *; omega
theorem ce_range : ∀ xs ys : List Int, -1 ≤ ce xs ys ∧ ce xs ys ≤ 1
  | [], _ => by simp [ce]
  | _ :: _, [] => by simp [ce]
  | x :: xs, y :: ys => by rw [ce]; have := ce_range xs ys; have := cm_range x y; split <;> assumption
theorem ce_anti : ∀ xs ys : List Int, ce xs ys = -ce ys xs
  | [], [] => by simp [ce]
  | [], _ :: _ => by simp [ce]
  | _ :: _, [] => by simp [ce]
  | x :: xs, y :: ys => by
    rw [ce, ce]; have h := ce_anti xs ys; have h2 := cm_anti x y
    split <;> split <;> omega
theorem ce_zero : ∀ xs ys : List Int, xs.length = ys.length → (ce xs ys = 0 ↔ xs = ys)
  | [], [], _ => by simp [ce]
  | [], _ :: _, h => by simp at h
  | _ :: _, [], h => by simp at h
  | x :: xs, y :: ys, h => by
    rw [ce]; have ih := ce_zero xs ys (by simpa using h); have h2 := cm_zero (a := x) (b := y)
    split
    · rename_i h3; rw [ih]; simp [h2.1 h3]
    · rename_i h3
      constructor
      · intro h4; exact absurd h4 h3
      · intro h4; simp at h4; exact absurd (h2.2 h4.1) h3
theorem ce_trans : ∀ xs ys zs : List Int, xs.length = ys.length → ys.length = zs.length → ce xs ys ≤ 0 → ce ys zs ≤ 0 → ce xs zs ≤ 0
  | [], _, _, _, _, _, _ => by simp [ce]
  | _ :: _, [], _, h, _, _, _ => by simp at h
  | _ :: _, _ :: _, [], _, h, _, _ => by simp at h
  | x :: xs, y :: ys, z :: zs, h1, h2, h3, h4 => by
    rw [ce] at *
    have ih := ce_trans xs ys zs (by simpa using h1) (by simpa using h2)
    have e1 := cm_zero (a := x) (b := y); have e2 := cm_zero (a := y) (b := z); have e3 := cm_zero (a := x) (b := z)
    have l1 := cm_le (a := x) (b := y); have l2 := cm_le (a := y) (b := z); have l3 := cm_le (a := x) (b := z)
    split at h3 <;> split at h4 <;> split <;> omega

theorem cpx_v (p l q m v : Int) (h : cpx p l q m = v) (w : World) :
    Calls Try.prog 10 #[pfx p l, pfx q m] w fun e w' => e = .returned (.int .i64 v) ∧ G w w' := by
  subst h; exact cpx_b p l q m w

theorem boxes {w W : World} {p l q m r n a0 a1 a2 a3 a4 a5 a6 a7 a8 a9 b0 b1 b2 b3 b4 b5 b6 b7 b8 b9 c0 c1 c2 c3 c4 c5 c6 c7 c8 c9 : Int} (h : Below ((((((w.alloc (pfxb p l)).alloc (pfxb q m)).alloc (pfxb r n)).alloc (esib a0 a1 a2 a3 a4 a5 a6 a7 a8 a9)).alloc (esib b0 b1 b2 b3 b4 b5 b6 b7 b8 b9)).alloc (esib c0 c1 c2 c3 c4 c5 c6 c7 c8 c9)).heap.size ((((((w.alloc (pfxb p l)).alloc (pfxb q m)).alloc (pfxb r n)).alloc (esib a0 a1 a2 a3 a4 a5 a6 a7 a8 a9)).alloc (esib b0 b1 b2 b3 b4 b5 b6 b7 b8 b9)).alloc (esib c0 c1 c2 c3 c4 c5 c6 c7 c8 c9)) W) :
    W.cell? ⟨w.heap.size, 0, none⟩ = some (.int .u32 p) ∧
    W.cell? ⟨w.heap.size, 1, none⟩ = some (.int .i64 l) ∧
    W.cell? ⟨w.heap.size + 1, 0, none⟩ = some (.int .u32 q) ∧
    W.cell? ⟨w.heap.size + 1, 1, none⟩ = some (.int .i64 m) ∧
    W.cell? ⟨w.heap.size + 1 + 1, 0, none⟩ = some (.int .u32 r) ∧
    W.cell? ⟨w.heap.size + 1 + 1, 1, none⟩ = some (.int .i64 n) ∧
    W.cell? ⟨w.heap.size + 1 + 1 + 1, 0, none⟩ = some (.int .u8 a0) ∧
    W.cell? ⟨w.heap.size + 1 + 1 + 1, 1, none⟩ = some (.int .u8 a1) ∧
    W.cell? ⟨w.heap.size + 1 + 1 + 1, 2, none⟩ = some (.int .u8 a2) ∧
    W.cell? ⟨w.heap.size + 1 + 1 + 1, 3, none⟩ = some (.int .u8 a3) ∧
    W.cell? ⟨w.heap.size + 1 + 1 + 1, 4, none⟩ = some (.int .u8 a4) ∧
    W.cell? ⟨w.heap.size + 1 + 1 + 1, 5, none⟩ = some (.int .u8 a5) ∧
    W.cell? ⟨w.heap.size + 1 + 1 + 1, 6, none⟩ = some (.int .u8 a6) ∧
    W.cell? ⟨w.heap.size + 1 + 1 + 1, 7, none⟩ = some (.int .u8 a7) ∧
    W.cell? ⟨w.heap.size + 1 + 1 + 1, 8, none⟩ = some (.int .u8 a8) ∧
    W.cell? ⟨w.heap.size + 1 + 1 + 1, 9, none⟩ = some (.int .u8 a9) ∧
    W.cell? ⟨w.heap.size + 1 + 1 + 1 + 1, 0, none⟩ = some (.int .u8 b0) ∧
    W.cell? ⟨w.heap.size + 1 + 1 + 1 + 1, 1, none⟩ = some (.int .u8 b1) ∧
    W.cell? ⟨w.heap.size + 1 + 1 + 1 + 1, 2, none⟩ = some (.int .u8 b2) ∧
    W.cell? ⟨w.heap.size + 1 + 1 + 1 + 1, 3, none⟩ = some (.int .u8 b3) ∧
    W.cell? ⟨w.heap.size + 1 + 1 + 1 + 1, 4, none⟩ = some (.int .u8 b4) ∧
    W.cell? ⟨w.heap.size + 1 + 1 + 1 + 1, 5, none⟩ = some (.int .u8 b5) ∧
    W.cell? ⟨w.heap.size + 1 + 1 + 1 + 1, 6, none⟩ = some (.int .u8 b6) ∧
    W.cell? ⟨w.heap.size + 1 + 1 + 1 + 1, 7, none⟩ = some (.int .u8 b7) ∧
    W.cell? ⟨w.heap.size + 1 + 1 + 1 + 1, 8, none⟩ = some (.int .u8 b8) ∧
    W.cell? ⟨w.heap.size + 1 + 1 + 1 + 1, 9, none⟩ = some (.int .u8 b9) ∧
    W.cell? ⟨w.heap.size + 1 + 1 + 1 + 1 + 1, 0, none⟩ = some (.int .u8 c0) ∧
    W.cell? ⟨w.heap.size + 1 + 1 + 1 + 1 + 1, 1, none⟩ = some (.int .u8 c1) ∧
    W.cell? ⟨w.heap.size + 1 + 1 + 1 + 1 + 1, 2, none⟩ = some (.int .u8 c2) ∧
    W.cell? ⟨w.heap.size + 1 + 1 + 1 + 1 + 1, 3, none⟩ = some (.int .u8 c3) ∧
    W.cell? ⟨w.heap.size + 1 + 1 + 1 + 1 + 1, 4, none⟩ = some (.int .u8 c4) ∧
    W.cell? ⟨w.heap.size + 1 + 1 + 1 + 1 + 1, 5, none⟩ = some (.int .u8 c5) ∧
    W.cell? ⟨w.heap.size + 1 + 1 + 1 + 1 + 1, 6, none⟩ = some (.int .u8 c6) ∧
    W.cell? ⟨w.heap.size + 1 + 1 + 1 + 1 + 1, 7, none⟩ = some (.int .u8 c7) ∧
    W.cell? ⟨w.heap.size + 1 + 1 + 1 + 1 + 1, 8, none⟩ = some (.int .u8 c8) ∧
    W.cell? ⟨w.heap.size + 1 + 1 + 1 + 1 + 1, 9, none⟩ = some (.int .u8 c9) ∧ w.heap.size + 1 + 1 + 1 + 1 + 1 + 1 ≤ W.heap.size := by
  have hs := h.size
  simp at hs
  refine ⟨?_, ?_, ?_, ?_, ?_, ?_, ?_, ?_, ?_, ?_, ?_, ?_, ?_, ?_, ?_, ?_, ?_, ?_, ?_, ?_, ?_, ?_, ?_, ?_, ?_, ?_, ?_, ?_, ?_, ?_, ?_, ?_, ?_, ?_, ?_, ?_, hs⟩ <;> (rw [h.cell (by first | (simp; done) | (simp; omega))]; simp [go_sem])

theorem cesi_v (a0 a1 a2 a3 a4 a5 a6 a7 a8 a9 d0 d1 d2 d3 d4 d5 d6 d7 d8 d9 v : Int) (h : ce [a0, a1, a2, a3, a4, a5, a6, a7, a8, a9] [d0, d1, d2, d3, d4, d5, d6, d7, d8, d9] = v) (w : World) :
    Calls Try.prog 11 #[esi a0 a1 a2 a3 a4 a5 a6 a7 a8 a9, esi d0 d1 d2 d3 d4 d5 d6 d7 d8 d9] w fun en w' => en = .returned (.int .i64 v) ∧ Below w.heap.size w w' := by
  subst h; exact cesi_b a0 a1 a2 a3 a4 a5 a6 a7 a8 a9 d0 d1 d2 d3 d4 d5 d6 d7 d8 d9 w

set_option maxRecDepth 100000 in
set_option maxHeartbeats 4000000 in
theorem orders_all (p l q m r n a0 a1 a2 a3 a4 a5 a6 a7 a8 a9 b0 b1 b2 b3 b4 b5 b6 b7 b8 b9 c0 c1 c2 c3 c4 c5 c6 c7 c8 c9 : Int) (w : World) :
    Calls Try.prog 4 #[pfx p l, pfx q m, pfx r n, esi a0 a1 a2 a3 a4 a5 a6 a7 a8 a9, esi b0 b1 b2 b3 b4 b5 b6 b7 b8 b9, esi c0 c1 c2 c3 c4 c5 c6 c7 c8 c9] w fun e w' => e = .returned (.bool true) ∧ Below w.heap.size w w' := by
  go_enter Try.func4, Try.ntmps4
  go_wp2_with (go_at_call 6; refine (lives_any _).mono ?_; rintro e w' ⟨rfl, rfl⟩)
  refine wp_region_held_drew (S := fun W => Below ((((((w.alloc (pfxb p l)).alloc (pfxb q m)).alloc (pfxb r n)).alloc (esib a0 a1 a2 a3 a4 a5 a6 a7 a8 a9)).alloc (esib b0 b1 b2 b3 b4 b5 b6 b7 b8 b9)).alloc (esib c0 c1 c2 c3 c4 c5 c6 c7 c8 c9)).heap.size ((((((w.alloc (pfxb p l)).alloc (pfxb q m)).alloc (pfxb r n)).alloc (esib a0 a1 a2 a3 a4 a5 a6 a7 a8 a9)).alloc (esib b0 b1 b2 b3 b4 b5 b6 b7 b8 b9)).alloc (esib c0 c1 c2 c3 c4 c5 c6 c7 c8 c9)) W) (by kernel_rfl) ((Below.refl _ _).drew) (fun hHeld => ?_)
  refine wpAnyH_take (i := 0) (oi := { dst := some 19, op := Go.Op.load 25 (Go.Operand.tmp 6), type := 25, pos := "law.go:175", after := #[], guard := none }) (v := ?_) rfl (by kernel_rfl) (by kernel_rfl) (by kernel_rfl) (fun _ _ _ h => h) (Or.inl ⟨by rfl, ?_⟩) (by assumption) ?_
  rotate_left
  · intro w hSw
    try dsimp only at hSw
    obtain ⟨k0, k1, k2, k3, k4, k5, k6, k7, k8, k9, k10, k11, k12, k13, k14, k15, k16, k17, k18, k19, k20, k21, k22, k23, k24, k25, k26, k27, k28, k29, k30, k31, k32, k33, k34, k35, hz⟩ := boxes hSw
    go_simp
    try with_reducible rfl
  try simp only [Act.put, List.setIfInBounds_toArray, List.set_cons_zero, List.set_cons_succ]
  refine wpAnyH_take (i := 1) (oi := { dst := some 20, op := Go.Op.load 25 (Go.Operand.tmp 7), type := 25, pos := "law.go:175", after := #[], guard := none }) (v := ?_) rfl (by kernel_rfl) (by kernel_rfl) (by kernel_rfl) (fun _ _ _ h => h) (Or.inl ⟨by rfl, ?_⟩) (by assumption) ?_
  rotate_left
  · intro w hSw
    try dsimp only at hSw
    obtain ⟨k0, k1, k2, k3, k4, k5, k6, k7, k8, k9, k10, k11, k12, k13, k14, k15, k16, k17, k18, k19, k20, k21, k22, k23, k24, k25, k26, k27, k28, k29, k30, k31, k32, k33, k34, k35, hz⟩ := boxes hSw
    go_simp
    try with_reducible rfl
  try simp only [Act.put, List.setIfInBounds_toArray, List.set_cons_zero, List.set_cons_succ]
  refine wpAnyH_take (i := 3) (oi := { dst := some 22, op := Go.Op.load 25 (Go.Operand.tmp 7), type := 25, pos := "law.go:175", after := #[], guard := none }) (v := ?_) rfl (by kernel_rfl) (by kernel_rfl) (by kernel_rfl) (fun _ _ _ h => h) (Or.inl ⟨by rfl, ?_⟩) (by assumption) ?_
  rotate_left
  · intro w hSw
    try dsimp only at hSw
    obtain ⟨k0, k1, k2, k3, k4, k5, k6, k7, k8, k9, k10, k11, k12, k13, k14, k15, k16, k17, k18, k19, k20, k21, k22, k23, k24, k25, k26, k27, k28, k29, k30, k31, k32, k33, k34, k35, hz⟩ := boxes hSw
    go_simp
    try with_reducible rfl
  try simp only [Act.put, List.setIfInBounds_toArray, List.set_cons_zero, List.set_cons_succ]
  refine wpAnyH_take (i := 4) (oi := { dst := some 23, op := Go.Op.load 25 (Go.Operand.tmp 8), type := 25, pos := "law.go:175", after := #[], guard := none }) (v := ?_) rfl (by kernel_rfl) (by kernel_rfl) (by kernel_rfl) (fun _ _ _ h => h) (Or.inl ⟨by rfl, ?_⟩) (by assumption) ?_
  rotate_left
  · intro w hSw
    try dsimp only at hSw
    obtain ⟨k0, k1, k2, k3, k4, k5, k6, k7, k8, k9, k10, k11, k12, k13, k14, k15, k16, k17, k18, k19, k20, k21, k22, k23, k24, k25, k26, k27, k28, k29, k30, k31, k32, k33, k34, k35, hz⟩ := boxes hSw
    go_simp
    try with_reducible rfl
  try simp only [Act.put, List.setIfInBounds_toArray, List.set_cons_zero, List.set_cons_succ]
  refine wpAnyH_ready (rs := [2]) (by kernel_rfl) (by simp) ?_
  refine AllReadyH.cons (o := { dst := some 21, op := Go.Op.call { callee := Go.Callee.value (Go.Operand.func 10), args := #[Go.Operand.tmp 19, Go.Operand.tmp 20], argTypes := #[25, 25] }, type := 3, pos := "law.go:175", after := #[{ on := 0, ground := Go.Ground.data }, { on := 1, ground := Go.Ground.data }], guard := none }) rfl (fun K hK => ?_) AllReadyH.nil
  go_simp
  refine (cpx_b _ _ _ _ _).mono ?_
  rintro e w' ⟨rfl, hg⟩
  dsimp only
  refine hK.out _ _ ?_ (fun hHeld => ?_)
  · exact hHeld.trans (hg.below.mono hHeld.size)
  clear hK K
  try simp only [Act.put, List.setIfInBounds_toArray, List.set_cons_zero, List.set_cons_succ]
  refine wpAnyH_ready (rs := [5]) (by kernel_rfl) (by simp) ?_
  refine AllReadyH.cons (o := { dst := some 24, op := Go.Op.call { callee := Go.Callee.value (Go.Operand.func 10), args := #[Go.Operand.tmp 22, Go.Operand.tmp 23], argTypes := #[25, 25] }, type := 3, pos := "law.go:175", after := #[{ on := 3, ground := Go.Ground.data }, { on := 4, ground := Go.Ground.data }, { on := 2, ground := Go.Ground.chain }], guard := none }) rfl (fun K hK => ?_) AllReadyH.nil
  go_simp
  refine (cpx_b _ _ _ _ _).mono ?_
  rintro e w' ⟨rfl, hg⟩
  dsimp only
  refine hK.out _ _ ?_ (fun hHeld => ?_)
  · exact hHeld.trans (hg.below.mono hHeld.size)
  clear hK K
  try simp only [Act.put, List.setIfInBounds_toArray, List.set_cons_zero, List.set_cons_succ]
  refine wpAnyH_take (i := 6) (oi := { dst := some 13, op := Go.Op.assign (Go.Operand.tmp 21), type := 3, pos := "law.go:175", after := #[{ on := 2, ground := Go.Ground.data }, { on := 5, ground := Go.Ground.chain }, { on := 0, ground := Go.Ground.phase }, { on := 1, ground := Go.Ground.phase }, { on := 2, ground := Go.Ground.phase }, { on := 3, ground := Go.Ground.textOnly Go.Departure.lateStores }, { on := 4, ground := Go.Ground.textOnly Go.Departure.lateStores }, { on := 5, ground := Go.Ground.textOnly Go.Departure.lateStoresUnsure }], guard := none }) (v := ?_) rfl (by kernel_rfl) (by kernel_rfl) (by kernel_rfl) (fun _ _ _ h => h) (Or.inl ⟨by rfl, ?_⟩) (by assumption) ?_
  rotate_left
  · intro w hSw
    try dsimp only at hSw
    obtain ⟨k0, k1, k2, k3, k4, k5, k6, k7, k8, k9, k10, k11, k12, k13, k14, k15, k16, k17, k18, k19, k20, k21, k22, k23, k24, k25, k26, k27, k28, k29, k30, k31, k32, k33, k34, k35, hz⟩ := boxes hSw
    go_simp
    try with_reducible rfl
  try simp only [Act.put, List.setIfInBounds_toArray, List.set_cons_zero, List.set_cons_succ]
  refine wpAnyH_take (i := 7) (oi := { dst := some 14, op := Go.Op.assign (Go.Operand.tmp 24), type := 3, pos := "law.go:175", after := #[{ on := 5, ground := Go.Ground.data }, { on := 6, ground := Go.Ground.chain }, { on := 0, ground := Go.Ground.phase }, { on := 1, ground := Go.Ground.phase }, { on := 2, ground := Go.Ground.phase }, { on := 3, ground := Go.Ground.phase }, { on := 4, ground := Go.Ground.phase }, { on := 5, ground := Go.Ground.phase }, { on := 6, ground := Go.Ground.phase }], guard := none }) (v := ?_) rfl (by kernel_rfl) (by kernel_rfl) (by kernel_rfl) (fun _ _ _ h => h) (Or.inl ⟨by rfl, ?_⟩) (by assumption) ?_
  rotate_left
  · intro w hSw
    try dsimp only at hSw
    obtain ⟨k0, k1, k2, k3, k4, k5, k6, k7, k8, k9, k10, k11, k12, k13, k14, k15, k16, k17, k18, k19, k20, k21, k22, k23, k24, k25, k26, k27, k28, k29, k30, k31, k32, k33, k34, k35, hz⟩ := boxes hSw
    go_simp
    try with_reducible rfl
  try simp only [Act.put, List.setIfInBounds_toArray, List.set_cons_zero, List.set_cons_succ]
  refine wpAnyH_done (by kernel_rfl) ?_ _
  have HB0 := hHeld
  go_wp2_with fail
  refine wp_region_held_drew (S := fun W => Below ((((((w.alloc (pfxb p l)).alloc (pfxb q m)).alloc (pfxb r n)).alloc (esib a0 a1 a2 a3 a4 a5 a6 a7 a8 a9)).alloc (esib b0 b1 b2 b3 b4 b5 b6 b7 b8 b9)).alloc (esib c0 c1 c2 c3 c4 c5 c6 c7 c8 c9)).heap.size ((((((w.alloc (pfxb p l)).alloc (pfxb q m)).alloc (pfxb r n)).alloc (esib a0 a1 a2 a3 a4 a5 a6 a7 a8 a9)).alloc (esib b0 b1 b2 b3 b4 b5 b6 b7 b8 b9)).alloc (esib c0 c1 c2 c3 c4 c5 c6 c7 c8 c9)) W) (by kernel_rfl) (HB0.drew) (fun hHeld => ?_)
  refine wpAnyH_take (i := 0) (oi := { dst := some 25, op := Go.Op.load 34 (Go.Operand.tmp 9), type := 34, pos := "law.go:176", after := #[], guard := none }) (v := ?_) rfl (by kernel_rfl) (by kernel_rfl) (by kernel_rfl) (fun _ _ _ h => h) (Or.inl ⟨by rfl, ?_⟩) (by assumption) ?_
  rotate_left
  · intro w hSw
    try dsimp only at hSw
    obtain ⟨k0, k1, k2, k3, k4, k5, k6, k7, k8, k9, k10, k11, k12, k13, k14, k15, k16, k17, k18, k19, k20, k21, k22, k23, k24, k25, k26, k27, k28, k29, k30, k31, k32, k33, k34, k35, hz⟩ := boxes hSw
    go_simp
    try with_reducible rfl
  try simp only [Act.put, List.setIfInBounds_toArray, List.set_cons_zero, List.set_cons_succ]
  refine wpAnyH_take (i := 1) (oi := { dst := some 26, op := Go.Op.load 34 (Go.Operand.tmp 10), type := 34, pos := "law.go:176", after := #[], guard := none }) (v := ?_) rfl (by kernel_rfl) (by kernel_rfl) (by kernel_rfl) (fun _ _ _ h => h) (Or.inl ⟨by rfl, ?_⟩) (by assumption) ?_
  rotate_left
  · intro w hSw
    try dsimp only at hSw
    obtain ⟨k0, k1, k2, k3, k4, k5, k6, k7, k8, k9, k10, k11, k12, k13, k14, k15, k16, k17, k18, k19, k20, k21, k22, k23, k24, k25, k26, k27, k28, k29, k30, k31, k32, k33, k34, k35, hz⟩ := boxes hSw
    go_simp
    try with_reducible rfl
  try simp only [Act.put, List.setIfInBounds_toArray, List.set_cons_zero, List.set_cons_succ]
  refine wpAnyH_take (i := 3) (oi := { dst := some 28, op := Go.Op.load 34 (Go.Operand.tmp 10), type := 34, pos := "law.go:176", after := #[], guard := none }) (v := ?_) rfl (by kernel_rfl) (by kernel_rfl) (by kernel_rfl) (fun _ _ _ h => h) (Or.inl ⟨by rfl, ?_⟩) (by assumption) ?_
  rotate_left
  · intro w hSw
    try dsimp only at hSw
    obtain ⟨k0, k1, k2, k3, k4, k5, k6, k7, k8, k9, k10, k11, k12, k13, k14, k15, k16, k17, k18, k19, k20, k21, k22, k23, k24, k25, k26, k27, k28, k29, k30, k31, k32, k33, k34, k35, hz⟩ := boxes hSw
    go_simp
    try with_reducible rfl
  try simp only [Act.put, List.setIfInBounds_toArray, List.set_cons_zero, List.set_cons_succ]
  refine wpAnyH_take (i := 4) (oi := { dst := some 29, op := Go.Op.load 34 (Go.Operand.tmp 11), type := 34, pos := "law.go:176", after := #[], guard := none }) (v := ?_) rfl (by kernel_rfl) (by kernel_rfl) (by kernel_rfl) (fun _ _ _ h => h) (Or.inl ⟨by rfl, ?_⟩) (by assumption) ?_
  rotate_left
  · intro w hSw
    try dsimp only at hSw
    obtain ⟨k0, k1, k2, k3, k4, k5, k6, k7, k8, k9, k10, k11, k12, k13, k14, k15, k16, k17, k18, k19, k20, k21, k22, k23, k24, k25, k26, k27, k28, k29, k30, k31, k32, k33, k34, k35, hz⟩ := boxes hSw
    go_simp
    try with_reducible rfl
  try simp only [Act.put, List.setIfInBounds_toArray, List.set_cons_zero, List.set_cons_succ]
  refine wpAnyH_ready (rs := [2]) (by kernel_rfl) (by simp) ?_
  refine AllReadyH.cons (o := { dst := some 27, op := Go.Op.call { callee := Go.Callee.value (Go.Operand.func 11), args := #[Go.Operand.tmp 25, Go.Operand.tmp 26], argTypes := #[34, 34] }, type := 3, pos := "law.go:176", after := #[{ on := 0, ground := Go.Ground.data }, { on := 1, ground := Go.Ground.data }], guard := none }) rfl (fun K hK => ?_) AllReadyH.nil
  go_simp
  refine (cesi_b _ _ _ _ _ _ _ _ _ _ _ _ _ _ _ _ _ _ _ _ _).mono ?_
  rintro e w' ⟨rfl, hg⟩
  dsimp only
  refine hK.out _ _ ?_ (fun hHeld => ?_)
  · exact hHeld.trans (hg.mono hHeld.size)
  clear hK K
  try simp only [Act.put, List.setIfInBounds_toArray, List.set_cons_zero, List.set_cons_succ]
  refine wpAnyH_ready (rs := [5]) (by kernel_rfl) (by simp) ?_
  refine AllReadyH.cons (o := { dst := some 30, op := Go.Op.call { callee := Go.Callee.value (Go.Operand.func 11), args := #[Go.Operand.tmp 28, Go.Operand.tmp 29], argTypes := #[34, 34] }, type := 3, pos := "law.go:176", after := #[{ on := 3, ground := Go.Ground.data }, { on := 4, ground := Go.Ground.data }, { on := 2, ground := Go.Ground.chain }], guard := none }) rfl (fun K hK => ?_) AllReadyH.nil
  go_simp
  refine (cesi_b _ _ _ _ _ _ _ _ _ _ _ _ _ _ _ _ _ _ _ _ _).mono ?_
  rintro e w' ⟨rfl, hg⟩
  dsimp only
  refine hK.out _ _ ?_ (fun hHeld => ?_)
  · exact hHeld.trans (hg.mono hHeld.size)
  clear hK K
  try simp only [Act.put, List.setIfInBounds_toArray, List.set_cons_zero, List.set_cons_succ]
  refine wpAnyH_take (i := 6) (oi := { dst := some 15, op := Go.Op.assign (Go.Operand.tmp 27), type := 3, pos := "law.go:176", after := #[{ on := 2, ground := Go.Ground.data }, { on := 5, ground := Go.Ground.chain }, { on := 0, ground := Go.Ground.phase }, { on := 1, ground := Go.Ground.phase }, { on := 2, ground := Go.Ground.phase }, { on := 3, ground := Go.Ground.textOnly Go.Departure.lateStores }, { on := 4, ground := Go.Ground.textOnly Go.Departure.lateStores }, { on := 5, ground := Go.Ground.textOnly Go.Departure.lateStoresUnsure }], guard := none }) (v := ?_) rfl (by kernel_rfl) (by kernel_rfl) (by kernel_rfl) (fun _ _ _ h => h) (Or.inl ⟨by rfl, ?_⟩) (by assumption) ?_
  rotate_left
  · intro w hSw
    try dsimp only at hSw
    obtain ⟨k0, k1, k2, k3, k4, k5, k6, k7, k8, k9, k10, k11, k12, k13, k14, k15, k16, k17, k18, k19, k20, k21, k22, k23, k24, k25, k26, k27, k28, k29, k30, k31, k32, k33, k34, k35, hz⟩ := boxes hSw
    go_simp
    try with_reducible rfl
  try simp only [Act.put, List.setIfInBounds_toArray, List.set_cons_zero, List.set_cons_succ]
  refine wpAnyH_take (i := 7) (oi := { dst := some 16, op := Go.Op.assign (Go.Operand.tmp 30), type := 3, pos := "law.go:176", after := #[{ on := 5, ground := Go.Ground.data }, { on := 6, ground := Go.Ground.chain }, { on := 0, ground := Go.Ground.phase }, { on := 1, ground := Go.Ground.phase }, { on := 2, ground := Go.Ground.phase }, { on := 3, ground := Go.Ground.phase }, { on := 4, ground := Go.Ground.phase }, { on := 5, ground := Go.Ground.phase }, { on := 6, ground := Go.Ground.phase }], guard := none }) (v := ?_) rfl (by kernel_rfl) (by kernel_rfl) (by kernel_rfl) (fun _ _ _ h => h) (Or.inl ⟨by rfl, ?_⟩) (by assumption) ?_
  rotate_left
  · intro w hSw
    try dsimp only at hSw
    obtain ⟨k0, k1, k2, k3, k4, k5, k6, k7, k8, k9, k10, k11, k12, k13, k14, k15, k16, k17, k18, k19, k20, k21, k22, k23, k24, k25, k26, k27, k28, k29, k30, k31, k32, k33, k34, k35, hz⟩ := boxes hSw
    go_simp
    try with_reducible rfl
  try simp only [Act.put, List.setIfInBounds_toArray, List.set_cons_zero, List.set_cons_succ]
  refine wpAnyH_done (by kernel_rfl) ?_ _
  have HB : Below ((((((w.alloc (pfxb p l)).alloc (pfxb q m)).alloc (pfxb r n)).alloc (esib a0 a1 a2 a3 a4 a5 a6 a7 a8 a9)).alloc (esib b0 b1 b2 b3 b4 b5 b6 b7 b8 b9)).alloc (esib c0 c1 c2 c3 c4 c5 c6 c7 c8 c9)).heap.size ((((((w.alloc (pfxb p l)).alloc (pfxb q m)).alloc (pfxb r n)).alloc (esib a0 a1 a2 a3 a4 a5 a6 a7 a8 a9)).alloc (esib b0 b1 b2 b3 b4 b5 b6 b7 b8 b9)).alloc (esib c0 c1 c2 c3 c4 c5 c6 c7 c8 c9)) w' := hHeld
  obtain ⟨k0, k1, k2, k3, k4, k5, k6, k7, k8, k9, k10, k11, k12, k13, k14, k15, k16, k17, k18, k19, k20, k21, k22, k23, k24, k25, k26, k27, k28, k29, k30, k31, k32, k33, k34, k35, hz⟩ := boxes HB
  generalize hXe : cpx p l q m = X
  generalize hYe : cpx q m r n = Y
  generalize hUe : ce [a0, a1, a2, a3, a4, a5, a6, a7, a8, a9] [b0, b1, b2, b3, b4, b5, b6, b7, b8, b9] = U
  generalize hVe : ce [b0, b1, b2, b3, b4, b5, b6, b7, b8, b9] [c0, c1, c2, c3, c4, c5, c6, c7, c8, c9] = V
  have HX := Lib.hid hXe
  have HY := Lib.hid hYe
  have HU := Lib.hid hUe
  have HV := Lib.hid hVe
  clear hXe hYe hUe hVe HB0
  go_upto_region 5 with (fail)
  go_cut [66] (fun s66 wc => s66 = .bool false ∧ Below ((((((w.alloc (pfxb p l)).alloc (pfxb q m)).alloc (pfxb r n)).alloc (esib a0 a1 a2 a3 a4 a5 a6 a7 a8 a9)).alloc (esib b0 b1 b2 b3 b4 b5 b6 b7 b8 b9)).alloc (esib c0 c1 c2 c3 c4 c5 c6 c7 c8 c9)).heap.size ((((((w.alloc (pfxb p l)).alloc (pfxb q m)).alloc (pfxb r n)).alloc (esib a0 a1 a2 a3 a4 a5 a6 a7 a8 a9)).alloc (esib b0 b1 b2 b3 b4 b5 b6 b7 b8 b9)).alloc (esib c0 c1 c2 c3 c4 c5 c6 c7 c8 c9)) wc)
  case first =>
    clear HU HV k6 k7 k8 k9 k10 k11 k12 k13 k14 k15 k16 k17 k18 k19 k20 k21 k22 k23 k24 k25 k26 k27 k28 k29 k30 k31 k32 k33 k34 k35
    have hr := cpx_range p l q m
    rw [HX.out] at hr
    have hX3 : X = -1 ∨ X = 0 ∨ X = 1 := by omega
    clear hr
    rcases hX3 with rfl | rfl | rfl
    · have HQ : Hid (cpx q m p l = 1) := Lib.hid (by have h := cpx_anti q m p l; rw [HX.out] at h; exact h)
      have HNE : Hid (¬ (p = q ∧ l = m)) := Lib.hid (fun h => by have h2 := (cpx_zero p l q m).2 h; rw [HX.out] at h2; omega)
      by_cases hpq : p = q
      · have hlm : ¬ l = m := fun h => HNE.out ⟨hpq, h⟩
        have hpb : (p == q) = true := beq_iff_eq.2 hpq
        have hlb : (l == m) = false := beq_eq_false_iff_ne.2 hlm
        clear hpq hlm
        by_cases hY : Y ≤ 0
        · have hRr : cpx p l r n ≤ 0 := cpx_trans (by rw [HX.out]; omega) (by rw [HY.out]; exact hY)
          generalize hRe : cpx p l r n = R at hRr
          have hdR : decide (0 < R) = false := by simp; omega
          have HR := Lib.hid hRe
          clear hRe
          go_wp2_with fail
          (with_reducible refine (cpx_v _ _ _ _ _ HQ.out _).mono ?_)
          rintro e w' ⟨rfl, hg⟩
          have HB1 : Below ((((((w.alloc (pfxb p l)).alloc (pfxb q m)).alloc (pfxb r n)).alloc (esib a0 a1 a2 a3 a4 a5 a6 a7 a8 a9)).alloc (esib b0 b1 b2 b3 b4 b5 b6 b7 b8 b9)).alloc (esib c0 c1 c2 c3 c4 c5 c6 c7 c8 c9)).heap.size ((((((w.alloc (pfxb p l)).alloc (pfxb q m)).alloc (pfxb r n)).alloc (esib a0 a1 a2 a3 a4 a5 a6 a7 a8 a9)).alloc (esib b0 b1 b2 b3 b4 b5 b6 b7 b8 b9)).alloc (esib c0 c1 c2 c3 c4 c5 c6 c7 c8 c9)) w' := HB.trans (hg.below.mono HB.size)
          clear k0 k1 k2 k3 k4 k5 hz hg HB
          have HB := HB1
          clear HB1
          obtain ⟨k0, k1, k2, k3, k4, k5, -, -, -, -, -, -, -, -, -, -, -, -, -, -, -, -, -, -, -, -, -, -, -, -, -, -, -, -, -, -, hz⟩ := boxes HB
          go_wp2_with fail
          (with_reducible refine (cpx_v _ _ _ _ _ HR.out _).mono ?_)
          rintro e w' ⟨rfl, hg⟩
          have HB1 : Below ((((((w.alloc (pfxb p l)).alloc (pfxb q m)).alloc (pfxb r n)).alloc (esib a0 a1 a2 a3 a4 a5 a6 a7 a8 a9)).alloc (esib b0 b1 b2 b3 b4 b5 b6 b7 b8 b9)).alloc (esib c0 c1 c2 c3 c4 c5 c6 c7 c8 c9)).heap.size ((((((w.alloc (pfxb p l)).alloc (pfxb q m)).alloc (pfxb r n)).alloc (esib a0 a1 a2 a3 a4 a5 a6 a7 a8 a9)).alloc (esib b0 b1 b2 b3 b4 b5 b6 b7 b8 b9)).alloc (esib c0 c1 c2 c3 c4 c5 c6 c7 c8 c9)) w' := HB.trans (hg.below.mono HB.size)
          clear k0 k1 k2 k3 k4 k5 hz hg HB
          have HB := HB1
          clear HB1
          obtain ⟨k0, k1, k2, k3, k4, k5, -, -, -, -, -, -, -, -, -, -, -, -, -, -, -, -, -, -, -, -, -, -, -, -, -, -, -, -, -, -, hz⟩ := boxes HB
          go_wp2_with fail
          go_meet
          exact ⟨rfl, HB⟩
        · have hY1 : 1 ≤ Y := by omega
          clear hY
          go_wp2_with fail
          (with_reducible refine (cpx_v _ _ _ _ _ HQ.out _).mono ?_)
          rintro e w' ⟨rfl, hg⟩
          have HB1 : Below ((((((w.alloc (pfxb p l)).alloc (pfxb q m)).alloc (pfxb r n)).alloc (esib a0 a1 a2 a3 a4 a5 a6 a7 a8 a9)).alloc (esib b0 b1 b2 b3 b4 b5 b6 b7 b8 b9)).alloc (esib c0 c1 c2 c3 c4 c5 c6 c7 c8 c9)).heap.size ((((((w.alloc (pfxb p l)).alloc (pfxb q m)).alloc (pfxb r n)).alloc (esib a0 a1 a2 a3 a4 a5 a6 a7 a8 a9)).alloc (esib b0 b1 b2 b3 b4 b5 b6 b7 b8 b9)).alloc (esib c0 c1 c2 c3 c4 c5 c6 c7 c8 c9)) w' := HB.trans (hg.below.mono HB.size)
          clear k0 k1 k2 k3 k4 k5 hz hg HB
          have HB := HB1
          clear HB1
          obtain ⟨k0, k1, k2, k3, k4, k5, -, -, -, -, -, -, -, -, -, -, -, -, -, -, -, -, -, -, -, -, -, -, -, -, -, -, -, -, -, -, hz⟩ := boxes HB
          go_wp2_with fail
          go_meet
          exact ⟨rfl, HB⟩
      · have hpb : (p == q) = false := beq_eq_false_iff_ne.2 hpq
        clear hpq
        by_cases hY : Y ≤ 0
        · have hRr : cpx p l r n ≤ 0 := cpx_trans (by rw [HX.out]; omega) (by rw [HY.out]; exact hY)
          generalize hRe : cpx p l r n = R at hRr
          have hdR : decide (0 < R) = false := by simp; omega
          have HR := Lib.hid hRe
          clear hRe
          go_wp2_with fail
          (with_reducible refine (cpx_v _ _ _ _ _ HQ.out _).mono ?_)
          rintro e w' ⟨rfl, hg⟩
          have HB1 : Below ((((((w.alloc (pfxb p l)).alloc (pfxb q m)).alloc (pfxb r n)).alloc (esib a0 a1 a2 a3 a4 a5 a6 a7 a8 a9)).alloc (esib b0 b1 b2 b3 b4 b5 b6 b7 b8 b9)).alloc (esib c0 c1 c2 c3 c4 c5 c6 c7 c8 c9)).heap.size ((((((w.alloc (pfxb p l)).alloc (pfxb q m)).alloc (pfxb r n)).alloc (esib a0 a1 a2 a3 a4 a5 a6 a7 a8 a9)).alloc (esib b0 b1 b2 b3 b4 b5 b6 b7 b8 b9)).alloc (esib c0 c1 c2 c3 c4 c5 c6 c7 c8 c9)) w' := HB.trans (hg.below.mono HB.size)
          clear k0 k1 k2 k3 k4 k5 hz hg HB
          have HB := HB1
          clear HB1
          obtain ⟨k0, k1, k2, k3, k4, k5, -, -, -, -, -, -, -, -, -, -, -, -, -, -, -, -, -, -, -, -, -, -, -, -, -, -, -, -, -, -, hz⟩ := boxes HB
          go_wp2_with fail
          (with_reducible refine (cpx_v _ _ _ _ _ HR.out _).mono ?_)
          rintro e w' ⟨rfl, hg⟩
          have HB1 : Below ((((((w.alloc (pfxb p l)).alloc (pfxb q m)).alloc (pfxb r n)).alloc (esib a0 a1 a2 a3 a4 a5 a6 a7 a8 a9)).alloc (esib b0 b1 b2 b3 b4 b5 b6 b7 b8 b9)).alloc (esib c0 c1 c2 c3 c4 c5 c6 c7 c8 c9)).heap.size ((((((w.alloc (pfxb p l)).alloc (pfxb q m)).alloc (pfxb r n)).alloc (esib a0 a1 a2 a3 a4 a5 a6 a7 a8 a9)).alloc (esib b0 b1 b2 b3 b4 b5 b6 b7 b8 b9)).alloc (esib c0 c1 c2 c3 c4 c5 c6 c7 c8 c9)) w' := HB.trans (hg.below.mono HB.size)
          clear k0 k1 k2 k3 k4 k5 hz hg HB
          have HB := HB1
          clear HB1
          obtain ⟨k0, k1, k2, k3, k4, k5, -, -, -, -, -, -, -, -, -, -, -, -, -, -, -, -, -, -, -, -, -, -, -, -, -, -, -, -, -, -, hz⟩ := boxes HB
          go_wp2_with fail
          go_meet
          exact ⟨rfl, HB⟩
        · have hY1 : 1 ≤ Y := by omega
          clear hY
          go_wp2_with fail
          (with_reducible refine (cpx_v _ _ _ _ _ HQ.out _).mono ?_)
          rintro e w' ⟨rfl, hg⟩
          have HB1 : Below ((((((w.alloc (pfxb p l)).alloc (pfxb q m)).alloc (pfxb r n)).alloc (esib a0 a1 a2 a3 a4 a5 a6 a7 a8 a9)).alloc (esib b0 b1 b2 b3 b4 b5 b6 b7 b8 b9)).alloc (esib c0 c1 c2 c3 c4 c5 c6 c7 c8 c9)).heap.size ((((((w.alloc (pfxb p l)).alloc (pfxb q m)).alloc (pfxb r n)).alloc (esib a0 a1 a2 a3 a4 a5 a6 a7 a8 a9)).alloc (esib b0 b1 b2 b3 b4 b5 b6 b7 b8 b9)).alloc (esib c0 c1 c2 c3 c4 c5 c6 c7 c8 c9)) w' := HB.trans (hg.below.mono HB.size)
          clear k0 k1 k2 k3 k4 k5 hz hg HB
          have HB := HB1
          clear HB1
          obtain ⟨k0, k1, k2, k3, k4, k5, -, -, -, -, -, -, -, -, -, -, -, -, -, -, -, -, -, -, -, -, -, -, -, -, -, -, -, -, -, -, hz⟩ := boxes HB
          go_wp2_with fail
          go_meet
          exact ⟨rfl, HB⟩
    · have HQ : Hid (cpx q m p l = 0) := Lib.hid (by have h := cpx_anti q m p l; rw [HX.out] at h; exact h)
      have hpb : (p == q) = true := beq_iff_eq.2 ((cpx_zero p l q m).1 HX.out).1
      have hlb : (l == m) = true := beq_iff_eq.2 ((cpx_zero p l q m).1 HX.out).2
      by_cases hY : Y ≤ 0
      · have hRr : cpx p l r n ≤ 0 := cpx_trans (by rw [HX.out]; omega) (by rw [HY.out]; exact hY)
        generalize hRe : cpx p l r n = R at hRr
        have hdR : decide (0 < R) = false := by simp; omega
        have HR := Lib.hid hRe
        clear hRe
        go_wp2_with fail
        (with_reducible refine (cpx_v _ _ _ _ _ HQ.out _).mono ?_)
        rintro e w' ⟨rfl, hg⟩
        have HB1 : Below ((((((w.alloc (pfxb p l)).alloc (pfxb q m)).alloc (pfxb r n)).alloc (esib a0 a1 a2 a3 a4 a5 a6 a7 a8 a9)).alloc (esib b0 b1 b2 b3 b4 b5 b6 b7 b8 b9)).alloc (esib c0 c1 c2 c3 c4 c5 c6 c7 c8 c9)).heap.size ((((((w.alloc (pfxb p l)).alloc (pfxb q m)).alloc (pfxb r n)).alloc (esib a0 a1 a2 a3 a4 a5 a6 a7 a8 a9)).alloc (esib b0 b1 b2 b3 b4 b5 b6 b7 b8 b9)).alloc (esib c0 c1 c2 c3 c4 c5 c6 c7 c8 c9)) w' := HB.trans (hg.below.mono HB.size)
        clear k0 k1 k2 k3 k4 k5 hz hg HB
        have HB := HB1
        clear HB1
        obtain ⟨k0, k1, k2, k3, k4, k5, -, -, -, -, -, -, -, -, -, -, -, -, -, -, -, -, -, -, -, -, -, -, -, -, -, -, -, -, -, -, hz⟩ := boxes HB
        go_wp2_with fail
        (with_reducible refine (cpx_v _ _ _ _ _ HR.out _).mono ?_)
        rintro e w' ⟨rfl, hg⟩
        have HB1 : Below ((((((w.alloc (pfxb p l)).alloc (pfxb q m)).alloc (pfxb r n)).alloc (esib a0 a1 a2 a3 a4 a5 a6 a7 a8 a9)).alloc (esib b0 b1 b2 b3 b4 b5 b6 b7 b8 b9)).alloc (esib c0 c1 c2 c3 c4 c5 c6 c7 c8 c9)).heap.size ((((((w.alloc (pfxb p l)).alloc (pfxb q m)).alloc (pfxb r n)).alloc (esib a0 a1 a2 a3 a4 a5 a6 a7 a8 a9)).alloc (esib b0 b1 b2 b3 b4 b5 b6 b7 b8 b9)).alloc (esib c0 c1 c2 c3 c4 c5 c6 c7 c8 c9)) w' := HB.trans (hg.below.mono HB.size)
        clear k0 k1 k2 k3 k4 k5 hz hg HB
        have HB := HB1
        clear HB1
        obtain ⟨k0, k1, k2, k3, k4, k5, -, -, -, -, -, -, -, -, -, -, -, -, -, -, -, -, -, -, -, -, -, -, -, -, -, -, -, -, -, -, hz⟩ := boxes HB
        go_wp2_with fail
        go_meet
        exact ⟨rfl, HB⟩
      · have hY1 : 1 ≤ Y := by omega
        clear hY
        go_wp2_with fail
        (with_reducible refine (cpx_v _ _ _ _ _ HQ.out _).mono ?_)
        rintro e w' ⟨rfl, hg⟩
        have HB1 : Below ((((((w.alloc (pfxb p l)).alloc (pfxb q m)).alloc (pfxb r n)).alloc (esib a0 a1 a2 a3 a4 a5 a6 a7 a8 a9)).alloc (esib b0 b1 b2 b3 b4 b5 b6 b7 b8 b9)).alloc (esib c0 c1 c2 c3 c4 c5 c6 c7 c8 c9)).heap.size ((((((w.alloc (pfxb p l)).alloc (pfxb q m)).alloc (pfxb r n)).alloc (esib a0 a1 a2 a3 a4 a5 a6 a7 a8 a9)).alloc (esib b0 b1 b2 b3 b4 b5 b6 b7 b8 b9)).alloc (esib c0 c1 c2 c3 c4 c5 c6 c7 c8 c9)) w' := HB.trans (hg.below.mono HB.size)
        clear k0 k1 k2 k3 k4 k5 hz hg HB
        have HB := HB1
        clear HB1
        obtain ⟨k0, k1, k2, k3, k4, k5, -, -, -, -, -, -, -, -, -, -, -, -, -, -, -, -, -, -, -, -, -, -, -, -, -, -, -, -, -, -, hz⟩ := boxes HB
        go_wp2_with fail
        go_meet
        exact ⟨rfl, HB⟩
    · have HQ : Hid (cpx q m p l = (-1)) := Lib.hid (by have h := cpx_anti q m p l; rw [HX.out] at h; exact h)
      have HNE : Hid (¬ (p = q ∧ l = m)) := Lib.hid (fun h => by have h2 := (cpx_zero p l q m).2 h; rw [HX.out] at h2; omega)
      by_cases hpq : p = q
      · have hlm : ¬ l = m := fun h => HNE.out ⟨hpq, h⟩
        have hpb : (p == q) = true := beq_iff_eq.2 hpq
        have hlb : (l == m) = false := beq_eq_false_iff_ne.2 hlm
        clear hpq hlm
        go_wp2_with fail
        (with_reducible refine (cpx_v _ _ _ _ _ HQ.out _).mono ?_)
        rintro e w' ⟨rfl, hg⟩
        have HB1 : Below ((((((w.alloc (pfxb p l)).alloc (pfxb q m)).alloc (pfxb r n)).alloc (esib a0 a1 a2 a3 a4 a5 a6 a7 a8 a9)).alloc (esib b0 b1 b2 b3 b4 b5 b6 b7 b8 b9)).alloc (esib c0 c1 c2 c3 c4 c5 c6 c7 c8 c9)).heap.size ((((((w.alloc (pfxb p l)).alloc (pfxb q m)).alloc (pfxb r n)).alloc (esib a0 a1 a2 a3 a4 a5 a6 a7 a8 a9)).alloc (esib b0 b1 b2 b3 b4 b5 b6 b7 b8 b9)).alloc (esib c0 c1 c2 c3 c4 c5 c6 c7 c8 c9)) w' := HB.trans (hg.below.mono HB.size)
        clear k0 k1 k2 k3 k4 k5 hz hg HB
        have HB := HB1
        clear HB1
        obtain ⟨k0, k1, k2, k3, k4, k5, -, -, -, -, -, -, -, -, -, -, -, -, -, -, -, -, -, -, -, -, -, -, -, -, -, -, -, -, -, -, hz⟩ := boxes HB
        go_wp2_with fail
        go_meet
        exact ⟨rfl, HB⟩
      · have hpb : (p == q) = false := beq_eq_false_iff_ne.2 hpq
        clear hpq
        go_wp2_with fail
        (with_reducible refine (cpx_v _ _ _ _ _ HQ.out _).mono ?_)
        rintro e w' ⟨rfl, hg⟩
        have HB1 : Below ((((((w.alloc (pfxb p l)).alloc (pfxb q m)).alloc (pfxb r n)).alloc (esib a0 a1 a2 a3 a4 a5 a6 a7 a8 a9)).alloc (esib b0 b1 b2 b3 b4 b5 b6 b7 b8 b9)).alloc (esib c0 c1 c2 c3 c4 c5 c6 c7 c8 c9)).heap.size ((((((w.alloc (pfxb p l)).alloc (pfxb q m)).alloc (pfxb r n)).alloc (esib a0 a1 a2 a3 a4 a5 a6 a7 a8 a9)).alloc (esib b0 b1 b2 b3 b4 b5 b6 b7 b8 b9)).alloc (esib c0 c1 c2 c3 c4 c5 c6 c7 c8 c9)) w' := HB.trans (hg.below.mono HB.size)
        clear k0 k1 k2 k3 k4 k5 hz hg HB
        have HB := HB1
        clear HB1
        obtain ⟨k0, k1, k2, k3, k4, k5, -, -, -, -, -, -, -, -, -, -, -, -, -, -, -, -, -, -, -, -, -, -, -, -, -, -, -, -, -, -, hz⟩ := boxes HB
        go_wp2_with fail
        go_meet
        exact ⟨rfl, HB⟩
  case rest =>
    clear HX HY k0 k1 k2 k3 k4 k5 k6 k7 k8 k9 k10 k11 k12 k13 k14 k15 k16 k17 k18 k19 k20 k21 k22 k23 k24 k25 k26 k27 k28 k29 k30 k31 k32 k33 k34 k35 hz
    obtain ⟨rfl, HB1⟩ := hcut
    clear HB
    have HB := HB1
    clear HB1
    obtain ⟨-, -, -, -, -, -, k6, k7, k8, k9, k10, k11, k12, k13, k14, k15, k16, k17, k18, k19, k20, k21, k22, k23, k24, k25, k26, k27, k28, k29, k30, k31, k32, k33, k34, k35, hz⟩ := boxes HB
    have hr := ce_range [a0, a1, a2, a3, a4, a5, a6, a7, a8, a9] [b0, b1, b2, b3, b4, b5, b6, b7, b8, b9]
    rw [HU.out] at hr
    have hU3 : U = -1 ∨ U = 0 ∨ U = 1 := by omega
    clear hr
    rcases hU3 with rfl | rfl | rfl
    · have HQ : Hid (ce [b0, b1, b2, b3, b4, b5, b6, b7, b8, b9] [a0, a1, a2, a3, a4, a5, a6, a7, a8, a9] = 1) := Lib.hid (by have h := ce_anti [b0, b1, b2, b3, b4, b5, b6, b7, b8, b9] [a0, a1, a2, a3, a4, a5, a6, a7, a8, a9]; rw [HU.out] at h; exact h)
      have hq : ∀ w, (Op.equalIn 10000 34 (esi a0 a1 a2 a3 a4 a5 a6 a7 a8 a9) (esi b0 b1 b2 b3 b4 b5 b6 b7 b8 b9)).run Try.prog w = .ok false w := fun w => by
        rw [esi_eq, beq_eq_false_iff_ne.2 (fun h => by have h2 := (ce_zero [a0, a1, a2, a3, a4, a5, a6, a7, a8, a9] [b0, b1, b2, b3, b4, b5, b6, b7, b8, b9] rfl).2 h; rw [HU.out] at h2; omega)]
      by_cases hV : V ≤ 0
      · have hTr : ce [a0, a1, a2, a3, a4, a5, a6, a7, a8, a9] [c0, c1, c2, c3, c4, c5, c6, c7, c8, c9] ≤ 0 := ce_trans [a0, a1, a2, a3, a4, a5, a6, a7, a8, a9] [b0, b1, b2, b3, b4, b5, b6, b7, b8, b9] [c0, c1, c2, c3, c4, c5, c6, c7, c8, c9] rfl rfl (by rw [HU.out]; omega) (by rw [HV.out]; exact hV)
        generalize hTe : ce [a0, a1, a2, a3, a4, a5, a6, a7, a8, a9] [c0, c1, c2, c3, c4, c5, c6, c7, c8, c9] = T at hTr
        have hdT : decide (T ≤ 0) = true := by simpa using hTr
        have HT := Lib.hid hTe
        clear hTe
        have hdV : decide (0 < V) = false := by simp; omega
        go_wp2_with fail
        (with_reducible refine (cesi_v _ _ _ _ _ _ _ _ _ _ _ _ _ _ _ _ _ _ _ _  _ HQ.out _).mono ?_)
        rintro e w' ⟨rfl, hg⟩
        have HB1 : Below ((((((w.alloc (pfxb p l)).alloc (pfxb q m)).alloc (pfxb r n)).alloc (esib a0 a1 a2 a3 a4 a5 a6 a7 a8 a9)).alloc (esib b0 b1 b2 b3 b4 b5 b6 b7 b8 b9)).alloc (esib c0 c1 c2 c3 c4 c5 c6 c7 c8 c9)).heap.size ((((((w.alloc (pfxb p l)).alloc (pfxb q m)).alloc (pfxb r n)).alloc (esib a0 a1 a2 a3 a4 a5 a6 a7 a8 a9)).alloc (esib b0 b1 b2 b3 b4 b5 b6 b7 b8 b9)).alloc (esib c0 c1 c2 c3 c4 c5 c6 c7 c8 c9)) w' := HB.trans (hg.mono HB.size)
        clear k6 k7 k8 k9 k10 k11 k12 k13 k14 k15 k16 k17 k18 k19 k20 k21 k22 k23 k24 k25 k26 k27 k28 k29 k30 k31 k32 k33 k34 k35 hz hg HB
        have HB := HB1
        clear HB1
        obtain ⟨-, -, -, -, -, -, k6, k7, k8, k9, k10, k11, k12, k13, k14, k15, k16, k17, k18, k19, k20, k21, k22, k23, k24, k25, k26, k27, k28, k29, k30, k31, k32, k33, k34, k35, hz⟩ := boxes HB
        go_wp2_with fail
        (with_reducible refine (cesi_v _ _ _ _ _ _ _ _ _ _ _ _ _ _ _ _ _ _ _ _  _ HT.out _).mono ?_)
        rintro e w' ⟨rfl, hg⟩
        have HB1 : Below ((((((w.alloc (pfxb p l)).alloc (pfxb q m)).alloc (pfxb r n)).alloc (esib a0 a1 a2 a3 a4 a5 a6 a7 a8 a9)).alloc (esib b0 b1 b2 b3 b4 b5 b6 b7 b8 b9)).alloc (esib c0 c1 c2 c3 c4 c5 c6 c7 c8 c9)).heap.size ((((((w.alloc (pfxb p l)).alloc (pfxb q m)).alloc (pfxb r n)).alloc (esib a0 a1 a2 a3 a4 a5 a6 a7 a8 a9)).alloc (esib b0 b1 b2 b3 b4 b5 b6 b7 b8 b9)).alloc (esib c0 c1 c2 c3 c4 c5 c6 c7 c8 c9)) w' := HB.trans (hg.mono HB.size)
        clear k6 k7 k8 k9 k10 k11 k12 k13 k14 k15 k16 k17 k18 k19 k20 k21 k22 k23 k24 k25 k26 k27 k28 k29 k30 k31 k32 k33 k34 k35 hz hg HB
        have HB := HB1
        clear HB1
        obtain ⟨-, -, -, -, -, -, k6, k7, k8, k9, k10, k11, k12, k13, k14, k15, k16, k17, k18, k19, k20, k21, k22, k23, k24, k25, k26, k27, k28, k29, k30, k31, k32, k33, k34, k35, hz⟩ := boxes HB
        go_wp2_with fail
        go_ret
        exact ⟨rfl, (((((((Below.refl _ w).alloc (Nat.le_refl _) _).alloc (by simp) _).alloc (by simp; omega) _).alloc (by simp; omega) _).alloc (by simp; omega) _).alloc (by simp; omega) _).trans (HB.mono (by simp; omega))⟩
      · have hV1 : 1 ≤ V := by omega
        clear hV
        have hdV : decide (0 < V) = true := by simp; omega
        go_wp2_with fail
        (with_reducible refine (cesi_v _ _ _ _ _ _ _ _ _ _ _ _ _ _ _ _ _ _ _ _  _ HQ.out _).mono ?_)
        rintro e w' ⟨rfl, hg⟩
        have HB1 : Below ((((((w.alloc (pfxb p l)).alloc (pfxb q m)).alloc (pfxb r n)).alloc (esib a0 a1 a2 a3 a4 a5 a6 a7 a8 a9)).alloc (esib b0 b1 b2 b3 b4 b5 b6 b7 b8 b9)).alloc (esib c0 c1 c2 c3 c4 c5 c6 c7 c8 c9)).heap.size ((((((w.alloc (pfxb p l)).alloc (pfxb q m)).alloc (pfxb r n)).alloc (esib a0 a1 a2 a3 a4 a5 a6 a7 a8 a9)).alloc (esib b0 b1 b2 b3 b4 b5 b6 b7 b8 b9)).alloc (esib c0 c1 c2 c3 c4 c5 c6 c7 c8 c9)) w' := HB.trans (hg.mono HB.size)
        clear k6 k7 k8 k9 k10 k11 k12 k13 k14 k15 k16 k17 k18 k19 k20 k21 k22 k23 k24 k25 k26 k27 k28 k29 k30 k31 k32 k33 k34 k35 hz hg HB
        have HB := HB1
        clear HB1
        obtain ⟨-, -, -, -, -, -, k6, k7, k8, k9, k10, k11, k12, k13, k14, k15, k16, k17, k18, k19, k20, k21, k22, k23, k24, k25, k26, k27, k28, k29, k30, k31, k32, k33, k34, k35, hz⟩ := boxes HB
        go_wp2_with fail
        go_ret
        exact ⟨rfl, (((((((Below.refl _ w).alloc (Nat.le_refl _) _).alloc (by simp) _).alloc (by simp; omega) _).alloc (by simp; omega) _).alloc (by simp; omega) _).alloc (by simp; omega) _).trans (HB.mono (by simp; omega))⟩
    · have HQ : Hid (ce [b0, b1, b2, b3, b4, b5, b6, b7, b8, b9] [a0, a1, a2, a3, a4, a5, a6, a7, a8, a9] = 0) := Lib.hid (by have h := ce_anti [b0, b1, b2, b3, b4, b5, b6, b7, b8, b9] [a0, a1, a2, a3, a4, a5, a6, a7, a8, a9]; rw [HU.out] at h; exact h)
      have hq : ∀ w, (Op.equalIn 10000 34 (esi a0 a1 a2 a3 a4 a5 a6 a7 a8 a9) (esi b0 b1 b2 b3 b4 b5 b6 b7 b8 b9)).run Try.prog w = .ok true w := fun w => by
        rw [esi_eq, (ce_zero [a0, a1, a2, a3, a4, a5, a6, a7, a8, a9] [b0, b1, b2, b3, b4, b5, b6, b7, b8, b9] rfl).1 HU.out]; simp
      by_cases hV : V ≤ 0
      · have hTr : ce [a0, a1, a2, a3, a4, a5, a6, a7, a8, a9] [c0, c1, c2, c3, c4, c5, c6, c7, c8, c9] ≤ 0 := ce_trans [a0, a1, a2, a3, a4, a5, a6, a7, a8, a9] [b0, b1, b2, b3, b4, b5, b6, b7, b8, b9] [c0, c1, c2, c3, c4, c5, c6, c7, c8, c9] rfl rfl (by rw [HU.out]; omega) (by rw [HV.out]; exact hV)
        generalize hTe : ce [a0, a1, a2, a3, a4, a5, a6, a7, a8, a9] [c0, c1, c2, c3, c4, c5, c6, c7, c8, c9] = T at hTr
        have hdT : decide (T ≤ 0) = true := by simpa using hTr
        have HT := Lib.hid hTe
        clear hTe
        have hdV : decide (0 < V) = false := by simp; omega
        go_wp2_with fail
        (with_reducible refine (cesi_v _ _ _ _ _ _ _ _ _ _ _ _ _ _ _ _ _ _ _ _  _ HQ.out _).mono ?_)
        rintro e w' ⟨rfl, hg⟩
        have HB1 : Below ((((((w.alloc (pfxb p l)).alloc (pfxb q m)).alloc (pfxb r n)).alloc (esib a0 a1 a2 a3 a4 a5 a6 a7 a8 a9)).alloc (esib b0 b1 b2 b3 b4 b5 b6 b7 b8 b9)).alloc (esib c0 c1 c2 c3 c4 c5 c6 c7 c8 c9)).heap.size ((((((w.alloc (pfxb p l)).alloc (pfxb q m)).alloc (pfxb r n)).alloc (esib a0 a1 a2 a3 a4 a5 a6 a7 a8 a9)).alloc (esib b0 b1 b2 b3 b4 b5 b6 b7 b8 b9)).alloc (esib c0 c1 c2 c3 c4 c5 c6 c7 c8 c9)) w' := HB.trans (hg.mono HB.size)
        clear k6 k7 k8 k9 k10 k11 k12 k13 k14 k15 k16 k17 k18 k19 k20 k21 k22 k23 k24 k25 k26 k27 k28 k29 k30 k31 k32 k33 k34 k35 hz hg HB
        have HB := HB1
        clear HB1
        obtain ⟨-, -, -, -, -, -, k6, k7, k8, k9, k10, k11, k12, k13, k14, k15, k16, k17, k18, k19, k20, k21, k22, k23, k24, k25, k26, k27, k28, k29, k30, k31, k32, k33, k34, k35, hz⟩ := boxes HB
        go_wp2_with fail
        (with_reducible refine (cesi_v _ _ _ _ _ _ _ _ _ _ _ _ _ _ _ _ _ _ _ _  _ HT.out _).mono ?_)
        rintro e w' ⟨rfl, hg⟩
        have HB1 : Below ((((((w.alloc (pfxb p l)).alloc (pfxb q m)).alloc (pfxb r n)).alloc (esib a0 a1 a2 a3 a4 a5 a6 a7 a8 a9)).alloc (esib b0 b1 b2 b3 b4 b5 b6 b7 b8 b9)).alloc (esib c0 c1 c2 c3 c4 c5 c6 c7 c8 c9)).heap.size ((((((w.alloc (pfxb p l)).alloc (pfxb q m)).alloc (pfxb r n)).alloc (esib a0 a1 a2 a3 a4 a5 a6 a7 a8 a9)).alloc (esib b0 b1 b2 b3 b4 b5 b6 b7 b8 b9)).alloc (esib c0 c1 c2 c3 c4 c5 c6 c7 c8 c9)) w' := HB.trans (hg.mono HB.size)
        clear k6 k7 k8 k9 k10 k11 k12 k13 k14 k15 k16 k17 k18 k19 k20 k21 k22 k23 k24 k25 k26 k27 k28 k29 k30 k31 k32 k33 k34 k35 hz hg HB
        have HB := HB1
        clear HB1
        obtain ⟨-, -, -, -, -, -, k6, k7, k8, k9, k10, k11, k12, k13, k14, k15, k16, k17, k18, k19, k20, k21, k22, k23, k24, k25, k26, k27, k28, k29, k30, k31, k32, k33, k34, k35, hz⟩ := boxes HB
        go_wp2_with fail
        go_ret
        exact ⟨rfl, (((((((Below.refl _ w).alloc (Nat.le_refl _) _).alloc (by simp) _).alloc (by simp; omega) _).alloc (by simp; omega) _).alloc (by simp; omega) _).alloc (by simp; omega) _).trans (HB.mono (by simp; omega))⟩
      · have hV1 : 1 ≤ V := by omega
        clear hV
        have hdV : decide (0 < V) = true := by simp; omega
        go_wp2_with fail
        (with_reducible refine (cesi_v _ _ _ _ _ _ _ _ _ _ _ _ _ _ _ _ _ _ _ _  _ HQ.out _).mono ?_)
        rintro e w' ⟨rfl, hg⟩
        have HB1 : Below ((((((w.alloc (pfxb p l)).alloc (pfxb q m)).alloc (pfxb r n)).alloc (esib a0 a1 a2 a3 a4 a5 a6 a7 a8 a9)).alloc (esib b0 b1 b2 b3 b4 b5 b6 b7 b8 b9)).alloc (esib c0 c1 c2 c3 c4 c5 c6 c7 c8 c9)).heap.size ((((((w.alloc (pfxb p l)).alloc (pfxb q m)).alloc (pfxb r n)).alloc (esib a0 a1 a2 a3 a4 a5 a6 a7 a8 a9)).alloc (esib b0 b1 b2 b3 b4 b5 b6 b7 b8 b9)).alloc (esib c0 c1 c2 c3 c4 c5 c6 c7 c8 c9)) w' := HB.trans (hg.mono HB.size)
        clear k6 k7 k8 k9 k10 k11 k12 k13 k14 k15 k16 k17 k18 k19 k20 k21 k22 k23 k24 k25 k26 k27 k28 k29 k30 k31 k32 k33 k34 k35 hz hg HB
        have HB := HB1
        clear HB1
        obtain ⟨-, -, -, -, -, -, k6, k7, k8, k9, k10, k11, k12, k13, k14, k15, k16, k17, k18, k19, k20, k21, k22, k23, k24, k25, k26, k27, k28, k29, k30, k31, k32, k33, k34, k35, hz⟩ := boxes HB
        go_wp2_with fail
        go_ret
        exact ⟨rfl, (((((((Below.refl _ w).alloc (Nat.le_refl _) _).alloc (by simp) _).alloc (by simp; omega) _).alloc (by simp; omega) _).alloc (by simp; omega) _).alloc (by simp; omega) _).trans (HB.mono (by simp; omega))⟩
    · have HQ : Hid (ce [b0, b1, b2, b3, b4, b5, b6, b7, b8, b9] [a0, a1, a2, a3, a4, a5, a6, a7, a8, a9] = (-1)) := Lib.hid (by have h := ce_anti [b0, b1, b2, b3, b4, b5, b6, b7, b8, b9] [a0, a1, a2, a3, a4, a5, a6, a7, a8, a9]; rw [HU.out] at h; exact h)
      have hq : ∀ w, (Op.equalIn 10000 34 (esi a0 a1 a2 a3 a4 a5 a6 a7 a8 a9) (esi b0 b1 b2 b3 b4 b5 b6 b7 b8 b9)).run Try.prog w = .ok false w := fun w => by
        rw [esi_eq, beq_eq_false_iff_ne.2 (fun h => by have h2 := (ce_zero [a0, a1, a2, a3, a4, a5, a6, a7, a8, a9] [b0, b1, b2, b3, b4, b5, b6, b7, b8, b9] rfl).2 h; rw [HU.out] at h2; omega)]
      go_wp2_with fail
      (with_reducible refine (cesi_v _ _ _ _ _ _ _ _ _ _ _ _ _ _ _ _ _ _ _ _  _ HQ.out _).mono ?_)
      rintro e w' ⟨rfl, hg⟩
      have HB1 : Below ((((((w.alloc (pfxb p l)).alloc (pfxb q m)).alloc (pfxb r n)).alloc (esib a0 a1 a2 a3 a4 a5 a6 a7 a8 a9)).alloc (esib b0 b1 b2 b3 b4 b5 b6 b7 b8 b9)).alloc (esib c0 c1 c2 c3 c4 c5 c6 c7 c8 c9)).heap.size ((((((w.alloc (pfxb p l)).alloc (pfxb q m)).alloc (pfxb r n)).alloc (esib a0 a1 a2 a3 a4 a5 a6 a7 a8 a9)).alloc (esib b0 b1 b2 b3 b4 b5 b6 b7 b8 b9)).alloc (esib c0 c1 c2 c3 c4 c5 c6 c7 c8 c9)) w' := HB.trans (hg.mono HB.size)
      clear k6 k7 k8 k9 k10 k11 k12 k13 k14 k15 k16 k17 k18 k19 k20 k21 k22 k23 k24 k25 k26 k27 k28 k29 k30 k31 k32 k33 k34 k35 hz hg HB
      have HB := HB1
      clear HB1
      obtain ⟨-, -, -, -, -, -, k6, k7, k8, k9, k10, k11, k12, k13, k14, k15, k16, k17, k18, k19, k20, k21, k22, k23, k24, k25, k26, k27, k28, k29, k30, k31, k32, k33, k34, k35, hz⟩ := boxes HB
      go_wp2_with fail
      go_ret
      exact ⟨rfl, (((((((Below.refl _ w).alloc (Nat.le_refl _) _).alloc (by simp) _).alloc (by simp; omega) _).alloc (by simp; omega) _).alloc (by simp; omega) _).alloc (by simp; omega) _).trans (HB.mono (by simp; omega))⟩

end Go.Proofs.Ytpkdjikcckidgaa
