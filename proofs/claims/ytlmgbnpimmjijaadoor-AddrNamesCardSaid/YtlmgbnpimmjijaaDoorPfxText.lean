/- The contract of PrefixText. -/
import Derived.Test.YtlmgbnpimmjijaaDoorIPText
import Derived.Test.YtlmgbnpimmjijaaDoorParsePfx
import Derived.Deep.RegionHeld3
namespace Go.Proofs.YtlmgbnpimmjijaaDoor
open Go.RowKit

/-- The text of a prefix. -/
def pfxT (ip l : Int) : List UInt8 := ipT (ip / 16777216) (ip / 65536 % 256) (ip / 256 % 256) (ip % 256) ++ [47] ++ Lib.itoa l

theorem ipT_length (ip : Int) (h0 : 0 ≤ ip) (h1 : ip < 4294967296) : (ipT (ip / 16777216) (ip / 65536 % 256) (ip / 256 % 256) (ip % 256)).length ≤ 100 := by
  have la := Lib.itoa_length_le (ip / 16777216) (by omega) (by omega)
  have lb := Lib.itoa_length_le (ip / 65536 % 256) (by omega) (by omega)
  have lc := Lib.itoa_length_le (ip / 256 % 256) (by omega) (by omega)
  have ld := Lib.itoa_length_le (ip % 256) (by omega) (by omega)
  simp [ipT]
  omega

theorem str_app (a b : List UInt8) : ((⟨a.toArray⟩ : ByteArray) ++ (⟨b.toArray⟩ : ByteArray)) = ⟨(a ++ b).toArray⟩ := by
  apply ByteArray.ext
  simp

theorem pfx_cells {w W : World} {ip l : Int} (h : Below (w.heap.size + 1) (w.alloc (pfxb ip l)) W) : W.cell? ⟨w.heap.size, 0, none⟩ = some (.int .u32 ip) ∧ W.cell? ⟨w.heap.size, 1, none⟩ = some (.int .i64 l) :=
  ⟨(h.cell (p := ⟨w.heap.size, 0, none⟩) (by simp)).trans (by simp [go_sem]), (h.cell (p := ⟨w.heap.size, 1, none⟩) (by simp)).trans (by simp [go_sem])⟩

theorem pfxText_no (ip l : Int) (hv : vld l = false) (w : World) :
    Calls Tryd.prog 20 #[pfx ip l] w fun e w' => e = .returned (.tuple #[.string ⟨#[]⟩, .int .i64 2]) ∧ Below w.heap.size w w' := by
  have HV := Lib.hid hv
  clear hv
  go_enter Tryd.func20, Tryd.ntmps20
  go_wp2_with fail
  refine (isPrefix_b _ _ _ HV.out _).mono ?_
  rintro e w' ⟨rfl, rfl⟩
  go_wp2_with fail
  go_ret2
  exact ⟨rfl, (((Below.refl _ w).alloc (Nat.le_refl _) _).alloc (by simp) _)⟩

set_option maxHeartbeats 1000000 in
set_option maxRecDepth 100000 in
theorem pfxText_yes (ip l : Int) (hv : vld l = true) (h0 : 0 ≤ ip) (h1 : ip < 4294967296) (w : World) (hg : GlobPow w) :
    Calls Tryd.prog 20 #[pfx ip l] w fun e w' => e = .returned (.tuple #[.string ⟨(pfxT ip l).toArray⟩, .int .i64 0]) ∧ Below w.heap.size w w' := by
  have hl := vld_iff.1 hv
  have HV := Lib.hid hv
  have hll := Lib.itoa_length_le l (by omega) (by omega)
  have hil := ipT_length ip h0 h1
  have hl0 := hl.1
  have hl1 := hl.2
  have hb0 : Below w.heap.size w (w.alloc (pfxb ip l)) := (Below.refl _ w).alloc (Nat.le_refl _) _
  have hb1 : Below (w.heap.size + 1) (w.alloc (pfxb ip l)) (w.alloc (pfxb ip l)) := Below.refl _ _
  have HG := Lib.hid hg
  clear hg hv hl
  obtain ⟨T, hT⟩ : ∃ T, ipT (ip / 16777216) (ip / 65536 % 256) (ip / 256 % 256) (ip % 256) = T := ⟨_, rfl⟩
  have HT := Lib.hid hT
  rw [hT] at hil
  clear hT
  go_enter Tryd.func20, Tryd.ntmps20
  go_wp2_with fail
  refine (isPrefix_b _ _ _ HV.out _).mono ?_
  rintro e w' ⟨rfl, rfl⟩
  go_wp2_with fail
  refine wp_region_held_drew (S := fun W => Below (w.heap.size + 1) (w.alloc (pfxb ip l)) W) (by kernel_rfl) ((hb1.alloc (by simp) _).drew) (fun hHeld => ?_)
  refine wpAnyH_take (i := 0) (oi := { dst := some 7, op := Go.Op.fieldAddr 35 (Go.Operand.tmp 1) 0, type := 0, pos := "text.go:81", after := #[], guard := none }) (v := ?_) rfl (by kernel_rfl) (by kernel_rfl) (by kernel_rfl) (fun _ _ _ h => h) (Or.inl ⟨by rfl, ?_⟩) (by assumption) ?_
  rotate_left
  · intro wS hSw
    try dsimp only at hSw
    obtain ⟨p0, p1⟩ := pfx_cells hSw
    go_simp
    try with_reducible rfl
  try simp only [Act.put, List.setIfInBounds_toArray, List.set_cons_zero, List.set_cons_succ]
  refine wpAnyH_take (i := 1) (oi := { dst := some 8, op := Go.Op.load 24 (Go.Operand.tmp 7), type := 24, pos := "text.go:81", after := #[{ on := 0, ground := Go.Ground.data }], guard := none }) (v := ?_) rfl (by kernel_rfl) (by kernel_rfl) (by kernel_rfl) (fun _ _ _ h => h) (Or.inl ⟨by rfl, ?_⟩) (by assumption) ?_
  rotate_left
  · intro wS hSw
    try dsimp only at hSw
    obtain ⟨p0, p1⟩ := pfx_cells hSw
    go_simp
    try with_reducible rfl
  try simp only [Act.put, List.setIfInBounds_toArray, List.set_cons_zero, List.set_cons_succ]
  refine wpAnyH_take (i := 4) (oi := { dst := some 11, op := Go.Op.fieldAddr 35 (Go.Operand.tmp 1) 1, type := 0, pos := "text.go:81", after := #[], guard := none }) (v := ?_) rfl (by kernel_rfl) (by kernel_rfl) (by kernel_rfl) (fun _ _ _ h => h) (Or.inl ⟨by rfl, ?_⟩) (by assumption) ?_
  rotate_left
  · intro wS hSw
    try dsimp only at hSw
    obtain ⟨p0, p1⟩ := pfx_cells hSw
    go_simp
    try with_reducible rfl
  try simp only [Act.put, List.setIfInBounds_toArray, List.set_cons_zero, List.set_cons_succ]
  refine wpAnyH_take (i := 5) (oi := { dst := some 12, op := Go.Op.load 3 (Go.Operand.tmp 11), type := 3, pos := "text.go:81", after := #[{ on := 4, ground := Go.Ground.data }], guard := none }) (v := ?_) rfl (by kernel_rfl) (by kernel_rfl) (by kernel_rfl) (fun _ _ _ h => h) (Or.inl ⟨by rfl, ?_⟩) (by assumption) ?_
  rotate_left
  · intro wS hSw
    try dsimp only at hSw
    obtain ⟨p0, p1⟩ := pfx_cells hSw
    go_simp
    try with_reducible rfl
  try simp only [Act.put, List.setIfInBounds_toArray, List.set_cons_zero, List.set_cons_succ]
  refine wpAnyH_ready (rs := [2]) (by kernel_rfl) (by simp) ?_
  refine AllReadyH.cons (o := { dst := some 9, op := Go.Op.call { callee := Go.Callee.value (Go.Operand.func 18), args := #[Go.Operand.tmp 8], argTypes := #[24] }, type := 9, pos := "text.go:81", after := #[{ on := 1, ground := Go.Ground.data }], guard := none }) rfl (fun K hK => ?_) AllReadyH.nil
  go_simp
  refine (ipText_b ip h0 h1 _ (pow_keep HG.out (hb0.trans (hHeld.mono (by omega))))).mono ?_
  rintro e w2 ⟨rfl, hb2⟩
  rw [HT.out]
  dsimp only
  refine hK.out _ _ ?_ (fun hHeld => ?_)
  · exact hHeld.trans (hb2.mono (by simp))
  clear hK K
  try simp only [Act.put, List.setIfInBounds_toArray, List.set_cons_zero, List.set_cons_succ]
  refine wpAnyH_take (i := 3) (oi := { dst := some 10, op := Go.Op.binOp Go.BinOp.add 9 (Go.Operand.tmp 9) (Go.Operand.const (Go.Value.string { data := #[47] })) 9, type := 9, pos := "text.go:81", after := #[{ on := 2, ground := Go.Ground.data }], guard := none }) (v := .string ⟨(T ++ [47]).toArray⟩) rfl (by kernel_rfl) (by kernel_rfl) (by kernel_rfl) (fun _ _ _ h => h) (Or.inl ⟨by rfl, ?_⟩) (by assumption) ?_
  · intro wS hSw
    go_simp
    rw [if_neg (by omega)]
    rw [show ((⟨T.toArray⟩ : ByteArray) ++ (⟨#[47]⟩ : ByteArray)) = ⟨(T ++ [47]).toArray⟩ from str_app T [47]]
  try simp only [Act.put, List.setIfInBounds_toArray, List.set_cons_zero, List.set_cons_succ]
  refine wpAnyH_ready (rs := [6]) (by kernel_rfl) (by simp) ?_
  refine AllReadyH.cons (o := { dst := some 13, op := Go.Op.call { callee := Go.Callee.value (Go.Operand.func 37), args := #[Go.Operand.tmp 12], argTypes := #[3] }, type := 9, pos := "text.go:81", after := #[{ on := 5, ground := Go.Ground.data }, { on := 2, ground := Go.Ground.chain }], guard := none }) rfl (fun K hK => ?_) AllReadyH.nil
  go_simp
  refine (itoa_b l (by omega) (by omega) _ (pow_keep HG.out (hb0.trans (hHeld.mono (by omega))))).mono ?_
  rintro e w3 ⟨rfl, hb3⟩
  dsimp only
  refine hK.out _ _ ?_ (fun hHeld => ?_)
  · exact hHeld.trans (hb3.mono (by have := hHeld.size; simpa using this))
  clear hK K
  try simp only [Act.put, List.setIfInBounds_toArray, List.set_cons_zero, List.set_cons_succ]
  refine wpAnyH_take (i := 7) (oi := { dst := some 14, op := Go.Op.binOp Go.BinOp.add 9 (Go.Operand.tmp 10) (Go.Operand.tmp 13) 9, type := 9, pos := "text.go:81", after := #[{ on := 3, ground := Go.Ground.data }, { on := 6, ground := Go.Ground.data }], guard := none }) (v := .string ⟨(T ++ [47] ++ Lib.itoa l).toArray⟩) rfl (by kernel_rfl) (by kernel_rfl) (by kernel_rfl) (fun _ _ _ h => h) (Or.inl ⟨by rfl, ?_⟩) (by assumption) ?_
  · intro wS hSw
    go_simp
    rw [if_neg (by simp; omega)]
    rw [str_app (T ++ [47]) (Lib.itoa l)]
    simp
  try simp only [Act.put, List.setIfInBounds_toArray, List.set_cons_zero, List.set_cons_succ]
  refine wpAnyH_take (i := 8) (oi := { dst := some 2, op := Go.Op.assign (Go.Operand.tmp 14), type := 9, pos := "text.go:81", after := #[{ on := 7, ground := Go.Ground.data }, { on := 6, ground := Go.Ground.chain }, { on := 0, ground := Go.Ground.phase }, { on := 1, ground := Go.Ground.phase }, { on := 2, ground := Go.Ground.phase }, { on := 3, ground := Go.Ground.phase }, { on := 4, ground := Go.Ground.phase }, { on := 5, ground := Go.Ground.phase }, { on := 6, ground := Go.Ground.phase }, { on := 7, ground := Go.Ground.phase }], guard := none }) (v := ?_) rfl (by kernel_rfl) (by kernel_rfl) (by kernel_rfl) (fun _ _ _ h => h) (Or.inl ⟨by rfl, ?_⟩) (by assumption) ?_
  rotate_left
  · intro wS hSw
    try dsimp only at hSw
    obtain ⟨p0, p1⟩ := pfx_cells hSw
    go_simp
    try with_reducible rfl
  try simp only [Act.put, List.setIfInBounds_toArray, List.set_cons_zero, List.set_cons_succ]
  refine wpAnyH_take (i := 9) (oi := { dst := some 3, op := Go.Op.assign (Go.Operand.const (Go.Value.int Go.IntKind.i64 0)), type := 25, pos := "text.go:81", after := #[{ on := 8, ground := Go.Ground.chain }, { on := 0, ground := Go.Ground.phase }, { on := 1, ground := Go.Ground.phase }, { on := 2, ground := Go.Ground.phase }, { on := 3, ground := Go.Ground.phase }, { on := 4, ground := Go.Ground.phase }, { on := 5, ground := Go.Ground.phase }, { on := 6, ground := Go.Ground.phase }, { on := 7, ground := Go.Ground.phase }, { on := 8, ground := Go.Ground.phase }], guard := none }) (v := ?_) rfl (by kernel_rfl) (by kernel_rfl) (by kernel_rfl) (fun _ _ _ h => h) (Or.inl ⟨by rfl, ?_⟩) (by assumption) ?_
  rotate_left
  · intro wS hSw
    try dsimp only at hSw
    obtain ⟨p0, p1⟩ := pfx_cells hSw
    go_simp
    try with_reducible rfl
  try simp only [Act.put, List.setIfInBounds_toArray, List.set_cons_zero, List.set_cons_succ]
  refine wpAnyH_done (by kernel_rfl) ?_ _
  go_wp2_with fail
  go_ret2
  exact ⟨by rw [pfxT, HT.out]; simp, hb0.trans (hHeld.mono (by omega))⟩

end Go.Proofs.YtlmgbnpimmjijaaDoor
