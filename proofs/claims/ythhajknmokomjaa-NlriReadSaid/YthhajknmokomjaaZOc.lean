/- Plain facts on prefixes: numbers, bits, the orders of package addr. No program. -/
import Derived.WalkKit
import Derived.Test.YthhajknmokomjaaRows
import Derived.ProofKit
import Derived.OpenShut
import Derived.Lib.Hide
import Derived.BigQuiet
import Derived.Deep.QuietTactic
import Derived.Deep.RegionHeld3
import Derived.Deep.RegionWith
import Derived.RangeFuncBox
import Derived.RangeFuncNested
import Derived.RangeFuncBound
import Derived.RangeFuncCalls
import Derived.RangeFuncLeaves
import Derived.Shelf.Abstract
import Derived.OwnWalkIn
import Derived.TacticsInMore
import Derived.LoopNIn
import Derived.LoopIn
namespace Go.Proofs.Ythhajknmokomjaa
open Go

/-- A number as 32 bits. -/
def bv (x : Int) : BitVec 32 := BitVec.ofInt 32 x

theorem wrap_u32 (n : Nat) (h : n < 4294967296) : IntKind.u32.wrap (n : Int) = n := by
  have e : IntKind.u32.wrap (n : Int) = (n : Int) % 4294967296 := by rfl
  rw [e]; omega

theorem bits_and (x y : Int) : bits BinOp.and .u32 x y = ((bv x &&& bv y).toNat : Int) :=
  wrap_u32 _ (bv x &&& bv y).isLt

theorem bits_xor (x y : Int) : bits BinOp.xor .u32 x y = ((bv x ^^^ bv y).toNat : Int) :=
  wrap_u32 _ (bv x ^^^ bv y).isLt

theorem bv_nat (b : BitVec 32) : bv (b.toNat : Int) = b := by
  unfold bv
  apply BitVec.eq_of_toNat_eq
  simp

/-- The mask of a length. -/
def msk (n : Int) : Int := 4294967296 - 2 ^ (32 - n).toNat

theorem msk_bit : ∀ (n : Fin 33) (i : Fin 32), (bv (msk n.val)).getLsbD i.val = decide (32 - n.val ≤ i.val) := by
  decide +kernel

def vld (l : Int) : Bool := decide (0 ≤ l ∧ l ≤ 32)
def ct (p l x : Int) : Bool := vld l && (bits BinOp.and .u32 (bits BinOp.xor .u32 p x) (msk l) == 0)
def cv (p l q m : Int) : Bool := vld m && decide (l ≤ m) && ct p l q
def cl (p l : Int) : Int := bits BinOp.and .u32 p (msk l)

theorem vld_iff {l : Int} : vld l = true ↔ 0 ≤ l ∧ l ≤ 32 := by simp [vld]

theorem bv_inj {x y : Int} (hx : 0 ≤ x ∧ x < 4294967296) (hy : 0 ≤ y ∧ y < 4294967296) (h : bv x = bv y) : x = y := by
  have := congrArg BitVec.toNat h
  simp [bv, BitVec.toNat_ofInt] at this
  omega

theorem ct_iff {p l x : Int} : ct p l x = true ↔ (0 ≤ l ∧ l ≤ 32) ∧ ∀ i, i < 32 → 32 - l.toNat ≤ i → (bv p).getLsbD i = (bv x).getLsbD i := by
  unfold ct
  rw [Bool.and_eq_true, vld_iff, bits_and, bits_xor, bv_nat, beq_iff_eq]
  constructor
  · rintro ⟨hl, h⟩
    refine ⟨hl, fun i hi hb => ?_⟩
    have h0 : ((bv p ^^^ bv x) &&& bv (msk l)) = 0#32 := by
      apply BitVec.eq_of_toNat_eq; simp at h ⊢; omega
    have hm := msk_bit ⟨l.toNat, by omega⟩ ⟨i, hi⟩
    have h1 := congrArg (fun b => b.getLsbD i) h0
    simp only [BitVec.getLsbD_and, BitVec.getLsbD_xor, BitVec.getLsbD_zero] at h1
    rw [show ((⟨l.toNat, by omega⟩ : Fin 33).val : Int) = l from by simp; omega] at hm
    simp only at hm
    rw [hm, decide_eq_true hb, Bool.and_true] at h1
    revert h1
    cases (bv p).getLsbD i <;> cases (bv x).getLsbD i <;> simp
  · rintro ⟨hl, h⟩
    refine ⟨hl, ?_⟩
    have h0 : ((bv p ^^^ bv x) &&& bv (msk l)) = 0#32 := by
      apply BitVec.eq_of_getLsbD_eq
      intro i hi
      have hm := msk_bit ⟨l.toNat, by omega⟩ ⟨i, hi⟩
      rw [show ((⟨l.toNat, by omega⟩ : Fin 33).val : Int) = l from by simp; omega] at hm
      simp only at hm
      simp only [BitVec.getLsbD_and, BitVec.getLsbD_xor, BitVec.getLsbD_zero, hm]
      by_cases hb : 32 - l.toNat ≤ i
      · rw [h i hi hb]; simp
      · simp [hb]
    rw [h0]; rfl

theorem cl_bit {p l : Int} (hl : 0 ≤ l ∧ l ≤ 32) (i : Nat) (hi : i < 32) : (bv (cl p l)).getLsbD i = ((bv p).getLsbD i && decide (32 - l.toNat ≤ i)) := by
  unfold cl
  rw [bits_and, bv_nat, BitVec.getLsbD_and]
  have hm := msk_bit ⟨l.toNat, by omega⟩ ⟨i, hi⟩
  rw [show ((⟨l.toNat, by omega⟩ : Fin 33).val : Int) = l from by simp; omega] at hm
  simp only at hm
  rw [hm]

theorem cl_range (p l : Int) : 0 ≤ cl p l ∧ cl p l < 4294967296 := by
  unfold cl; rw [bits_and]; have := (bv p &&& bv (msk l)).isLt; omega

theorem cv_iff {p l q m : Int} : cv p l q m = true ↔ (0 ≤ l ∧ l ≤ m ∧ m ≤ 32) ∧ ∀ i, i < 32 → 32 - l.toNat ≤ i → (bv p).getLsbD i = (bv q).getLsbD i := by
  unfold cv
  simp only [Bool.and_eq_true, vld_iff, decide_eq_true_eq, ct_iff]
  constructor
  · rintro ⟨⟨⟨a, b⟩, c⟩, ⟨d, e⟩, f⟩; exact ⟨⟨d, c, b⟩, f⟩
  · rintro ⟨⟨d, c, b⟩, f⟩; exact ⟨⟨⟨by omega, b⟩, c⟩, ⟨d, by omega⟩, f⟩

theorem cv_self (p l : Int) : cv p l p l = vld l := by
  rw [Bool.eq_iff_iff, cv_iff, vld_iff]
  exact ⟨fun h => ⟨h.1.1, h.1.2.2⟩, fun h => ⟨⟨h.1, Int.le_refl _, h.2⟩, fun _ _ _ => rfl⟩⟩

theorem cv_whole (p l x : Int) : cv p l x 32 = ct p l x := by
  rw [Bool.eq_iff_iff, cv_iff, ct_iff]
  exact ⟨fun h => ⟨⟨h.1.1, h.1.2.1⟩, h.2⟩, fun h => ⟨⟨h.1.1, h.1.2, by omega⟩, h.2⟩⟩

theorem cv_trans {p l q m r n : Int} (h1 : cv p l q m = true) (h2 : cv q m r n = true) : cv p l r n = true := by
  rw [cv_iff] at *
  refine ⟨⟨h1.1.1, by omega, h2.1.2.2⟩, fun i hi hb => ?_⟩
  rw [h1.2 i hi hb, h2.2 i hi (by omega)]

theorem ct_trans {p l q m x : Int} (h1 : cv p l q m = true) (h2 : ct q m x = true) : ct p l x = true := by
  rw [cv_iff] at h1
  rw [ct_iff] at *
  refine ⟨⟨h1.1.1, by omega⟩, fun i hi hb => ?_⟩
  rw [h1.2 i hi hb, h2.2 i hi (by omega)]

theorem cv_vld {p l q m : Int} (h : cv p l q m = true) : vld l = true ∧ vld m = true := by
  rw [cv_iff] at h; rw [vld_iff, vld_iff]; omega

/-- Each covers the other exactly if they are the same without host bits. -/
theorem cv_both {p l q m : Int} (hl : vld l = true) (hm : vld m = true) : (cv p l q m && cv q m p l) = ((cl p l == cl q m) && (l == m)) := by
  rw [vld_iff] at hl hm
  rw [Bool.eq_iff_iff, Bool.and_eq_true, Bool.and_eq_true, cv_iff, cv_iff, beq_iff_eq, beq_iff_eq]
  constructor
  · rintro ⟨h1, h2⟩
    obtain rfl : l = m := by omega
    refine ⟨bv_inj (cl_range _ _) (cl_range _ _) ?_, rfl⟩
    apply BitVec.eq_of_getLsbD_eq
    intro i hi
    rw [cl_bit hl i hi, cl_bit hl i hi]
    by_cases hb : 32 - l.toNat ≤ i
    · rw [h1.2 i hi hb]
    · simp [hb]
  · rintro ⟨h1, rfl⟩
    have h2 : ∀ i, i < 32 → 32 - l.toNat ≤ i → (bv p).getLsbD i = (bv q).getLsbD i := fun i hi hb => by
      have := congrArg (fun x => (bv x).getLsbD i) h1
      simp only [cl_bit hl i hi] at this
      simpa [hb] using this
    exact ⟨⟨⟨hl.1, Int.le_refl _, hl.2⟩, h2⟩, ⟨hl.1, Int.le_refl _, hl.2⟩, fun i hi hb => (h2 i hi hb).symm⟩

theorem cl_cl {p l : Int} (hl : vld l = true) : cl (cl p l) l = cl p l := by
  rw [vld_iff] at hl
  refine bv_inj (cl_range _ _) (cl_range _ _) ?_
  apply BitVec.eq_of_getLsbD_eq
  intro i hi
  rw [cl_bit hl i hi, cl_bit hl i hi]
  simp

theorem cv_cl {p l : Int} (hl : vld l = true) : cv (cl p l) l p l = true ∧ cv p l (cl p l) l = true := by
  rw [vld_iff] at hl
  rw [cv_iff, cv_iff]
  refine ⟨⟨⟨hl.1, Int.le_refl _, hl.2⟩, fun i hi hb => ?_⟩, ⟨hl.1, Int.le_refl _, hl.2⟩, fun i hi hb => ?_⟩
  · rw [cl_bit hl i hi]; simp [hb]
  · rw [cl_bit hl i hi]; simp [hb]

end Go.Proofs.Ythhajknmokomjaa

namespace Go.Proofs.Ythhajknmokomjaa
open Go.ChangeShapes Go.WideShapes Go.ChangeAt Go.RowKit

/-- The world has new blocks at most: what was there is as it was. -/
structure G (w w' : World) : Prop where
  below : Below w.heap.size w w'
  frozen : ∀ a, w'.frozen? a = w.frozen? a

theorem G.refl (w : World) : G w w := ⟨Below.refl _ _, fun _ => rfl⟩
theorem G.trans {a b c : World} (h : G a b) (k : G b c) : G a c :=
  ⟨h.below.trans (k.below.mono h.below.size), fun x => (k.frozen x).trans (h.frozen x)⟩
theorem G.alloc {a b : World} (h : G a b) (c : Array Value) (t : TypeId) : G a (b.alloc (.cells c t)) :=
  ⟨h.below.alloc h.below.size _, fun x => (frozen?_alloc_cells _ _ _ x).trans (h.frozen x)⟩
theorem G.drew {a b : World} (h : G a b) : G a b.drew := ⟨h.below.drew, h.frozen⟩
theorem G.drewN {a b : World} (h : G a b) (n : Nat) : G a (b.drewN n) := ⟨⟨h.below.os, h.below.tape, h.below.output, h.below.size, h.below.block⟩, h.frozen⟩
theorem G.grown {a b : World} (h : G a b) : Grown a b := ⟨h.below.frame _, h.frozen, h.below.size⟩
theorem G.cells {a b : World} (h : G a b) : ∀ (k o : Nat), k < a.heap.size → b.cell? ⟨k, o, none⟩ = a.cell? ⟨k, o, none⟩ := fun k o hk => h.below.cell (p := ⟨k, o, none⟩) hk

/-- A prefix as a value and as a block. -/
abbrev pfx (p l : Int) : Value := .agg #[.int .u32 p, .int .i64 l]
abbrev pfxb (p l : Int) : Obj := .cells #[.int .u32 p, .int .i64 l] 29

theorem shift_mask : ∀ k : Fin 33, (4294967295 * 2 ^ (32 - (k.val : Int)).toNat % 4294967296 : Int) = msk k.val := by decide +kernel

theorem mask_any (n : Int) (w : World) (h0 : 0 ≤ n) (h1 : n ≤ 32) :
    Calls Try.prog 50 #[.int .i64 n] w fun e w' => e = .returned (.int .u32 (msk n)) ∧ w = w' := by
  go_enter Try.func50, Try.ntmps50
  go_wp2
  go_ret
  refine ⟨?_, rfl⟩
  have h := shift_mask ⟨n.toNat, by omega⟩
  rw [show ((⟨n.toNat, by omega⟩ : Fin 33).val : Int) = n from by simp; omega] at h
  simpa using h

theorem isPrefix_b (p l : Int) (b : Bool) (hb : vld l = b) (w : World) :
    Calls Try.prog 49 #[pfx p l] w fun e w' => e = .returned (.bool b) ∧ w.alloc (pfxb p l) = w' := by
  by_cases h0 : 0 ≤ l
  · by_cases h1 : l ≤ 32
    · obtain rfl : true = b := by rw [← hb]; simp [vld]; omega
      clear hb
      go_enter Try.func49, Try.ntmps49
      go_wp2
      go_ret
      exact ⟨rfl, rfl⟩
    · obtain rfl : false = b := by rw [← hb]; simp [vld]; omega
      clear hb
      have hd : decide (l ≤ 32) = false := by simp; omega
      go_enter Try.func49, Try.ntmps49
      go_wp2
      go_ret
      exact ⟨rfl, rfl⟩
  · obtain rfl : false = b := by rw [← hb]; simp [vld]; omega
    clear hb
    have hd : decide (0 ≤ l) = false := by simp; omega
    go_enter Try.func49, Try.ntmps49
    go_wp2
    go_ret
    exact ⟨rfl, rfl⟩

theorem ct_no {p l x : Int} (h : vld l = false) : ct p l x = false := by unfold ct; rw [h]; rfl

theorem clean_no (p l : Int) (hv : vld l = false) (w : World) :
    Calls Try.prog 28 #[pfx p l] w fun e w' => e = .returned (.tuple #[pfx 0 0, .int .i64 2]) ∧ G w w' := by
  have HV := Lib.hid hv
  clear hv
  go_enter Try.func28, Try.ntmps28
  go_wp2_with (go_at_call 49; refine (isPrefix_b _ _ _ HV.out _).mono ?_; rintro e w' ⟨rfl, rfl⟩)
  refine bodyPost_ret (v := .tuple #[pfx 0 0, .int .i64 2]) (by simp [results, Try.results28, go_sem]) rfl ⟨rfl, ?_⟩
  exact (((G.refl w).alloc _ _).alloc _ _).alloc _ _

theorem clean_yes (p l : Int) (hv : vld l = true) (w : World) :
    Calls Try.prog 28 #[pfx p l] w fun e w' => e = .returned (.tuple #[pfx (cl p l) l, .int .i64 0]) ∧ G w w' := by
  have hl := vld_iff.1 hv
  obtain ⟨hl0, hl1⟩ := hl
  have HV := Lib.hid hv
  clear hv
  go_enter Try.func28, Try.ntmps28
  go_wp2_with (go_at_call 49; refine (isPrefix_b _ _ _ HV.out _).mono ?_; rintro e w' ⟨rfl, rfl⟩)
  refine wp_region_held_drew (S := fun W => G (w.alloc (pfxb p l)) W) (by kernel_rfl) ((((G.refl _).alloc _ _).alloc _ _).drew) (fun hHeld => ?_)
  refine wpAnyH_take (i := 0) (oi := { dst := some 8, op := Go.Op.fieldAddr 29 (Go.Operand.tmp 1) 0, type := 0, pos := "addr.go:75", after := #[], guard := none }) (v := ?_) rfl (by kernel_rfl) (by kernel_rfl) (by kernel_rfl) (fun _ _ _ h => h) (Or.inl ⟨by rfl, ?_⟩) (by assumption) ?_
  rotate_left
  · intro w hSw
    try dsimp only at hSw
    have hc := hSw.cells
    go_simp
    try with_reducible rfl
  try simp only [Act.put, List.setIfInBounds_toArray, List.set_cons_zero, List.set_cons_succ]
  refine wpAnyH_take (i := 1) (oi := { dst := some 9, op := Go.Op.load 27 (Go.Operand.tmp 8), type := 27, pos := "addr.go:75", after := #[{ on := 0, ground := Go.Ground.data }], guard := none }) (v := ?_) rfl (by kernel_rfl) (by kernel_rfl) (by kernel_rfl) (fun _ _ _ h => h) (Or.inl ⟨by rfl, ?_⟩) (by assumption) ?_
  rotate_left
  · intro w hSw
    try dsimp only at hSw
    have hc := hSw.cells
    go_simp
    try with_reducible rfl
  try simp only [Act.put, List.setIfInBounds_toArray, List.set_cons_zero, List.set_cons_succ]
  refine wpAnyH_take (i := 2) (oi := { dst := some 10, op := Go.Op.fieldAddr 29 (Go.Operand.tmp 1) 1, type := 0, pos := "addr.go:75", after := #[], guard := none }) (v := ?_) rfl (by kernel_rfl) (by kernel_rfl) (by kernel_rfl) (fun _ _ _ h => h) (Or.inl ⟨by rfl, ?_⟩) (by assumption) ?_
  rotate_left
  · intro w hSw
    try dsimp only at hSw
    have hc := hSw.cells
    go_simp
    try with_reducible rfl
  try simp only [Act.put, List.setIfInBounds_toArray, List.set_cons_zero, List.set_cons_succ]
  refine wpAnyH_take (i := 3) (oi := { dst := some 11, op := Go.Op.load 3 (Go.Operand.tmp 10), type := 3, pos := "addr.go:75", after := #[{ on := 2, ground := Go.Ground.data }], guard := none }) (v := ?_) rfl (by kernel_rfl) (by kernel_rfl) (by kernel_rfl) (fun _ _ _ h => h) (Or.inl ⟨by rfl, ?_⟩) (by assumption) ?_
  rotate_left
  · intro w hSw
    try dsimp only at hSw
    have hc := hSw.cells
    go_simp
    try with_reducible rfl
  try simp only [Act.put, List.setIfInBounds_toArray, List.set_cons_zero, List.set_cons_succ]
  refine wpAnyH_take (i := 6) (oi := { dst := some 14, op := Go.Op.fieldAddr 29 (Go.Operand.tmp 1) 1, type := 0, pos := "addr.go:75", after := #[], guard := none }) (v := ?_) rfl (by kernel_rfl) (by kernel_rfl) (by kernel_rfl) (fun _ _ _ h => h) (Or.inl ⟨by rfl, ?_⟩) (by assumption) ?_
  rotate_left
  · intro w hSw
    try dsimp only at hSw
    have hc := hSw.cells
    go_simp
    try with_reducible rfl
  try simp only [Act.put, List.setIfInBounds_toArray, List.set_cons_zero, List.set_cons_succ]
  refine wpAnyH_take (i := 7) (oi := { dst := some 15, op := Go.Op.load 3 (Go.Operand.tmp 14), type := 3, pos := "addr.go:75", after := #[{ on := 6, ground := Go.Ground.data }], guard := none }) (v := ?_) rfl (by kernel_rfl) (by kernel_rfl) (by kernel_rfl) (fun _ _ _ h => h) (Or.inl ⟨by rfl, ?_⟩) (by assumption) ?_
  rotate_left
  · intro w hSw
    try dsimp only at hSw
    have hc := hSw.cells
    go_simp
    try with_reducible rfl
  try simp only [Act.put, List.setIfInBounds_toArray, List.set_cons_zero, List.set_cons_succ]
  refine wpAnyH_ready (rs := [4]) (by kernel_rfl) (by simp) ?_
  refine AllReadyH.cons (o := { dst := some 12, op := Go.Op.call { callee := Go.Callee.value (Go.Operand.func 50), args := #[Go.Operand.tmp 11], argTypes := #[3] }, type := 27, pos := "addr.go:75", after := #[{ on := 3, ground := Go.Ground.data }], guard := none }) rfl (fun K hK => ?_) AllReadyH.nil
  go_simp
  refine (mask_any _ _ (by omega) (by omega)).mono ?_
  rintro e w' ⟨rfl, rfl⟩
  dsimp only
  refine hK.out _ _ ?_ (fun hHeld => ?_)
  · exact hHeld
  clear hK K
  try simp only [Act.put, List.setIfInBounds_toArray, List.set_cons_zero, List.set_cons_succ]
  refine wpAnyH_take (i := 5) (oi := { dst := some 13, op := Go.Op.binOp Go.BinOp.and 27 (Go.Operand.tmp 9) (Go.Operand.tmp 12) 27, type := 27, pos := "addr.go:75", after := #[{ on := 1, ground := Go.Ground.data }, { on := 4, ground := Go.Ground.data }], guard := none }) (v := ?_) rfl (by kernel_rfl) (by kernel_rfl) (by kernel_rfl) (fun _ _ _ h => h) (Or.inl ⟨by rfl, ?_⟩) (by assumption) ?_
  rotate_left
  · intro w hSw
    try dsimp only at hSw
    have hc := hSw.cells
    go_simp
    try with_reducible rfl
  try simp only [Act.put, List.setIfInBounds_toArray, List.set_cons_zero, List.set_cons_succ]
  refine wpAnyH_take (i := 8) (oi := { dst := some 16, op := Go.Op.build 29 #[(0, Go.Operand.tmp 13), (1, Go.Operand.tmp 15)], type := 29, pos := "addr.go:75", after := #[{ on := 5, ground := Go.Ground.data }, { on := 7, ground := Go.Ground.data }], guard := none }) (v := ?_) rfl (by kernel_rfl) (by kernel_rfl) (by kernel_rfl) (fun _ _ _ h => h) (Or.inl ⟨by rfl, ?_⟩) (by assumption) ?_
  rotate_left
  · intro w hSw
    try dsimp only at hSw
    have hc := hSw.cells
    go_simp
    try with_reducible rfl
  try simp only [Act.put, List.setIfInBounds_toArray, List.set_cons_zero, List.set_cons_succ]
  refine wpAnyH_ready (rs := [9]) (by kernel_rfl) (by simp) ?_
  refine AllReadyH.cons (o := { dst := none, op := Go.Op.store 29 (Go.Operand.tmp 2) (Go.Operand.tmp 16), type := 0, pos := "addr.go:75", after := #[{ on := 8, ground := Go.Ground.data }, { on := 4, ground := Go.Ground.chain }, { on := 0, ground := Go.Ground.phase }, { on := 1, ground := Go.Ground.phase }, { on := 2, ground := Go.Ground.phase }, { on := 3, ground := Go.Ground.phase }, { on := 4, ground := Go.Ground.phase }, { on := 5, ground := Go.Ground.phase }, { on := 6, ground := Go.Ground.phase }, { on := 7, ground := Go.Ground.phase }, { on := 8, ground := Go.Ground.phase }], guard := none }) rfl (fun K hK => ?_) AllReadyH.nil
  go_simp
  skip
  refine hK.out _ _ ?_ (fun hHeld => ?_)
  · exact (((G.refl _).alloc _ _).alloc _ _).drew
  clear hK K
  try simp only [Act.put, List.setIfInBounds_toArray, List.set_cons_zero, List.set_cons_succ]
  refine wpAnyH_take (i := 10) (oi := { dst := some 3, op := Go.Op.assign (Go.Operand.const (Go.Value.int Go.IntKind.i64 0)), type := 35, pos := "addr.go:75", after := #[{ on := 9, ground := Go.Ground.chain }, { on := 0, ground := Go.Ground.phase }, { on := 1, ground := Go.Ground.phase }, { on := 2, ground := Go.Ground.phase }, { on := 3, ground := Go.Ground.phase }, { on := 4, ground := Go.Ground.phase }, { on := 5, ground := Go.Ground.phase }, { on := 6, ground := Go.Ground.phase }, { on := 7, ground := Go.Ground.phase }, { on := 8, ground := Go.Ground.phase }, { on := 9, ground := Go.Ground.phase }], guard := none }) (v := ?_) rfl (by kernel_rfl) (by kernel_rfl) (by kernel_rfl) (fun _ _ _ h => h) (Or.inl ⟨by rfl, ?_⟩) (by assumption) ?_
  rotate_left
  · intro w hSw
    try dsimp only at hSw
    have hc := hSw.cells
    go_simp
    try with_reducible rfl
  try simp only [Act.put, List.setIfInBounds_toArray, List.set_cons_zero, List.set_cons_succ]
  refine wpAnyH_done (by kernel_rfl) ?_ _
  go_wp2
  refine bodyPost_ret (v := .tuple #[pfx (cl p l) l, .int .i64 0]) (by simp [results, Try.results28, go_sem, cl]) rfl ⟨rfl, ?_⟩
  exact ((((G.refl w).alloc _ _).alloc _ _).alloc _ _).drew

end Go.Proofs.Ythhajknmokomjaa

namespace Go.Proofs.Ythhajknmokomjaa
open Go.RowKit Go.Shelf

attribute [local go_sem] Oper.semAt_some

/-- The ten bytes of an identifier, as a value and as a block. -/
abbrev esi (a b c d e f g h i j : Int) : Value := .agg #[.int .u8 a, .int .u8 b, .int .u8 c, .int .u8 d, .int .u8 e, .int .u8 f, .int .u8 g, .int .u8 h, .int .u8 i, .int .u8 j]
abbrev esib (a b c d e f g h i j : Int) : Obj := .cells #[.int .u8 a, .int .u8 b, .int .u8 c, .int .u8 d, .int .u8 e, .int .u8 f, .int .u8 g, .int .u8 h, .int .u8 i, .int .u8 j] 24

/-- The positions that have come when k rounds are over. -/
def first (k : Nat) : List (Fin 10) := (List.finRange 10).take k
theorem first_succ (k : Nat) (h : k < 10) : first (k + 1) = first k ++ [⟨k, h⟩] := by
  unfold first
  rw [List.take_succ_eq_append_getElem (by simpa using h)]
  simp
theorem first_length (k : Nat) (h : k ≤ 10) : (first k).length = k := by simp [first]; omega
theorem first_zero : first 0 = [] := rfl

/-- The byte at a position. -/
def byteAt (l : List Int) (k : Nat) : Int := l[k]?.getD 0

/-- What a round is handed: the position and the byte there. -/
def oct (zs : List Int) : Fin 10 → Array Value := fun k => #[.int .i64 (k.val : Int), .int .u8 (byteAt zs k.val)]

theorem octets_in (F : Fence) (n : Nat) (h25 : F.fn 55) (hro : F.round = none) (a b c d e f g h i j : Int) (w : World) :
    CallsIn F n Try.prog 55 #[esi a b c d e f g h i j] w fun en w' => en = .returned (.func (.func 68) #[] #[.pointer (some ⟨w.heap.size, 0, none⟩)]) ∧ w' = w.alloc (esib a b c d e f g h i j) := by
  refine callsIn_of_wp Try.func55 rfl h25 ?_ hro
  simp only [Try.ntmps55, List.size_toArray, List.length_cons, List.length_nil, Nat.reduceAdd, Nat.reduceSub, Array.replicate_succ, Array.replicate_zero, List.push_toArray, List.append_toArray, List.nil_append, List.cons_append]
  gi_wp2
  go_ret
  exact ⟨rfl, rfl⟩

theorem esi_index (a b c d e f g h i j : Int) (k : Nat) (hk : k < 10) (w : World) :
    (Instr.index 24 (esi a b c d e f g h i j) (.int .i64 (k : Int))).run Try.prog w = .ok (.int .u8 (byteAt [a, b, c, d, e, f, g, h, i, j] k)) w := by
  have q0 : (Instr.index 24 (esi a b c d e f g h i j) (.int .i64 0)).run Try.prog w = .ok (.int .u8 a) w := by kernel_rfl
  have q1 : (Instr.index 24 (esi a b c d e f g h i j) (.int .i64 1)).run Try.prog w = .ok (.int .u8 b) w := by kernel_rfl
  have q2 : (Instr.index 24 (esi a b c d e f g h i j) (.int .i64 2)).run Try.prog w = .ok (.int .u8 c) w := by kernel_rfl
  have q3 : (Instr.index 24 (esi a b c d e f g h i j) (.int .i64 3)).run Try.prog w = .ok (.int .u8 d) w := by kernel_rfl
  have q4 : (Instr.index 24 (esi a b c d e f g h i j) (.int .i64 4)).run Try.prog w = .ok (.int .u8 e) w := by kernel_rfl
  have q5 : (Instr.index 24 (esi a b c d e f g h i j) (.int .i64 5)).run Try.prog w = .ok (.int .u8 f) w := by kernel_rfl
  have q6 : (Instr.index 24 (esi a b c d e f g h i j) (.int .i64 6)).run Try.prog w = .ok (.int .u8 g) w := by kernel_rfl
  have q7 : (Instr.index 24 (esi a b c d e f g h i j) (.int .i64 7)).run Try.prog w = .ok (.int .u8 h) w := by kernel_rfl
  have q8 : (Instr.index 24 (esi a b c d e f g h i j) (.int .i64 8)).run Try.prog w = .ok (.int .u8 i) w := by kernel_rfl
  have q9 : (Instr.index 24 (esi a b c d e f g h i j) (.int .i64 9)).run Try.prog w = .ok (.int .u8 j) w := by kernel_rfl
  have h10 : k = 0 ∨ k = 1 ∨ k = 2 ∨ k = 3 ∨ k = 4 ∨ k = 5 ∨ k = 6 ∨ k = 7 ∨ k = 8 ∨ k = 9 := by omega
  rcases h10 with rfl | rfl | rfl | rfl | rfl | rfl | rfl | rfl | rfl | rfl
  · exact q0
  · exact q1
  · exact q2
  · exact q3
  · exact q4
  · exact q5
  · exact q6
  · exact q7
  · exact q8
  · exact q9

set_option maxRecDepth 100000 in
set_option maxHeartbeats 2000000 in
theorem octets1_in (F : Fence) (n : Nat) (h30 : F.fn 68) (hro : F.round = none) (hn : 1 ≤ n) (l Bs : Nat) (Kp : World → World → Prop) (a b c d e f g h i j : Int) (J Jx : List (Fin 10) → World → Prop)
    (hY : ∀ pre x W, J pre W → pre.length < 10 → YieldAt F (n - 1) Try.prog l (oct [a, b, c, d, e, f, g, h, i, j] x) W fun e W' =>
      (e = .returned (.bool true) ∧ J (pre ++ [x]) W' ∧ Kp W W') ∨ (e = .returned (.bool false) ∧ Jx (pre ++ [x]) W'))
    (W : World) (hc0 : W.cell? ⟨Bs, 0, none⟩ = some (.int .u8 a)) (hc1 : W.cell? ⟨Bs, 1, none⟩ = some (.int .u8 b)) (hc2 : W.cell? ⟨Bs, 2, none⟩ = some (.int .u8 c)) (hc3 : W.cell? ⟨Bs, 3, none⟩ = some (.int .u8 d))
    (hc4 : W.cell? ⟨Bs, 4, none⟩ = some (.int .u8 e)) (hc5 : W.cell? ⟨Bs, 5, none⟩ = some (.int .u8 f)) (hc6 : W.cell? ⟨Bs, 6, none⟩ = some (.int .u8 g)) (hc7 : W.cell? ⟨Bs, 7, none⟩ = some (.int .u8 h))
    (hc8 : W.cell? ⟨Bs, 8, none⟩ = some (.int .u8 i)) (hc9 : W.cell? ⟨Bs, 9, none⟩ = some (.int .u8 j)) (h0 : J [] W) :
    CallsIn F n Try.prog 68 #[.func (.yield l) #[] #[], .pointer (some ⟨Bs, 0, none⟩)] W fun en W' => (∃ v, en = .returned v) ∧
      ((∃ ys, ys = first 10 ∧ J ys W') ∨ (∃ pre, (∃ k, k ≤ 10 ∧ pre = first k) ∧ Jx pre W')) := by
  have hix := esi_index a b c d e f g h i j
  refine callsIn_of_wp Try.func68 rfl h30 ?_ hro
  simp only [Try.ntmps68, List.size_toArray, List.length_cons, List.length_nil, Nat.reduceAdd, Nat.reduceSub, Array.replicate_succ, Array.replicate_zero, List.push_toArray, List.append_toArray, List.nil_append, List.cons_append]
  gi_wp2
  gi_loopw [6] (fun iv wr => ∃ k : Nat, k ≤ 10 ∧ iv = .int .i64 k ∧ J (first k) wr)
    (fun iv _ => 10 - (intOf iv).toNat)
  case atStart => exact ⟨0, Nat.zero_le _, rfl, h0⟩
  case round =>
    obtain ⟨k, hk, rfl, hJs⟩ := hrel
    by_cases hlt : k < 10
    · obtain ⟨fn, tmps, assign, body, hy, hR⟩ := hY _ ⟨k, hlt⟩ wr hJs (by rw [first_length _ hk]; exact hlt)
      dsimp only [oct] at hy
      have hx := hix k hlt
      clear hix
      gi_wp2
      refine hR.mono ?_
      rintro e W3 (⟨rfl, hJ3, hk3⟩ | ⟨rfl, hJx3⟩)
      · gi_wp2
        go_roundw
        case rel => exact ⟨k + 1, by omega, by simp, by rw [first_succ _ hlt]; exact hJ3⟩
        case measure => simp [intOf]; omega
      · gi_wp2
        refine bodyPost_ret (results_none rfl _ _ _) rfl ?_
        exact ⟨⟨_, rfl⟩, .inr ⟨_, ⟨k + 1, by omega, (first_succ _ hlt).symm⟩, hJx3⟩⟩
    · obtain rfl : k = 10 := by omega
      gi_wp2
      go_end0
      exact ⟨⟨_, rfl⟩, .inl ⟨_, rfl, hJs⟩⟩

/-- The iterator, for whatever the rounds keep. -/
theorem octets_stops (F : Fence) (n : Nat) (h30 : F.fn 68) (hro : F.round = none) (hn : 1 ≤ n) (Bs : Nat) (Kp : World → World → Prop) (a b c d e f g h i j : Int) (w : World) (hBs : Bs < w.heap.size)
    (hc0 : w.cell? ⟨Bs, 0, none⟩ = some (.int .u8 a)) (hc1 : w.cell? ⟨Bs, 1, none⟩ = some (.int .u8 b)) (hc2 : w.cell? ⟨Bs, 2, none⟩ = some (.int .u8 c)) (hc3 : w.cell? ⟨Bs, 3, none⟩ = some (.int .u8 d))
    (hc4 : w.cell? ⟨Bs, 4, none⟩ = some (.int .u8 e)) (hc5 : w.cell? ⟨Bs, 5, none⟩ = some (.int .u8 f)) (hc6 : w.cell? ⟨Bs, 6, none⟩ = some (.int .u8 g)) (hc7 : w.cell? ⟨Bs, 7, none⟩ = some (.int .u8 h))
    (hc8 : w.cell? ⟨Bs, 8, none⟩ = some (.int .u8 i)) (hc9 : w.cell? ⟨Bs, 9, none⟩ = some (.int .u8 j)) :
    SeqStopsK F n Try.prog 68 #[.pointer (some ⟨Bs, 0, none⟩)] (oct [a, b, c, d, e, f, g, h, i, j]) Kp (fun ys => ys = first 10) (fun pre => ∃ k, k ≤ 10 ∧ pre = first k) 10 w := fun l J Jx W hW _ _ hY h0 =>
  octets1_in F n h30 hro hn l Bs Kp a b c d e f g h i j J Jx hY W ((hW.cell (p := ⟨Bs, 0, none⟩) hBs).trans hc0) ((hW.cell (p := ⟨Bs, 1, none⟩) hBs).trans hc1) ((hW.cell (p := ⟨Bs, 2, none⟩) hBs).trans hc2)
    ((hW.cell (p := ⟨Bs, 3, none⟩) hBs).trans hc3) ((hW.cell (p := ⟨Bs, 4, none⟩) hBs).trans hc4) ((hW.cell (p := ⟨Bs, 5, none⟩) hBs).trans hc5) ((hW.cell (p := ⟨Bs, 6, none⟩) hBs).trans hc6)
    ((hW.cell (p := ⟨Bs, 7, none⟩) hBs).trans hc7) ((hW.cell (p := ⟨Bs, 8, none⟩) hBs).trans hc8) ((hW.cell (p := ⟨Bs, 9, none⟩) hBs).trans hc9) h0

end Go.Proofs.Ythhajknmokomjaa
