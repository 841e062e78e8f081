/- Plain facts on prefixes: numbers, bits, the orders of package addr. No program. -/
import Derived.WalkKit
namespace Go.Proofs.Ytjachhgcoioohaa
open Go

/-- A number as 32 bits. -/
def bv (x : Int) : BitVec 32 := BitVec.ofInt 32 x

theorem wrap_u32 (n : Nat) (h : n < 4294967296) : IntKind.u32.wrap (n : Int) = n := by
  have e : IntKind.u32.wrap (n : Int) = (n : Int) % 4294967296 := by rfl
  rw [e]; omega

theorem bits_and (x y : Int) : bits BinOp.and .u32 x y = ((bv x &&& bv y).toNat : Int) :=
  wrap_u32 _ (bv x &&& bv y).isLt

theorem bits_xor (x y : Int) : bits BinOp.xor .u32 x y = ((bv x ^^^ bv y).toNat : Int) :=
  wrap_u32 _ (bv x ^^^ bv y).isLt

theorem bv_nat (b : BitVec 32) : bv (b.toNat : Int) = b := by
  unfold bv
  apply BitVec.eq_of_toNat_eq
  simp

/-- The mask of a length. -/
def msk (n : Int) : Int := 4294967296 - 2 ^ (32 - n).toNat

theorem msk_bit : ∀ (n : Fin 33) (i : Fin 32), (bv (msk n.val)).getLsbD i.val = decide (32 - n.val ≤ i.val) := by
  decide +kernel

def vld (l : Int) : Bool := decide (0 ≤ l ∧ l ≤ 32)
def ct (p l x : Int) : Bool := vld l && (bits BinOp.and .u32 (bits BinOp.xor .u32 p x) (msk l) == 0)
def cv (p l q m : Int) : Bool := vld m && decide (l ≤ m) && ct p l q
def cl (p l : Int) : Int := bits BinOp.and .u32 p (msk l)

theorem vld_iff {l : Int} : vld l = true ↔ 0 ≤ l ∧ l ≤ 32 := by simp [vld]

theorem bv_inj {x y : Int} (hx : 0 ≤ x ∧ x < 4294967296) (hy : 0 ≤ y ∧ y < 4294967296) (h : bv x = bv y) : x = y := by
  have := congrArg BitVec.toNat h
  simp [bv, BitVec.toNat_ofInt] at this
  omega

theorem ct_iff {p l x : Int} : ct p l x = true ↔ (0 ≤ l ∧ l ≤ 32) ∧ ∀ i, i < 32 → 32 - l.toNat ≤ i → (bv p).getLsbD i = (bv x).getLsbD i := by
  unfold ct
  rw [Bool.and_eq_true, vld_iff, bits_and, bits_xor, bv_nat, beq_iff_eq]
  constructor
  · rintro ⟨hl, h⟩
    refine ⟨hl, fun i hi hb => ?_⟩
    have h0 : ((bv p ^^^ bv x) &&& bv (msk l)) = 0#32 := by
      apply BitVec.eq_of_toNat_eq; simp at h ⊢; omega
    have hm := msk_bit ⟨l.toNat, by omega⟩ ⟨i, hi⟩
    have h1 := congrArg (fun b => b.getLsbD i) h0
    simp only [BitVec.getLsbD_and, BitVec.getLsbD_xor, BitVec.getLsbD_zero] at h1
    rw [show ((⟨l.toNat, by omega⟩ : Fin 33).val : Int) = l from by simp; omega] at hm
    simp only at hm
    rw [hm, decide_eq_true hb, Bool.and_true] at h1
    revert h1
    cases (bv p).getLsbD i <;> cases (bv x).getLsbD i <;> simp
  · rintro ⟨hl, h⟩
    refine ⟨hl, ?_⟩
    have h0 : ((bv p ^^^ bv x) &&& bv (msk l)) = 0#32 := by
      apply BitVec.eq_of_getLsbD_eq
      intro i hi
      have hm := msk_bit ⟨l.toNat, by omega⟩ ⟨i, hi⟩
      rw [show ((⟨l.toNat, by omega⟩ : Fin 33).val : Int) = l from by simp; omega] at hm
      simp only at hm
      simp only [BitVec.getLsbD_and, BitVec.getLsbD_xor, BitVec.getLsbD_zero, hm]
      by_cases hb : 32 - l.toNat ≤ i
      · rw [h i hi hb]; simp
      · simp [hb]
    rw [h0]; rfl

theorem cl_bit {p l : Int} (hl : 0 ≤ l ∧ l ≤ 32) (i : Nat) (hi : i < 32) : (bv (cl p l)).getLsbD i = ((bv p).getLsbD i && decide (32 - l.toNat ≤ i)) := by
  unfold cl
  rw [bits_and, bv_nat, BitVec.getLsbD_and]
  have hm := msk_bit ⟨l.toNat, by omega⟩ ⟨i, hi⟩
  rw [show ((⟨l.toNat, by omega⟩ : Fin 33).val : Int) = l from by simp; omega] at hm
  simp only at hm
  rw [hm]

theorem cl_range (p l : Int) : 0 ≤ cl p l ∧ cl p l < 4294967296 := by
  unfold cl; rw [bits_and]; have := (bv p &&& bv (msk l)).isLt; omega

theorem cv_iff {p l q m : Int} : cv p l q m = true ↔ (0 ≤ l ∧ l ≤ m ∧ m ≤ 32) ∧ ∀ i, i < 32 → 32 - l.toNat ≤ i → (bv p).getLsbD i = (bv q).getLsbD i := by
  unfold cv
  simp only [Bool.and_eq_true, vld_iff, decide_eq_true_eq, ct_iff]
  constructor
  · rintro ⟨⟨⟨a, b⟩, c⟩, ⟨d, e⟩, f⟩; exact ⟨⟨d, c, b⟩, f⟩
  · rintro ⟨⟨d, c, b⟩, f⟩; exact ⟨⟨⟨by omega, b⟩, c⟩, ⟨d, by omega⟩, f⟩

theorem cv_self (p l : Int) : cv p l p l = vld l := by
  rw [Bool.eq_iff_iff, cv_iff, vld_iff]
  exact ⟨fun h => ⟨h.1.1, h.1.2.2⟩, fun h => ⟨⟨h.1, Int.le_refl _, h.2⟩, fun _ _ _ => rfl⟩⟩

theorem cv_whole (p l x : Int) : cv p l x 32 = ct p l x := by
  rw [Bool.eq_iff_iff, cv_iff, ct_iff]
  exact ⟨fun h => ⟨⟨h.1.1, h.1.2.1⟩, h.2⟩, fun h => ⟨⟨h.1.1, h.1.2, by omega⟩, h.2⟩⟩

theorem cv_trans {p l q m r n : Int} (h1 : cv p l q m = true) (h2 : cv q m r n = true) : cv p l r n = true := by
  rw [cv_iff] at *
  refine ⟨⟨h1.1.1, by omega, h2.1.2.2⟩, fun i hi hb => ?_⟩
  rw [h1.2 i hi hb, h2.2 i hi (by omega)]

theorem ct_trans {p l q m x : Int} (h1 : cv p l q m = true) (h2 : ct q m x = true) : ct p l x = true := by
  rw [cv_iff] at h1
  rw [ct_iff] at *
  refine ⟨⟨h1.1.1, by omega⟩, fun i hi hb => ?_⟩
  rw [h1.2 i hi hb, h2.2 i hi (by omega)]

theorem cv_vld {p l q m : Int} (h : cv p l q m = true) : vld l = true ∧ vld m = true := by
  rw [cv_iff] at h; rw [vld_iff, vld_iff]; omega

/-- Each covers the other exactly if they are the same without host bits. -/
theorem cv_both {p l q m : Int} (hl : vld l = true) (hm : vld m = true) : (cv p l q m && cv q m p l) = ((cl p l == cl q m) && (l == m)) := by
  rw [vld_iff] at hl hm
  rw [Bool.eq_iff_iff, Bool.and_eq_true, Bool.and_eq_true, cv_iff, cv_iff, beq_iff_eq, beq_iff_eq]
  constructor
  · rintro ⟨h1, h2⟩
    obtain rfl : l = m := by omega
    refine ⟨bv_inj (cl_range _ _) (cl_range _ _) ?_, rfl⟩
    apply BitVec.eq_of_getLsbD_eq
    intro i hi
    rw [cl_bit hl i hi, cl_bit hl i hi]
    by_cases hb : 32 - l.toNat ≤ i
    · rw [h1.2 i hi hb]
    · simp [hb]
  · rintro ⟨h1, rfl⟩
    have h2 : ∀ i, i < 32 → 32 - l.toNat ≤ i → (bv p).getLsbD i = (bv q).getLsbD i := fun i hi hb => by
      have := congrArg (fun x => (bv x).getLsbD i) h1
      simp only [cl_bit hl i hi] at this
      simpa [hb] using this
    exact ⟨⟨⟨hl.1, Int.le_refl _, hl.2⟩, h2⟩, ⟨hl.1, Int.le_refl _, hl.2⟩, fun i hi hb => (h2 i hi hb).symm⟩

theorem cl_cl {p l : Int} (hl : vld l = true) : cl (cl p l) l = cl p l := by
  rw [vld_iff] at hl
  refine bv_inj (cl_range _ _) (cl_range _ _) ?_
  apply BitVec.eq_of_getLsbD_eq
  intro i hi
  rw [cl_bit hl i hi, cl_bit hl i hi]
  simp

theorem cv_cl {p l : Int} (hl : vld l = true) : cv (cl p l) l p l = true ∧ cv p l (cl p l) l = true := by
  rw [vld_iff] at hl
  rw [cv_iff, cv_iff]
  refine ⟨⟨⟨hl.1, Int.le_refl _, hl.2⟩, fun i hi hb => ?_⟩, ⟨hl.1, Int.le_refl _, hl.2⟩, fun i hi hb => ?_⟩
  · rw [cl_bit hl i hi]; simp [hb]
  · rw [cl_bit hl i hi]; simp [hb]

end Go.Proofs.Ytjachhgcoioohaa
