/- Graphs: bits; the words for memory; bitsets. -/
import Derived.Test.YtfmjcjkifjndgaaToA
import Derived.Test.YtfmjcjkifjndgaaRdA
import Derived.Deep.MidRow
import Derived.Laws.Shifts
import Derived.Laws.Bits64
import Derived.RegionTactic
import Derived.BigRegion
namespace Go.Proofs.Ytfmjcjkifjndgaa
open Go.RowKit
set_option linter.unusedVariables false
set_option linter.unusedSimpArgs false
set_option maxRecDepth 100000

/-- Bit j of a word. -/
def wb (a : Int) (j : Nat) : Bool := (BitVec.ofInt 64 a).getLsbD j
/-- Two words as a set. -/
structure Bs (a0 a1 : Int) (F : Nat → Bool) : Prop where
  l0 : 0 ≤ a0
  h0 : a0 < 18446744073709551616
  l1 : 0 ≤ a1
  h1 : a1 < 18446744073709551616
  lo : ∀ j, j < 64 → wb a0 j = F j
  hi : ∀ j, j < 64 → wb a1 j = F (64 + j)

theorem wrap_u64n (n : Nat) (h : n < 18446744073709551616) : IntKind.u64.wrap (n : Int) = n := by
  have e : IntKind.u64.wrap (n : Int) = (n : Int) % 18446744073709551616 := by rfl
  rw [e]; omega
theorem bits_or64 (x y : Int) : bits BinOp.or .u64 x y = ((BitVec.ofInt 64 x ||| BitVec.ofInt 64 y).toNat : Int) := wrap_u64n _ (BitVec.ofInt 64 x ||| BitVec.ofInt 64 y).isLt
theorem bits_and64 (x y : Int) : bits BinOp.and .u64 x y = ((BitVec.ofInt 64 x &&& BitVec.ofInt 64 y).toNat : Int) := wrap_u64n _ (BitVec.ofInt 64 x &&& BitVec.ofInt 64 y).isLt
theorem bits_andNot64 (x y : Int) : bits BinOp.andNot .u64 x y = ((BitVec.ofInt 64 x &&& ~~~ BitVec.ofInt 64 y).toNat : Int) := wrap_u64n _ (BitVec.ofInt 64 x &&& ~~~ BitVec.ofInt 64 y).isLt
theorem ofInt_nat (b : BitVec 64) : BitVec.ofInt 64 (b.toNat : Int) = b := by apply BitVec.eq_of_toNat_eq; simp
theorem ofInt_ofNat (n : Nat) : BitVec.ofInt 64 (n : Int) = BitVec.ofNat 64 n := by apply BitVec.eq_of_toNat_eq; simp
/-- The word with one bit. -/
theorem one_bit (j : Nat) (hj : j < 64) : BitVec.ofInt 64 ((2 : Int) ^ j) = BitVec.twoPow 64 j := by
  have : ((2 : Int) ^ j) = ((2 ^ j : Nat) : Int) := by simp
  rw [this, ofInt_ofNat]
  apply BitVec.eq_of_toNat_eq
  rw [BitVec.toNat_twoPow, BitVec.toNat_ofNat]
theorem or_bit (a : Int) (j k : Nat) (hj : j < 64) (hk : k < 64) : wb (bits BinOp.or .u64 a (2 ^ j)) k = (if k = j then true else wb a k) := by
  unfold wb
  rw [bits_or64, ofInt_nat, BitVec.getLsbD_or, one_bit j hj, BitVec.getLsbD_twoPow]
  by_cases h : k = j
  · subst h; simp [hk]
  · have : ¬ j = k := fun e => h e.symm
    simp [h, this]
theorem not_bit (a : Int) (j k : Nat) (hj : j < 64) (hk : k < 64) : wb (bits BinOp.andNot .u64 a (2 ^ j)) k = (if k = j then false else wb a k) := by
  unfold wb
  rw [bits_andNot64, ofInt_nat, BitVec.getLsbD_and, BitVec.getLsbD_not, one_bit j hj, BitVec.getLsbD_twoPow]
  by_cases h : k = j
  · subst h; simp [hk]
  · have : ¬ j = k := fun e => h e.symm
    simp [h, this, hk]
theorem bits_range (op : BinOp) (x y : Int) (h : op = .or ∨ op = .andNot) : 0 ≤ bits op .u64 x y ∧ bits op .u64 x y < 18446744073709551616 := by
  rcases h with rfl | rfl
  · rw [bits_or64]; have := (BitVec.ofInt 64 x ||| BitVec.ofInt 64 y).isLt; omega
  · rw [bits_andNot64]; have := (BitVec.ofInt 64 x &&& ~~~ BitVec.ofInt 64 y).isLt; omega
theorem test_bit (a : Int) (j : Nat) (h0 : 0 ≤ a) (h1 : a < 18446744073709551616) (hj : j < 64) : (bits BinOp.and .u64 (a / 2 ^ j) 1 == 1) = wb a j := by
  obtain ⟨m, rfl⟩ := Int.eq_ofNat_of_zero_le h0
  have hm : m < 2 ^ 64 := by omega
  have e1 : ((m : Int) / 2 ^ j) = ((m / 2 ^ j : Nat) : Int) := by simp
  have hd : m / 2 ^ j < 2 ^ 64 := Nat.lt_of_le_of_lt (Nat.div_le_self _ _) hm
  have e2 := ofInt_ofNat (m / 2 ^ j)
  have e3 : BitVec.ofInt 64 1 = BitVec.ofNat 64 1 := by rfl
  have e4 := ofInt_ofNat m
  rw [e1, bits_and64, e2, e3]
  unfold wb
  rw [e4]
  have e5 : (BitVec.ofNat 64 (m / 2 ^ j) &&& BitVec.ofNat 64 1).toNat = m / 2 ^ j % 2 := by
    rw [BitVec.toNat_and, BitVec.toNat_ofNat, BitVec.toNat_ofNat, Nat.mod_eq_of_lt hd, Nat.mod_eq_of_lt (by omega)]
    exact Nat.and_one_is_mod _
  rw [e5, BitVec.getLsbD_ofNat, Nat.testBit_eq_decide_div_mod_eq]
  simp [hj]
  rw [Bool.eq_iff_iff]
  simp
  omega

theorem Bs.put0 {a0 a1 : Int} {F : Nat → Bool} (h : Bs a0 a1 F) (j : Nat) (hj : j < 64) : Bs (bits BinOp.or .u64 a0 (2 ^ j)) a1 (put F j true) ∧ Bs (bits BinOp.andNot .u64 a0 (2 ^ j)) a1 (put F j false) := by
  refine ⟨⟨(bits_range _ _ _ (.inl rfl)).1, (bits_range _ _ _ (.inl rfl)).2, h.l1, h.h1, fun k hk => ?_, fun k hk => ?_⟩, ⟨(bits_range _ _ _ (.inr rfl)).1, (bits_range _ _ _ (.inr rfl)).2, h.l1, h.h1, fun k hk => ?_, fun k hk => ?_⟩⟩
  · rw [or_bit _ _ _ hj hk, h.lo k hk]; rfl
  · rw [h.hi k hk, put_other (by omega)]
  · rw [not_bit _ _ _ hj hk, h.lo k hk]; rfl
  · rw [h.hi k hk, put_other (by omega)]
theorem Bs.put1 {a0 a1 : Int} {F : Nat → Bool} (h : Bs a0 a1 F) (j : Nat) (hj : j < 64) : Bs a0 (bits BinOp.or .u64 a1 (2 ^ j)) (put F (64 + j) true) ∧ Bs a0 (bits BinOp.andNot .u64 a1 (2 ^ j)) (put F (64 + j) false) := by
  refine ⟨⟨h.l0, h.h0, (bits_range _ _ _ (.inl rfl)).1, (bits_range _ _ _ (.inl rfl)).2, fun k hk => ?_, fun k hk => ?_⟩, ⟨h.l0, h.h0, (bits_range _ _ _ (.inr rfl)).1, (bits_range _ _ _ (.inr rfl)).2, fun k hk => ?_, fun k hk => ?_⟩⟩
  · rw [h.lo k hk, put_other (by omega)]
  · rw [or_bit _ _ _ hj hk, h.hi k hk]
    by_cases e : k = j
    · subst e; rw [put_same]; simp
    · rw [put_other (by omega), if_neg e]
  · rw [h.lo k hk, put_other (by omega)]
  · rw [not_bit _ _ _ hj hk, h.hi k hk]
    by_cases e : k = j
    · subst e; rw [put_same]; simp
    · rw [put_other (by omega), if_neg e]
theorem Bs.none : Bs 0 0 (fun _ => false) := by
  refine ⟨by omega, by omega, by omega, by omega, fun j hj => ?_, fun j hj => ?_⟩ <;> simp [wb]

/-- A set lies at an address. -/
def BsAt (w : World) (b o : Nat) (F : Nat → Bool) : Prop := ∃ a0 a1, w.cell? ⟨b, o, none⟩ = some (.int .u64 a0) ∧ w.cell? ⟨b, o + 1, none⟩ = some (.int .u64 a1) ∧ Bs a0 a1 F

theorem has_any (b o : Nat) (F : Nat → Bool) (i : Nat) (hi : i < 128) (w : World) (H : BsAt w b o F) :
    Calls Try.prog 57 #[.pointer (some ⟨b, o, none⟩), .int .i64 (i : Int)] w fun e w' => e = .returned (.bool (F i)) ∧ w = w' := by
  obtain ⟨a0, a1, c0, c1, hb⟩ := H
  by_cases h : i < 64
  · have hq : (i : Int) / 64 = 0 := by omega
    have hr : (i : Int) % 64 = i := by omega
    have ht := test_bit a0 i hb.l0 hb.h0 h
    have HE : Hid ((bits BinOp.and .u64 (a0 / 2 ^ i) 1 == 1) = F i) := Lib.hid (by rw [ht, hb.lo i h])
    have hmin : min (i : Int).toNat 64 = i := by simp; omega
    clear ht hb
    go_enter Try.func57, Try.ntmps57
    go_wp2
    go_ret
    exact ⟨by rw [← HE.out]; rfl, rfl⟩
  · obtain ⟨j, rfl⟩ : ∃ j, i = 64 + j := ⟨i - 64, by omega⟩
    have hj : j < 64 := by omega
    have hq : ((64 + j : Nat) : Int) / 64 = 1 := by omega
    have hr : ((64 + j : Nat) : Int) % 64 = j := by omega
    have ht := test_bit a1 j hb.l1 hb.h1 hj
    have HE : Hid ((bits BinOp.and .u64 (a1 / 2 ^ j) 1 == 1) = F (64 + j)) := Lib.hid (by rw [ht, hb.hi j hj])
    have hmin : min (j : Int).toNat 64 = j := by simp; omega
    obtain ⟨i, hi9⟩ : ∃ i, 64 + j = i := ⟨_, rfl⟩
    rw [hi9] at hq hr HE hi ⊢
    clear ht hb h hi9
    go_enter Try.func57, Try.ntmps57
    go_wp2
    go_ret
    exact ⟨by rw [← HE.out]; rfl, rfl⟩

theorem set_lo {w : World} {b o : Nat} {t : TypeId} {cs : Array Value} (h : Has w b t cs) {u : Value} (h1 : cs[o + 1]? = some u) (x : Value) (n : Nat) :
    Has ((w.setCell ⟨b, o, none⟩ x).drewN n) b t ((cs.setIfInBounds o x).setIfInBounds (o + 1) u) ∧ Only w b ((w.setCell ⟨b, o, none⟩ x).drewN n) := by
  have e : (cs.setIfInBounds o x).setIfInBounds (o + 1) u = cs.setIfInBounds o x := by
    apply Array.ext
    · simp
    · intro k h3 h4
      have hb : o + 1 < cs.size := (Array.getElem?_eq_some_iff.1 h1).1
      by_cases hk : k = o + 1
      · subst hk
        simp at h4
        have h5 := (Array.getElem?_eq_some_iff.1 h1).2
        simp [Array.getElem_setIfInBounds, hb, h5]
      · rw [Array.getElem_setIfInBounds_ne _ (Ne.symm hk)]
  rw [e]
  exact ⟨h.set_ o x, only_drewN (only_set (only_refl _ _) (p := ⟨b, o, none⟩) (.inl rfl) _) n⟩
theorem set_hi {w : World} {b o : Nat} {t : TypeId} {cs : Array Value} (h : Has w b t cs) {u : Value} (h0 : cs[o]? = some u) (x : Value) (n : Nat) :
    Has ((w.setCell ⟨b, o + 1, none⟩ x).drewN n) b t ((cs.setIfInBounds o u).setIfInBounds (o + 1) x) ∧ Only w b ((w.setCell ⟨b, o + 1, none⟩ x).drewN n) := by
  have e : cs.setIfInBounds o u = cs := by
    apply Array.ext
    · simp
    · intro k h3 h4
      have hb : o < cs.size := (Array.getElem?_eq_some_iff.1 h0).1
      by_cases hk : k = o
      · subst hk
        have h5 := (Array.getElem?_eq_some_iff.1 h0).2
        simp [Array.getElem_setIfInBounds, hb, h5]
      · rw [Array.getElem_setIfInBounds_ne _ (Ne.symm hk)]
  rw [e]
  exact ⟨h.set_ (o + 1) x, only_drewN (only_set (only_refl _ _) (p := ⟨b, o + 1, none⟩) (.inl rfl) _) n⟩

/-- What a put leaves. -/
def PutTo (w : World) (b o : Nat) (t : TypeId) (cs : Array Value) (F : Nat → Bool) (w' : World) : Prop := ∃ x0 x1 : Int, Bs x0 x1 F ∧ Has w' b t ((cs.setIfInBounds o (.int .u64 x0)).setIfInBounds (o + 1) (.int .u64 x1)) ∧ Only w b w'

theorem put_any (b o : Nat) (t : TypeId) (cs : Array Value) (a0 a1 : Int) (F : Nat → Bool) (i : Nat) (up : Bool) (hi : i < 128) (w : World) (hh : Has w b t cs) (h0 : cs[o]? = some (.int .u64 a0)) (h1 : cs[o + 1]? = some (.int .u64 a1)) (hb : Bs a0 a1 F) :
    Calls Try.prog 55 #[.pointer (some ⟨b, o, none⟩), .int .i64 (i : Int), .bool up] w fun e w' => (∃ v, e = .returned v) ∧ PutTo w b o t cs (put F i up) w' := by
  have c0 : w.cell? ⟨b, o, none⟩ = some (.int .u64 a0) := (hh.cell o).trans h0
  have c1 : w.cell? ⟨b, o + 1, none⟩ = some (.int .u64 a1) := (hh.cell (o + 1)).trans h1
  have f0 := hh.free o
  have f1 := hh.free (o + 1)
  by_cases h : i < 64
  · have hq : (i : Int) / 64 = 0 := by omega
    have hr : (i : Int) % 64 = i := by omega
    have hmin : min (i : Int).toNat 64 = i := by simp; omega
    have hpow : IntKind.u64.wrap ((2 : Int) ^ i) = 2 ^ i := by
      have e : ((2 : Int) ^ i) = ((2 ^ i : Nat) : Int) := by simp
      rw [e, wrap_u64n _ (by have := Nat.pow_lt_pow_right (by decide : 1 < 2) h; omega)]
    cases up
    ·
      have HB := Lib.hid (hb.put0 i h).2
      have HL := fun n => Lib.hid (set_lo hh h1 (.int .u64 (bits BinOp.andNot .u64 a0 (2 ^ i))) n)
      clear hb hh h0 h1
      go_enter Try.func55, Try.ntmps55
      go_wp2
      go_region
      all_goals
        go_wp2
        go_end0
        exact ⟨⟨_, rfl⟩, _, _, HB.out, (HL 1).out.1, (HL 1).out.2⟩
    ·
      have HB := Lib.hid (hb.put0 i h).1
      have HL := fun n => Lib.hid (set_lo hh h1 (.int .u64 (bits BinOp.or .u64 a0 (2 ^ i))) n)
      clear hb hh h0 h1
      go_enter Try.func55, Try.ntmps55
      go_wp2
      go_region
      all_goals
        go_wp2
        go_end0
        exact ⟨⟨_, rfl⟩, _, _, HB.out, (HL 1).out.1, (HL 1).out.2⟩
  · obtain ⟨j, rfl⟩ : ∃ j, i = 64 + j := ⟨i - 64, by omega⟩
    have hj : j < 64 := by omega
    have hq : ((64 + j : Nat) : Int) / 64 = 1 := by omega
    have hr : ((64 + j : Nat) : Int) % 64 = j := by omega
    have hmin : min (j : Int).toNat 64 = j := by simp; omega
    have hpow : IntKind.u64.wrap ((2 : Int) ^ j) = 2 ^ j := by
      have e : ((2 : Int) ^ j) = ((2 ^ j : Nat) : Int) := by simp
      rw [e, wrap_u64n _ (by have := Nat.pow_lt_pow_right (by decide : 1 < 2) hj; omega)]
    cases up
    ·
      have HB := Lib.hid (hb.put1 j hj).2
      have HL := fun n => Lib.hid (set_hi hh h0 (.int .u64 (bits BinOp.andNot .u64 a1 (2 ^ j))) n)
      obtain ⟨i, hi9⟩ : ∃ i, 64 + j = i := ⟨_, rfl⟩
      rw [hi9] at hq hr HB hi ⊢
      clear hb hh h0 h1 hi9 h
      go_enter Try.func55, Try.ntmps55
      go_wp2
      go_region
      all_goals
        go_wp2
        go_end0
        exact ⟨⟨_, rfl⟩, _, _, HB.out, (HL 1).out.1, (HL 1).out.2⟩
    ·
      have HB := Lib.hid (hb.put1 j hj).1
      have HL := fun n => Lib.hid (set_hi hh h0 (.int .u64 (bits BinOp.or .u64 a1 (2 ^ j))) n)
      obtain ⟨i, hi9⟩ : ∃ i, 64 + j = i := ⟨_, rfl⟩
      rw [hi9] at hq hr HB hi ⊢
      clear hb hh h0 h1 hi9 h
      go_enter Try.func55, Try.ntmps55
      go_wp2
      go_region
      all_goals
        go_wp2
        go_end0
        exact ⟨⟨_, rfl⟩, _, _, HB.out, (HL 1).out.1, (HL 1).out.2⟩

end Go.Proofs.Ytfmjcjkifjndgaa
