/- Packets: small functions; the checks of the kinds. -/
import Derived.Test.YtgdfpmnbofnjfaaPkA
import Derived.Deep.RegionHeld3
import Derived.Deep.DeepCutAuto
import Derived.Deep.CutBlock
import Derived.Shelf.Abstract
namespace Go.Proofs.Ytgdfpmnbofnjfaa
open Go.RowKit Go.Shelf
set_option linter.unusedVariables false
set_option linter.unusedSimpArgs false
set_option maxRecDepth 100000

/-- The protocols with ports. -/
def pd (n : Int) : Bool := n == 6 || n == 17
def wi (n m : Int) : Bool := decide (0 ≤ n) && decide (n ≤ m)
def big (n : Int) : Bool := decide (281474976710655 < n)

theorem ported_any (n : Int) (w : World) : Calls Try.prog 79 #[.int .i64 n] w fun e w' => e = .returned (.bool (pd n)) ∧ w = w' := by
  go_enter Try.func79, Try.ntmps79
  by_cases h6 : n = 6
  · subst h6
    go_wp2
    go_ret
    exact ⟨rfl, rfl⟩
  by_cases h7 : n = 17
  · subst h7
    go_wp2
    go_ret
    exact ⟨rfl, rfl⟩
  have e6 : (n == 6) = false := by simpa using h6
  have e7 : (n == 17) = false := by simpa using h7
  go_wp2
  go_ret
  exact ⟨by simp [pd, e6, e7], rfl⟩
theorem within_any (n m : Int) (w : World) : Calls Try.prog 122 #[.int .i64 n, .int .i64 m] w fun e w' => e = .returned (.bool (wi n m)) ∧ w = w' := by
  go_enter Try.func122, Try.ntmps122
  by_cases h6 : 0 ≤ n
  · have e6 : decide (0 ≤ n) = true := by simpa using h6
    go_wp2
    go_ret
    exact ⟨by simp [wi, e6], rfl⟩
  have e6 : decide (0 ≤ n) = false := by simpa using h6
  go_wp2
  go_ret
  exact ⟨by simp [wi, e6], rfl⟩

/-- The bit of groups. -/
def mc (s : Int) : Bool := s / 1099511627776 % 2 == 1
theorem and_bit (s : Int) (h0 : 0 ≤ s) (h1 : s < 18446744073709551616) : bits BinOp.and .u64 s 1099511627776 = s / 1099511627776 % 2 * 1099511627776 := by
  obtain ⟨m, rfl⟩ := Int.eq_ofNat_of_zero_le h0
  have e1 : BitVec.ofInt 64 (m : Int) = BitVec.ofNat 64 m := by apply BitVec.eq_of_toNat_eq; simp
  have e2 : BitVec.ofInt 64 1099511627776 = BitVec.ofNat 64 1099511627776 := by rfl
  have e3 : (BitVec.ofNat 64 m &&& BitVec.ofNat 64 1099511627776).toNat = m / 1099511627776 % 2 * 1099511627776 := by
    rw [BitVec.toNat_and, BitVec.toNat_ofNat, BitVec.toNat_ofNat, Nat.mod_eq_of_lt (by omega), Nat.mod_eq_of_lt (by omega)]
    have h : m &&& 2 ^ 40 = if m.testBit 40 then 2 ^ 40 else 0 := by
      apply Nat.eq_of_testBit_eq
      intro i
      rw [Nat.testBit_and, Nat.testBit_two_pow]
      by_cases hi : 40 = i
      · subst hi
        cases hb : m.testBit 40 <;> simp <;> decide
      · cases hb : m.testBit 40
        · simp [hi]
        · simp only [hi, decide_false, Bool.and_false, if_true, Nat.testBit_two_pow]
    rw [show (1099511627776 : Nat) = 2 ^ 40 from rfl, h, Nat.testBit_eq_decide_div_mod_eq]
    have := Nat.mod_two_eq_zero_or_one (m / 2 ^ 40)
    rcases this with h | h <;> simp [h]
  show IntKind.u64.wrap ((BitVec.ofInt 64 (m : Int) &&& BitVec.ofInt 64 1099511627776).toNat : Int) = _
  rw [e1, e2, e3]
  have e4 : IntKind.u64.wrap ((m / 1099511627776 % 2 * 1099511627776 : Nat) : Int) = ((m / 1099511627776 % 2 * 1099511627776 : Nat) : Int) % 18446744073709551616 := by rfl
  rw [e4]
  omega
theorem multi_any (s : Int) (h0 : 0 ≤ s) (h1 : s ≤ 281474976710655) (w : World) : Calls Try.prog 60 #[.int .u64 s] w fun e w' => e = .returned (.bool (mc s)) ∧ w = w' := by
  have hb := and_bit s h0 (by omega)
  have hq : (s / 1099511627776 % 2 * 1099511627776 != 0) = mc s := by
    unfold mc
    have := Int.emod_two_eq (s / 1099511627776)
    rcases this with h | h <;> simp [h]
  go_enter Try.func60, Try.ntmps60
  go_wp2
  go_ret
  exact ⟨by simp [hq], rfl⟩

theorem dcheck (w : World) : Calls Try.prog 112 #[.agg #[]] w fun e w' => e = .returned (.int .i64 0) ∧ Below w.heap.size w w' := by
  go_enter Try.func112, Try.ntmps112
  go_wp2
  go_ret
  exact ⟨rfl, (Below.refl _ w).alloc (Nat.le_refl _) _⟩

/-- What the check of a message says. -/
def ackA (x : FR) : Int := if x.op ≠ 1 ∧ x.op ≠ 2 then 2 else if big x.sm then 2 else if big x.tm then 2 else 0
/-- What the check of a header says. -/
def ackH (x : FR) : Int := if (wi x.tl 255 && wi x.pr 255 && wi x.sp 65535 && wi x.dp 65535) = false then 2 else if pd x.pr = false ∧ (x.sp ≠ 0 ∨ x.dp ≠ 0) then 3 else 0

set_option maxHeartbeats 1000000 in
theorem acheck (x : FR) (w : World) : Calls Try.prog 115 #[.agg x.ac] w fun e w' => e = .returned (.int .i64 (ackA x)) ∧ Below w.heap.size w w' := by
  unfold FR.ac
  obtain ⟨r, hr⟩ : ∃ r, ackA x = r := ⟨_, rfl⟩
  rw [hr]
  have HR := Lib.hid hr
  clear hr
  have HB : Hid (∀ o, Below w.heap.size w (w.alloc o)) := Lib.hid (fun o => (Below.refl _ w).alloc (Nat.le_refl _) _)
  obtain ⟨op, hop⟩ : ∃ op, x.op = op := ⟨_, rfl⟩
  obtain ⟨sm, hsm⟩ : ∃ sm, x.sm = sm := ⟨_, rfl⟩
  obtain ⟨tm, htm⟩ : ∃ tm, x.tm = tm := ⟨_, rfl⟩
  have HE : Hid (ackA x = if op ≠ 1 ∧ op ≠ 2 then 2 else if big sm then 2 else if big tm then 2 else 0) := Lib.hid (by unfold ackA; rw [hop, hsm, htm])
  rw [hop, hsm, htm]
  clear hop hsm htm
  go_enter Try.func115, Try.ntmps115
  have fin : ∀ b1 b2 : Bool, decide (281474976710655 < sm) = b1 → decide (281474976710655 < tm) = b2 → op = 1 ∨ op = 2 → r = if b1 then 2 else if b2 then 2 else 0 := by
    intro b1 b2 h1 h2 h3
    rw [← HR.out, HE.out, if_neg (by omega)]
    unfold big
    rw [h1, h2]
  have HF := Lib.hid fin
  clear fin
  by_cases h1 : op = 1
  · subst h1
    obtain ⟨b1, hb1⟩ : ∃ b, decide (281474976710655 < sm) = b := ⟨_, rfl⟩
    obtain ⟨b2, hb2⟩ : ∃ b, decide (281474976710655 < tm) = b := ⟨_, rfl⟩
    have HG := Lib.hid (HF.out b1 b2 hb1 hb2 (.inl rfl))
    cases b1
    · cases b2
      · go_wp2
        go_ret
        exact ⟨by rw [HG.out]; rfl, HB.out _⟩
      · go_wp2
        go_ret
        exact ⟨by rw [HG.out]; rfl, HB.out _⟩
    · go_wp2
      go_ret
      exact ⟨by rw [HG.out]; rfl, HB.out _⟩
  by_cases h2 : op = 2
  · subst h2
    obtain ⟨b1, hb1⟩ : ∃ b, decide (281474976710655 < sm) = b := ⟨_, rfl⟩
    obtain ⟨b2, hb2⟩ : ∃ b, decide (281474976710655 < tm) = b := ⟨_, rfl⟩
    have HG := Lib.hid (HF.out b1 b2 hb1 hb2 (.inr rfl))
    cases b1
    · cases b2
      · go_wp2
        go_ret
        exact ⟨by rw [HG.out]; rfl, HB.out _⟩
      · go_wp2
        go_ret
        exact ⟨by rw [HG.out]; rfl, HB.out _⟩
    · go_wp2
      go_ret
      exact ⟨by rw [HG.out]; rfl, HB.out _⟩
  have e1 : (op != 1) = true := by simpa using h1
  have e2 : (op != 2) = true := by simpa using h2
  have HG : Hid (r = 2) := Lib.hid (by rw [← HR.out, HE.out, if_pos ⟨h1, h2⟩])
  clear h1 h2
  go_wp2
  go_ret
  exact ⟨by rw [HG.out]; rfl, HB.out _⟩

set_option maxHeartbeats 2000000 in
theorem hcheck (x : FR) (w : World) : Calls Try.prog 119 #[.agg x.hc] w fun e w' => e = .returned (.int .i64 (ackH x)) ∧ Below w.heap.size w w' := by
  unfold FR.hc
  obtain ⟨r, hr⟩ : ∃ r, ackH x = r := ⟨_, rfl⟩
  rw [hr]
  have HR := Lib.hid hr
  clear hr
  have HB : Hid (∀ o, Below w.heap.size w (w.alloc o)) := Lib.hid (fun o => (Below.refl _ w).alloc (Nat.le_refl _) _)
  obtain ⟨tl, htl⟩ : ∃ y, x.tl = y := ⟨_, rfl⟩
  obtain ⟨pr, hpr⟩ : ∃ y, x.pr = y := ⟨_, rfl⟩
  obtain ⟨sp, hsp⟩ : ∃ y, x.sp = y := ⟨_, rfl⟩
  obtain ⟨dp, hdp⟩ : ∃ y, x.dp = y := ⟨_, rfl⟩
  have HE : Hid (ackH x = if (wi tl 255 && wi pr 255 && wi sp 65535 && wi dp 65535) = false then 2 else if pd pr = false ∧ (sp ≠ 0 ∨ dp ≠ 0) then 3 else 0) := Lib.hid (by unfold ackH; rw [htl, hpr, hsp, hdp])
  rw [htl, hpr, hsp, hdp]
  clear htl hpr hsp hdp
  go_enter Try.func119, Try.ntmps119
  obtain ⟨b1, hb1⟩ : ∃ b, wi tl 255 = b := ⟨_, rfl⟩
  obtain ⟨b2, hb2⟩ : ∃ b, wi pr 255 = b := ⟨_, rfl⟩
  obtain ⟨b3, hb3⟩ : ∃ b, wi sp 65535 = b := ⟨_, rfl⟩
  obtain ⟨b4, hb4⟩ : ∃ b, wi dp 65535 = b := ⟨_, rfl⟩
  obtain ⟨b5, hb5⟩ : ∃ b, pd pr = b := ⟨_, rfl⟩
  have HG : Hid (r = if (b1 && b2 && b3 && b4) = false then 2 else if b5 = false ∧ (sp ≠ 0 ∨ dp ≠ 0) then 3 else 0) := Lib.hid (by rw [← HR.out, HE.out, hb1, hb2, hb3, hb4, hb5])
  clear HR HE
  cases b1
  case false =>
    go_wp2_with (first | (go_at_call 122; refine (within_any _ _ _).mono ?_; rintro e w1 ⟨rfl, rfl⟩; try simp only [hb1, hb2, hb3, hb4]))
    go_ret
    exact ⟨by rw [HG.out]; rfl, HB.out _⟩
  cases b2
  case false =>
    go_wp2_with (first | (go_at_call 122; refine (within_any _ _ _).mono ?_; rintro e w1 ⟨rfl, rfl⟩; try simp only [hb1, hb2, hb3, hb4]))
    go_ret
    exact ⟨by rw [HG.out]; rfl, HB.out _⟩
  cases b3
  case false =>
    go_wp2_with (first | (go_at_call 122; refine (within_any _ _ _).mono ?_; rintro e w1 ⟨rfl, rfl⟩; try simp only [hb1, hb2, hb3, hb4]))
    go_ret
    exact ⟨by rw [HG.out]; rfl, HB.out _⟩
  cases b4
  case false =>
    go_wp2_with (first | (go_at_call 122; refine (within_any _ _ _).mono ?_; rintro e w1 ⟨rfl, rfl⟩; try simp only [hb1, hb2, hb3, hb4]))
    go_ret
    exact ⟨by rw [HG.out]; rfl, HB.out _⟩
  cases b5
  case true =>
    go_wp2_with (first | (go_at_call 122; refine (within_any _ _ _).mono ?_; rintro e w1 ⟨rfl, rfl⟩; try simp only [hb1, hb2, hb3, hb4]) | (go_at_call 79; refine (ported_any _ _).mono ?_; rintro e w1 ⟨rfl, rfl⟩; try simp only [hb5]))
    go_ret
    exact ⟨by rw [HG.out]; rfl, HB.out _⟩
  obtain ⟨c1, hc1⟩ : ∃ c, (sp != 0) = c := ⟨_, rfl⟩
  obtain ⟨c2, hc2⟩ : ∃ c, (dp != 0) = c := ⟨_, rfl⟩
  have HG2 : Hid (r = if (c1 || c2) then 3 else 0) := Lib.hid (by
    rw [HG.out, if_neg (by simp)]
    have e1 : sp ≠ 0 ↔ c1 = true := by rw [← hc1]; simp
    have e2 : dp ≠ 0 ↔ c2 = true := by rw [← hc2]; simp
    simp only [e1, e2, Bool.or_eq_true, true_and])
  clear HG
  cases c1
  · cases c2
    · go_wp2_with (first | (go_at_call 122; refine (within_any _ _ _).mono ?_; rintro e w1 ⟨rfl, rfl⟩; try simp only [hb1, hb2, hb3, hb4]) | (go_at_call 79; refine (ported_any _ _).mono ?_; rintro e w1 ⟨rfl, rfl⟩; try simp only [hb5]))
      go_ret
      exact ⟨by rw [HG2.out]; rfl, HB.out _⟩
    · go_wp2_with (first | (go_at_call 122; refine (within_any _ _ _).mono ?_; rintro e w1 ⟨rfl, rfl⟩; try simp only [hb1, hb2, hb3, hb4]) | (go_at_call 79; refine (ported_any _ _).mono ?_; rintro e w1 ⟨rfl, rfl⟩; try simp only [hb5]))
      go_ret
      exact ⟨by rw [HG2.out]; rfl, HB.out _⟩
  · go_wp2_with (first | (go_at_call 122; refine (within_any _ _ _).mono ?_; rintro e w1 ⟨rfl, rfl⟩; try simp only [hb1, hb2, hb3, hb4]) | (go_at_call 79; refine (ported_any _ _).mono ?_; rintro e w1 ⟨rfl, rfl⟩; try simp only [hb5]))
    go_ret
    exact ⟨by rw [HG2.out]; rfl, HB.out _⟩

end Go.Proofs.Ytgdfpmnbofnjfaa
