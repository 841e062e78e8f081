/- Routes: RD and RDOf, of the program and of the document. -/
import Derived.Test.YthhajknmokomjaaZNoT
namespace Go.Proofs.Ythhajknmokomjaa
open Go.RowKit
set_option linter.unusedVariables false

theorem or_place (s : Nat) (n b : Int) (h0 : 0 ≤ n) (h1 : n * 2 ^ s < 18446744073709551616) (b0 : 0 ≤ b) (b1 : b < 2 ^ s) (hs : s ≤ 64 := by decide) : bits BinOp.or .u64 (n * 2 ^ s) b = n * 2 ^ s + b := by
  obtain ⟨m, rfl⟩ := Int.eq_ofNat_of_zero_le h0
  obtain ⟨c, rfl⟩ := Int.eq_ofNat_of_zero_le b0
  have e0 : ((m : Int) * 2 ^ s) = ((m * 2 ^ s : Nat) : Int) := by simp
  rw [e0] at h1 ⊢
  have b1' : c < 2 ^ s := by
    have : ((c : Nat) : Int) < ((2 ^ s : Nat) : Int) := by simpa using b1
    omega
  have hc64 : c < 2 ^ 64 := Nat.lt_of_lt_of_le b1' (Nat.pow_le_pow_right (by omega) hs)
  have hm64 : m * 2 ^ s < 2 ^ 64 := by
    have : ((m * 2 ^ s : Nat) : Int) < ((2 ^ 64 : Nat) : Int) := h1
    omega
  have hsum : m * 2 ^ s ||| c = m * 2 ^ s + c := by
    have := Nat.shiftLeft_add_eq_or_of_lt b1' m
    rw [Nat.shiftLeft_eq] at this
    exact this.symm
  have e1 : BitVec.ofInt 64 ((m * 2 ^ s : Nat) : Int) = BitVec.ofNat 64 (m * 2 ^ s) := BitVec.ofInt_natCast _ _
  have e2 : BitVec.ofInt 64 (c : Int) = BitVec.ofNat 64 c := BitVec.ofInt_natCast _ _
  show IntKind.u64.wrap ((BitVec.ofInt 64 ((m * 2 ^ s : Nat) : Int) ||| BitVec.ofInt 64 (c : Int)).toNat : Int) = _
  have hlt := Nat.or_lt_two_pow hm64 hc64
  rw [e1, e2, BitVec.toNat_or, BitVec.toNat_ofNat, BitVec.toNat_ofNat, Nat.mod_eq_of_lt hm64, Nat.mod_eq_of_lt hc64]
  rw [hsum] at hlt ⊢
  have e4 : IntKind.u64.wrap ((m * 2 ^ s + c : Nat) : Int) = ((m * 2 ^ s + c : Nat) : Int) % 18446744073709551616 := by rfl
  rw [e4, Int.emod_eq_of_lt (by omega) (by
    have : ((m * 2 ^ s + c : Nat) : Int) < ((2 ^ 64 : Nat) : Int) := by omega
    exact this)]
  omega

theorem wrap_u64 (n : Int) (h : 0 ≤ n) (h2 : n < 18446744073709551616) : IntKind.u64.wrap n = n := by
  have e : IntKind.u64.wrap n = n % 18446744073709551616 := by rfl
  rw [e]; omega
/-- The distinguisher of an address and a number. -/
def rdn (ip n : Int) : Int := 281474976710656 + ip * 65536 + n
/-- Its parts. -/
def rdo (rd : Int) : Value := if rd / 281474976710656 = 1 then .tuple #[.int .u32 (rd / 65536 % 4294967296), .int .u16 (IntKind.u16.wrap rd), .bool true] else .tuple #[.int .u32 0, .int .u16 0, .bool false]

theorem rd_any (ip n : Int) (hi : 0 ≤ ip ∧ ip < 4294967296) (hn : 0 ≤ n ∧ n < 65536) (w : World) : Calls Try.prog 16 #[.int .u32 ip, .int .u16 n] w fun e w' => e = .returned (.int .u64 (rdn ip n)) ∧ w = w' := by
  have e1 : bits BinOp.or .u64 281474976710656 (ip * 65536) = 281474976710656 + ip * 65536 := by
    exact or_place 48 1 (ip * 65536) (by omega) (by omega) (by omega) (by omega)
  have e2 : bits BinOp.or .u64 (281474976710656 + ip * 65536) n = rdn ip n := by
    rw [show (281474976710656 + ip * 65536 : Int) = (4294967296 + ip) * 2 ^ 16 by omega]
    rw [or_place 16 (4294967296 + ip) n (by omega) (by omega) hn.1 (by omega)]
    unfold rdn; omega
  have HE := Lib.hid (And.intro e1 e2)
  clear e1 e2
  go_enter Try.func16, Try.ntmps16
  go_wp2
  go_ret
  exact ⟨by rw [← HE.out.2, ← HE.out.1]; rfl, rfl⟩

theorem rrd_any (ip n : Int) (hi : 0 ≤ ip ∧ ip < 4294967296) (hn : 0 ≤ n ∧ n < 65536) (w : World) : Calls Try.prog 17 #[.int .u32 ip, .int .u16 n] w fun e w' => e = .returned (.int .u64 (rdn ip n)) ∧ w = w' := by
  go_enter Try.func17, Try.ntmps17
  go_wp2
  go_ret
  exact ⟨rfl, rfl⟩

theorem rdof_any (rd : Int) (w : World) : Calls Try.prog 8 #[.int .u64 rd] w fun e w' => e = .returned (rdo rd) ∧ w = w' := by
  by_cases h : rd / 281474976710656 = 1
  · have hb : (rd / 281474976710656 != 1) = false := by simpa using h
    have HE : Hid (rdo rd = .tuple #[.int .u32 (rd / 65536 % 4294967296), .int .u16 (IntKind.u16.wrap rd), .bool true]) := Lib.hid (by unfold rdo; rw [if_pos h])
    clear h
    go_enter Try.func8, Try.ntmps8
    go_wp2
    go_ret3
    exact ⟨by rw [HE.out]; rfl, rfl⟩
  · have hb : (rd / 281474976710656 != 1) = true := by simpa using h
    have HE : Hid (rdo rd = .tuple #[.int .u32 0, .int .u16 0, .bool false]) := Lib.hid (by unfold rdo; rw [if_neg h])
    clear h
    go_enter Try.func8, Try.ntmps8
    go_wp2
    go_ret3
    exact ⟨by rw [HE.out]; rfl, rfl⟩

theorem rrdof_any (rd : Int) (w : World) : Calls Try.prog 9 #[.int .u64 rd] w fun e w' => e = .returned (rdo rd) ∧ w = w' := by
  by_cases h : rd / 281474976710656 = 1
  · have hb : (rd / 281474976710656 != 1) = false := by simpa using h
    have HE : Hid (rdo rd = .tuple #[.int .u32 (rd / 65536 % 4294967296), .int .u16 (IntKind.u16.wrap rd), .bool true]) := Lib.hid (by unfold rdo; rw [if_pos h])
    clear h
    go_enter Try.func9, Try.ntmps9
    go_wp2
    go_ret3
    exact ⟨by rw [HE.out]; rfl, rfl⟩
  · have hb : (rd / 281474976710656 != 1) = true := by simpa using h
    have HE : Hid (rdo rd = .tuple #[.int .u32 0, .int .u16 0, .bool false]) := Lib.hid (by unfold rdo; rw [if_neg h])
    clear h
    go_enter Try.func9, Try.ntmps9
    go_wp2
    go_ret3
    exact ⟨by rw [HE.out]; rfl, rfl⟩

end Go.Proofs.Ythhajknmokomjaa
