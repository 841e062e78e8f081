/- Communities: the constructors, of the program and of the document. -/
import Derived.Test.YtofbgpgngplgpaaDoorCmB
namespace Go.Proofs.YtofbgpgngplgpaaDoor
open Go.RowKit
set_option linter.unusedVariables false
set_option maxRecDepth 100000

/-- The community of a type with a number. -/
abbrev mk (a b x : Int) : Value := cm a b (x / 1099511627776 % 256) (x / 4294967296 % 256) (x / 16777216 % 256) (x / 65536 % 256) (x / 256 % 256) (x % 256)
abbrev zc : Value := cm 0 0 0 0 0 0 0 0

def fl (is : Bool) : Int := if is then 1099511627776 else 0

def encC (a : Int) : Value := if 0 ≤ a ∧ a ≤ 65535 then mk 3 12 a else zc
def encE (a : Int) : Int := if 0 ≤ a ∧ a ≤ 65535 then 0 else 2
def labC (is : Bool) (n : Int) : Value := if n ≤ 16777215 then mk 6 1 (fl is + n) else zc
def labE (n : Int) : Int := if n ≤ 16777215 then 0 else 2
def macC (lo m : Int) : Value := if m ≤ 281474976710655 then mk 6 lo m else zc
def macE (m : Int) : Int := if m ≤ 281474976710655 then 0 else 2
def eleC (a b : Int) : Value := if 0 ≤ a ∧ a ≤ 31 ∧ 0 ≤ b ∧ b ≤ 65535 then mk 6 6 (a * 1099511627776 + b) else zc
def eleE (a b : Int) : Int := if 0 ≤ a ∧ a ≤ 31 ∧ 0 ≤ b ∧ b ≤ 65535 then 0 else 2

theorem or_shift (s : Nat) (n b : Int) (h0 : 0 ≤ n) (h1 : n * 2 ^ s < 18446744073709551616) (b0 : 0 ≤ b) (b1 : b < 2 ^ s) (hs : s ≤ 64 := by decide) : bits BinOp.or .u64 (n * 2 ^ s) b = n * 2 ^ s + b := by
  obtain ⟨m, rfl⟩ := Int.eq_ofNat_of_zero_le h0
  obtain ⟨c, rfl⟩ := Int.eq_ofNat_of_zero_le b0
  have e0 : ((m : Int) * 2 ^ s) = ((m * 2 ^ s : Nat) : Int) := by simp
  rw [e0] at h1 ⊢
  have b1' : c < 2 ^ s := by
    have : ((c : Nat) : Int) < ((2 ^ s : Nat) : Int) := by simpa using b1
    omega
  have hc64 : c < 2 ^ 64 := Nat.lt_of_lt_of_le b1' (Nat.pow_le_pow_right (by omega) hs)
  have hm64 : m * 2 ^ s < 2 ^ 64 := by
    have : ((m * 2 ^ s : Nat) : Int) < ((2 ^ 64 : Nat) : Int) := h1
    omega
  have hsum : m * 2 ^ s ||| c = m * 2 ^ s + c := by
    have := Nat.shiftLeft_add_eq_or_of_lt b1' m
    rw [Nat.shiftLeft_eq] at this
    exact this.symm
  have e1 : BitVec.ofInt 64 ((m * 2 ^ s : Nat) : Int) = BitVec.ofNat 64 (m * 2 ^ s) := BitVec.ofInt_natCast _ _
  have e2 : BitVec.ofInt 64 (c : Int) = BitVec.ofNat 64 c := BitVec.ofInt_natCast _ _
  show IntKind.u64.wrap ((BitVec.ofInt 64 ((m * 2 ^ s : Nat) : Int) ||| BitVec.ofInt 64 (c : Int)).toNat : Int) = _
  have hlt := Nat.or_lt_two_pow hm64 hc64
  rw [e1, e2, BitVec.toNat_or, BitVec.toNat_ofNat, BitVec.toNat_ofNat, Nat.mod_eq_of_lt hm64, Nat.mod_eq_of_lt hc64]
  rw [hsum] at hlt ⊢
  have e4 : IntKind.u64.wrap ((m * 2 ^ s + c : Nat) : Int) = ((m * 2 ^ s + c : Nat) : Int) % 18446744073709551616 := by rfl
  rw [e4, Int.emod_eq_of_lt (by omega) (by
    have : ((m * 2 ^ s + c : Nat) : Int) < ((2 ^ 64 : Nat) : Int) := by omega
    exact this)]
  omega

theorem z8 {w : World} {g : Nat} (h : Has w g 24 zeros8) : w.cell? ⟨g, 0, none⟩ = some (.int .u8 0) ∧ w.cell? ⟨g, 1, none⟩ = some (.int .u8 0) ∧ w.cell? ⟨g, 2, none⟩ = some (.int .u8 0) ∧ w.cell? ⟨g, 3, none⟩ = some (.int .u8 0) ∧ w.cell? ⟨g, 4, none⟩ = some (.int .u8 0) ∧ w.cell? ⟨g, 5, none⟩ = some (.int .u8 0) ∧ w.cell? ⟨g, 6, none⟩ = some (.int .u8 0) ∧ w.cell? ⟨g, 7, none⟩ = some (.int .u8 0)
    ∧ w.frozen? ⟨g, 0, none⟩ = false ∧ w.frozen? ⟨g, 1, none⟩ = false ∧ w.frozen? ⟨g, 2, none⟩ = false ∧ w.frozen? ⟨g, 3, none⟩ = false ∧ w.frozen? ⟨g, 4, none⟩ = false ∧ w.frozen? ⟨g, 5, none⟩ = false ∧ w.frozen? ⟨g, 6, none⟩ = false ∧ w.frozen? ⟨g, 7, none⟩ = false :=
  ⟨h.cell 0, h.cell 1, h.cell 2, h.cell 3, h.cell 4, h.cell 5, h.cell 6, h.cell 7, h.free 0, h.free 1, h.free 2, h.free 3, h.free 4, h.free 5, h.free 6, h.free 7⟩

theorem zb (w : World) : Below w.heap.size w (w.alloc (.cells zeros8 24)) := (Below.refl _ w).alloc (Nat.le_refl _) _

theorem flag_any (is : Bool) (w : World) : Calls Tryd.prog 49 #[.bool is] w fun e w' => e = .returned (.int .u64 (fl is)) ∧ w = w' := by
  cases is <;>
  · go_enter Tryd.func49, Tryd.ntmps49
    go_wp2_with fail
    go_ret
    exact ⟨rfl, rfl⟩
theorem rflag_any (is : Bool) (w : World) : Calls Tryd.prog 59 #[.bool is] w fun e w' => e = .returned (.int .u64 (fl is)) ∧ w = w' := by
  cases is <;>
  · go_enter Tryd.func59, Tryd.ntmps59
    go_wp2_with fail
    go_ret
    exact ⟨rfl, rfl⟩

theorem made_any (a b x : Int) (x0 : 0 ≤ x) (x1 : x < 18446744073709551616) (w : World) :
    Calls Tryd.prog 58 #[.int .u8 a, .int .u8 b, .int .u64 x] w fun en w' => en = .returned (mk a b x) ∧ Below w.heap.size w w' := by
  have hz := zb w
  go_enter Tryd.func58, Tryd.ntmps58
  go_wp2_with fail
  refine bodyPost_ret (v := mk a b x) (by simp [results, Tryd.results58, go_sem]) rfl ⟨rfl, ?_⟩
  exact (Below.refl _ w).alloc (Nat.le_refl _) _

theorem build_1 (x : Int) (x0 : 0 ≤ x) (x1 : x < 18446744073709551616) (w : World) (hw : GK w) :
    Calls Tryd.prog 48 #[.int .i64 1, .int .u64 x] w fun en w' => en = .returned (mk 0 2 x) ∧ Below w.heap.size w w' := build_any 1 (by omega) (by omega) x x0 x1 w hw
theorem build_2 (x : Int) (x0 : 0 ≤ x) (x1 : x < 18446744073709551616) (w : World) (hw : GK w) :
    Calls Tryd.prog 48 #[.int .i64 2, .int .u64 x] w fun en w' => en = .returned (mk 3 12 x) ∧ Below w.heap.size w w' := build_any 2 (by omega) (by omega) x x0 x1 w hw
theorem build_3 (x : Int) (x0 : 0 ≤ x) (x1 : x < 18446744073709551616) (w : World) (hw : GK w) :
    Calls Tryd.prog 48 #[.int .i64 3, .int .u64 x] w fun en w' => en = .returned (mk 6 0 x) ∧ Below w.heap.size w w' := build_any 3 (by omega) (by omega) x x0 x1 w hw
theorem build_4 (x : Int) (x0 : 0 ≤ x) (x1 : x < 18446744073709551616) (w : World) (hw : GK w) :
    Calls Tryd.prog 48 #[.int .i64 4, .int .u64 x] w fun en w' => en = .returned (mk 6 1 x) ∧ Below w.heap.size w w' := build_any 4 (by omega) (by omega) x x0 x1 w hw
theorem build_5 (x : Int) (x0 : 0 ≤ x) (x1 : x < 18446744073709551616) (w : World) (hw : GK w) :
    Calls Tryd.prog 48 #[.int .i64 5, .int .u64 x] w fun en w' => en = .returned (mk 6 2 x) ∧ Below w.heap.size w w' := build_any 5 (by omega) (by omega) x x0 x1 w hw
theorem build_6 (x : Int) (x0 : 0 ≤ x) (x1 : x < 18446744073709551616) (w : World) (hw : GK w) :
    Calls Tryd.prog 48 #[.int .i64 6, .int .u64 x] w fun en w' => en = .returned (mk 6 3 x) ∧ Below w.heap.size w w' := build_any 6 (by omega) (by omega) x x0 x1 w hw
theorem build_7 (x : Int) (x0 : 0 ≤ x) (x1 : x < 18446744073709551616) (w : World) (hw : GK w) :
    Calls Tryd.prog 48 #[.int .i64 7, .int .u64 x] w fun en w' => en = .returned (mk 6 6 x) ∧ Below w.heap.size w w' := build_any 7 (by omega) (by omega) x x0 x1 w hw

theorem target_any (a n : Int) (a0 : 0 ≤ a) (a1 : a ≤ 65535) (n0 : 0 ≤ n) (n1 : n < 4294967296) (w : World) (hw : GK w) :
    Calls Tryd.prog 25 #[.int .u16 a, .int .u32 n] w fun en w' => en = .returned (mk 0 2 (a * 4294967296 + n)) ∧ Below w.heap.size w w' := by
  have hor := or_shift 32 a n a0 (by omega) n0 (by omega)
  simp only [show (2 : Int) ^ 32 = 4294967296 from rfl] at hor
  have hz := zb w
  have HW : Hid (GK (w.alloc (.cells zeros8 24))) := Lib.hid (hw.keep hz)
  go_enter Tryd.func25, Tryd.ntmps25
  go_wp2_with (first
    | (go_at_call 48; refine (build_1 _ (by first | omega | simp [fl]; omega) (by first | omega | simp [fl]; omega) _ HW.out).mono ?_; rintro e w1 ⟨rfl, hb1⟩; obtain ⟨p0, p1, p2, p3, p4, p5, p6, p7, z0, z1, z2, z3, z4, z5, z6, z7⟩ := z8 ((Has.new w _ _).below hb1)))
  refine bodyPost_ret (v := mk 0 2 (a * 4294967296 + n)) (by simp [results, Tryd.results25, go_sem, *]) rfl ⟨rfl, ?_⟩
  exact (((((((((hz.trans (hb1.mono hz.size))).setCell (by simp) _).setCell (by simp) _).setCell (by simp) _).setCell (by simp) _).setCell (by simp) _).setCell (by simp) _).setCell (by simp) _).setCell (by simp) _

theorem encap_any (a : Int) (a0 : -9223372036854775808 ≤ a) (a1 : a ≤ 9223372036854775807) (w : World) (hw : GK w) :
    Calls Tryd.prog 11 #[.int .i64 a] w fun en w' => en = .returned (.tuple #[encC a, .int .i64 (encE a)]) ∧ Below w.heap.size w w' := by
  by_cases h : 0 ≤ a ∧ a ≤ 65535
  · rw [show encC a = mk 3 12 a from if_pos h, show encE a = 0 from if_pos h]
    obtain ⟨h0, h1⟩ := h
    have hz := zb w
    have HW : Hid (GK (w.alloc (.cells zeros8 24))) := Lib.hid (hw.keep hz)
    go_enter Tryd.func11, Tryd.ntmps11
    go_wp2_with (first
      | (go_at_call 48; refine (build_2 _ (by first | omega | simp [fl]; omega) (by first | omega | simp [fl]; omega) _ HW.out).mono ?_; rintro e w1 ⟨rfl, hb1⟩; obtain ⟨p0, p1, p2, p3, p4, p5, p6, p7, z0, z1, z2, z3, z4, z5, z6, z7⟩ := z8 ((Has.new w _ _).below hb1)))
    refine bodyPost_ret (v := .tuple #[mk 3 12 a, .int .i64 0]) (by simp [results, Tryd.results11, go_sem, *]) rfl ⟨rfl, ?_⟩
    exact (((((((((hz.trans (hb1.mono hz.size))).setCell (by simp) _).setCell (by simp) _).setCell (by simp) _).setCell (by simp) _).setCell (by simp) _).setCell (by simp) _).setCell (by simp) _).setCell (by simp) _
  · rw [show encC a = zc from if_neg h, show encE a = 2 from if_neg h]
    by_cases h1 : a < 0
    · clear h
      have hz := zb w
      go_enter Tryd.func11, Tryd.ntmps11
      go_wp2_with fail
      refine bodyPost_ret (v := .tuple #[zc, .int .i64 2]) (by simp [results, Tryd.results11, go_sem]) rfl ⟨rfl, ?_⟩
      exact hz
    · have h2 : 65535 < a := by omega
      have h3 : 0 ≤ a := by omega
      clear h
      have hz := zb w
      go_enter Tryd.func11, Tryd.ntmps11
      go_wp2_with fail
      refine bodyPost_ret (v := .tuple #[zc, .int .i64 2]) (by simp [results, Tryd.results11, go_sem]) rfl ⟨rfl, ?_⟩
      exact hz

theorem mobility_any (is : Bool) (n : Int) (n0 : 0 ≤ n) (n1 : n < 4294967296) (w : World) (hw : GK w) :
    Calls Tryd.prog 15 #[.bool is, .int .u32 n] w fun en w' => en = .returned (mk 6 0 (fl is + n)) ∧ Below w.heap.size w w' := by
  cases is
  · rw [show fl false = 0 from rfl]
    rw [Int.zero_add]
    have hor := or_shift 40 0 n (by omega) (by omega) n0 (by omega)
    simp only [Int.zero_mul] at hor
    rw [Int.zero_add] at hor
    have hz := zb w
    have HW : Hid (GK (w.alloc (.cells zeros8 24))) := Lib.hid (hw.keep hz)
    go_enter Tryd.func15, Tryd.ntmps15
    go_wp2_with (first
      | (go_at_call 49; refine (flag_any _ _).mono ?_; rw [show fl false = 0 from rfl]; rintro e w0 ⟨rfl, rfl⟩)
      | (go_at_call 48; refine (build_3 _ (by first | omega | simp [fl]; omega) (by first | omega | simp [fl]; omega) _ HW.out).mono ?_; rintro e w1 ⟨rfl, hb1⟩; obtain ⟨p0, p1, p2, p3, p4, p5, p6, p7, z0, z1, z2, z3, z4, z5, z6, z7⟩ := z8 ((Has.new w _ _).below hb1)))
    refine bodyPost_ret (v := mk 6 0 n) (by simp [results, Tryd.results15, go_sem, *]) rfl ⟨rfl, ?_⟩
    exact (((((((((hz.trans (hb1.mono hz.size))).setCell (by simp) _).setCell (by simp) _).setCell (by simp) _).setCell (by simp) _).setCell (by simp) _).setCell (by simp) _).setCell (by simp) _).setCell (by simp) _
  · rw [show fl true = 1099511627776 from rfl]
    have hor := or_shift 40 1 n (by omega) (by omega) n0 (by omega)
    simp only [show (2 : Int) ^ 40 = 1099511627776 from rfl, Int.one_mul] at hor
    have hz := zb w
    have HW : Hid (GK (w.alloc (.cells zeros8 24))) := Lib.hid (hw.keep hz)
    go_enter Tryd.func15, Tryd.ntmps15
    go_wp2_with (first
      | (go_at_call 49; refine (flag_any _ _).mono ?_; rw [show fl true = 1099511627776 from rfl]; rintro e w0 ⟨rfl, rfl⟩)
      | (go_at_call 48; refine (build_3 _ (by first | omega | simp [fl]; omega) (by first | omega | simp [fl]; omega) _ HW.out).mono ?_; rintro e w1 ⟨rfl, hb1⟩; obtain ⟨p0, p1, p2, p3, p4, p5, p6, p7, z0, z1, z2, z3, z4, z5, z6, z7⟩ := z8 ((Has.new w _ _).below hb1)))
    refine bodyPost_ret (v := mk 6 0 (1099511627776 + n)) (by simp [results, Tryd.results15, go_sem, *]) rfl ⟨rfl, ?_⟩
    exact (((((((((hz.trans (hb1.mono hz.size))).setCell (by simp) _).setCell (by simp) _).setCell (by simp) _).setCell (by simp) _).setCell (by simp) _).setCell (by simp) _).setCell (by simp) _).setCell (by simp) _

theorem label_any (is : Bool) (n : Int) (n0 : 0 ≤ n) (n1 : n < 4294967296) (w : World) (hw : GK w) :
    Calls Tryd.prog 10 #[.bool is, .int .u32 n] w fun en w' => en = .returned (.tuple #[labC is n, .int .i64 (labE n)]) ∧ Below w.heap.size w w' := by
  by_cases h : n ≤ 16777215
  · rw [show labC is n = mk 6 1 (fl is + n) from if_pos h, show labE n = 0 from if_pos h]
    cases is
    · rw [show fl false = 0 from rfl]
      rw [Int.zero_add]
      have hor := or_shift 40 0 n (by omega) (by omega) n0 (by omega)
      simp only [Int.zero_mul] at hor
      rw [Int.zero_add] at hor
      have hz := zb w
      have HW : Hid (GK (w.alloc (.cells zeros8 24))) := Lib.hid (hw.keep hz)
      go_enter Tryd.func10, Tryd.ntmps10
      go_wp2_with (first
        | (go_at_call 49; refine (flag_any _ _).mono ?_; rw [show fl false = 0 from rfl]; rintro e w0 ⟨rfl, rfl⟩)
        | (go_at_call 48; refine (build_4 _ (by first | omega | simp [fl]; omega) (by first | omega | simp [fl]; omega) _ HW.out).mono ?_; rintro e w1 ⟨rfl, hb1⟩; obtain ⟨p0, p1, p2, p3, p4, p5, p6, p7, z0, z1, z2, z3, z4, z5, z6, z7⟩ := z8 ((Has.new w _ _).below hb1)))
      refine bodyPost_ret (v := .tuple #[mk 6 1 n, .int .i64 0]) (by simp [results, Tryd.results10, go_sem, *]) rfl ⟨rfl, ?_⟩
      exact (((((((((hz.trans (hb1.mono hz.size))).setCell (by simp) _).setCell (by simp) _).setCell (by simp) _).setCell (by simp) _).setCell (by simp) _).setCell (by simp) _).setCell (by simp) _).setCell (by simp) _
    · rw [show fl true = 1099511627776 from rfl]
      have hor := or_shift 40 1 n (by omega) (by omega) n0 (by omega)
      simp only [show (2 : Int) ^ 40 = 1099511627776 from rfl, Int.one_mul] at hor
      have hz := zb w
      have HW : Hid (GK (w.alloc (.cells zeros8 24))) := Lib.hid (hw.keep hz)
      go_enter Tryd.func10, Tryd.ntmps10
      go_wp2_with (first
        | (go_at_call 49; refine (flag_any _ _).mono ?_; rw [show fl true = 1099511627776 from rfl]; rintro e w0 ⟨rfl, rfl⟩)
        | (go_at_call 48; refine (build_4 _ (by first | omega | simp [fl]; omega) (by first | omega | simp [fl]; omega) _ HW.out).mono ?_; rintro e w1 ⟨rfl, hb1⟩; obtain ⟨p0, p1, p2, p3, p4, p5, p6, p7, z0, z1, z2, z3, z4, z5, z6, z7⟩ := z8 ((Has.new w _ _).below hb1)))
      refine bodyPost_ret (v := .tuple #[mk 6 1 (1099511627776 + n), .int .i64 0]) (by simp [results, Tryd.results10, go_sem, *]) rfl ⟨rfl, ?_⟩
      exact (((((((((hz.trans (hb1.mono hz.size))).setCell (by simp) _).setCell (by simp) _).setCell (by simp) _).setCell (by simp) _).setCell (by simp) _).setCell (by simp) _).setCell (by simp) _).setCell (by simp) _
  · rw [show labC is n = zc from if_neg h, show labE n = 2 from if_neg h]
    have h1 : 16777215 < n := by omega
    have hz := zb w
    go_enter Tryd.func10, Tryd.ntmps10
    go_wp2_with fail
    refine bodyPost_ret (v := .tuple #[zc, .int .i64 2]) (by simp [results, Tryd.results10, go_sem]) rfl ⟨rfl, ?_⟩
    exact hz

theorem election_any (a b : Int) (a0 : -9223372036854775808 ≤ a) (a1 : a ≤ 9223372036854775807) (b0 : -9223372036854775808 ≤ b) (b1 : b ≤ 9223372036854775807) (w : World) (hw : GK w) :
    Calls Tryd.prog 14 #[.int .i64 a, .int .i64 b] w fun en w' => en = .returned (.tuple #[eleC a b, .int .i64 (eleE a b)]) ∧ Below w.heap.size w w' := by
  by_cases h : 0 ≤ a ∧ a ≤ 31 ∧ 0 ≤ b ∧ b ≤ 65535
  · rw [show eleC a b = mk 6 6 (a * 1099511627776 + b) from if_pos h, show eleE a b = 0 from if_pos h]
    obtain ⟨h0, h1, h2, h3⟩ := h
    have hor := or_shift 40 a b h0 (by omega) h2 (by omega)
    simp only [show (2 : Int) ^ 40 = 1099511627776 from rfl] at hor
    have hz := zb w
    have HW : Hid (GK (w.alloc (.cells zeros8 24))) := Lib.hid (hw.keep hz)
    go_enter Tryd.func14, Tryd.ntmps14
    go_wp2_with (first
      | (go_at_call 48; refine (build_7 _ (by first | omega | simp [fl]; omega) (by first | omega | simp [fl]; omega) _ HW.out).mono ?_; rintro e w1 ⟨rfl, hb1⟩; obtain ⟨p0, p1, p2, p3, p4, p5, p6, p7, z0, z1, z2, z3, z4, z5, z6, z7⟩ := z8 ((Has.new w _ _).below hb1)))
    refine bodyPost_ret (v := .tuple #[mk 6 6 (a * 1099511627776 + b), .int .i64 0]) (by simp [results, Tryd.results14, go_sem, *]) rfl ⟨rfl, ?_⟩
    exact (((((((((hz.trans (hb1.mono hz.size))).setCell (by simp) _).setCell (by simp) _).setCell (by simp) _).setCell (by simp) _).setCell (by simp) _).setCell (by simp) _).setCell (by simp) _).setCell (by simp) _
  · rw [show eleC a b = zc from if_neg h, show eleE a b = 2 from if_neg h]
    by_cases h1 : a < 0
    · clear h
      have hz := zb w
      go_enter Tryd.func14, Tryd.ntmps14
      go_wp2_with fail
      refine bodyPost_ret (v := .tuple #[zc, .int .i64 2]) (by simp [results, Tryd.results14, go_sem]) rfl ⟨rfl, ?_⟩
      exact hz
    · have h1' : 0 ≤ a := by omega
      by_cases h2 : 31 < a
      · clear h
        have hz := zb w
        go_enter Tryd.func14, Tryd.ntmps14
        go_wp2_with fail
        refine bodyPost_ret (v := .tuple #[zc, .int .i64 2]) (by simp [results, Tryd.results14, go_sem]) rfl ⟨rfl, ?_⟩
        exact hz
      · have h2' : a ≤ 31 := by omega
        by_cases h3 : b < 0
        · clear h
          have hz := zb w
          go_enter Tryd.func14, Tryd.ntmps14
          go_wp2_with fail
          refine bodyPost_ret (v := .tuple #[zc, .int .i64 2]) (by simp [results, Tryd.results14, go_sem]) rfl ⟨rfl, ?_⟩
          exact hz
        · have h4 : 65535 < b := by omega
          have h3' : 0 ≤ b := by omega
          clear h
          have hz := zb w
          go_enter Tryd.func14, Tryd.ntmps14
          go_wp2_with fail
          refine bodyPost_ret (v := .tuple #[zc, .int .i64 2]) (by simp [results, Tryd.results14, go_sem]) rfl ⟨rfl, ?_⟩
          exact hz

theorem rtarget_any (a n : Int) (a0 : 0 ≤ a) (a1 : a ≤ 65535) (n0 : 0 ≤ n) (n1 : n < 4294967296) (w : World) :
    Calls Tryd.prog 26 #[.int .u16 a, .int .u32 n] w fun en w' => en = .returned (mk 0 2 (a * 4294967296 + n)) ∧ Below w.heap.size w w' := by
  have hz := zb w
  go_enter Tryd.func26, Tryd.ntmps26
  go_wp2_with (first
    | (go_at_call 58; refine (made_any 0 2 _ (by omega) (by omega) _).mono ?_; rintro e w1 ⟨rfl, hb1⟩; obtain ⟨p0, p1, p2, p3, p4, p5, p6, p7, z0, z1, z2, z3, z4, z5, z6, z7⟩ := z8 ((Has.new w _ _).below hb1)))
  refine bodyPost_ret (v := mk 0 2 (a * 4294967296 + n)) (by simp [results, Tryd.results26, go_sem, *]) rfl ⟨rfl, ?_⟩
  exact (((((((((hz.trans (hb1.mono hz.size))).setCell (by simp) _).setCell (by simp) _).setCell (by simp) _).setCell (by simp) _).setCell (by simp) _).setCell (by simp) _).setCell (by simp) _).setCell (by simp) _

theorem rencap_any (a : Int) (a0 : -9223372036854775808 ≤ a) (a1 : a ≤ 9223372036854775807) (w : World) :
    Calls Tryd.prog 20 #[.int .i64 a] w fun en w' => en = .returned (.tuple #[encC a, .int .i64 (encE a)]) ∧ Below w.heap.size w w' := by
  by_cases h : 0 ≤ a ∧ a ≤ 65535
  · rw [show encC a = mk 3 12 a from if_pos h, show encE a = 0 from if_pos h]
    obtain ⟨h0, h1⟩ := h
    have hz := zb w
    go_enter Tryd.func20, Tryd.ntmps20
    go_wp2_with (first
      | (go_at_call 58; refine (made_any 3 12 _ (by omega) (by omega) _).mono ?_; rintro e w1 ⟨rfl, hb1⟩; obtain ⟨p0, p1, p2, p3, p4, p5, p6, p7, z0, z1, z2, z3, z4, z5, z6, z7⟩ := z8 ((Has.new w _ _).below hb1)))
    refine bodyPost_ret (v := .tuple #[mk 3 12 a, .int .i64 0]) (by simp [results, Tryd.results20, go_sem, *]) rfl ⟨rfl, ?_⟩
    exact (((((((((hz.trans (hb1.mono hz.size))).setCell (by simp) _).setCell (by simp) _).setCell (by simp) _).setCell (by simp) _).setCell (by simp) _).setCell (by simp) _).setCell (by simp) _).setCell (by simp) _
  · rw [show encC a = zc from if_neg h, show encE a = 2 from if_neg h]
    by_cases h1 : a < 0
    · clear h
      have hz := zb w
      go_enter Tryd.func20, Tryd.ntmps20
      go_wp2_with fail
      refine bodyPost_ret (v := .tuple #[zc, .int .i64 2]) (by simp [results, Tryd.results20, go_sem]) rfl ⟨rfl, ?_⟩
      exact hz
    · have h2 : 65535 < a := by omega
      have h3 : 0 ≤ a := by omega
      clear h
      have hz := zb w
      go_enter Tryd.func20, Tryd.ntmps20
      go_wp2_with fail
      refine bodyPost_ret (v := .tuple #[zc, .int .i64 2]) (by simp [results, Tryd.results20, go_sem]) rfl ⟨rfl, ?_⟩
      exact hz

theorem rmobility_any (is : Bool) (n : Int) (n0 : 0 ≤ n) (n1 : n < 4294967296) (w : World) :
    Calls Tryd.prog 27 #[.bool is, .int .u32 n] w fun en w' => en = .returned (mk 6 0 (fl is + n)) ∧ Below w.heap.size w w' := by
  cases is
  · rw [show fl false = 0 from rfl]
    rw [Int.zero_add]
    have hz := zb w
    go_enter Tryd.func27, Tryd.ntmps27
    go_wp2_with (first
      | (go_at_call 59; refine (rflag_any _ _).mono ?_; rw [show fl false = 0 from rfl]; rintro e w0 ⟨rfl, rfl⟩)
      | (go_at_call 58; refine (made_any 6 0 _ (by omega) (by omega) _).mono ?_; rintro e w1 ⟨rfl, hb1⟩; obtain ⟨p0, p1, p2, p3, p4, p5, p6, p7, z0, z1, z2, z3, z4, z5, z6, z7⟩ := z8 ((Has.new w _ _).below hb1)))
    refine bodyPost_ret (v := mk 6 0 n) (by simp [results, Tryd.results27, go_sem, *]) rfl ⟨rfl, ?_⟩
    exact (((((((((hz.trans (hb1.mono hz.size))).setCell (by simp) _).setCell (by simp) _).setCell (by simp) _).setCell (by simp) _).setCell (by simp) _).setCell (by simp) _).setCell (by simp) _).setCell (by simp) _
  · rw [show fl true = 1099511627776 from rfl]
    have hz := zb w
    go_enter Tryd.func27, Tryd.ntmps27
    go_wp2_with (first
      | (go_at_call 59; refine (rflag_any _ _).mono ?_; rw [show fl true = 1099511627776 from rfl]; rintro e w0 ⟨rfl, rfl⟩)
      | (go_at_call 58; refine (made_any 6 0 _ (by omega) (by omega) _).mono ?_; rintro e w1 ⟨rfl, hb1⟩; obtain ⟨p0, p1, p2, p3, p4, p5, p6, p7, z0, z1, z2, z3, z4, z5, z6, z7⟩ := z8 ((Has.new w _ _).below hb1)))
    refine bodyPost_ret (v := mk 6 0 (1099511627776 + n)) (by simp [results, Tryd.results27, go_sem, *]) rfl ⟨rfl, ?_⟩
    exact (((((((((hz.trans (hb1.mono hz.size))).setCell (by simp) _).setCell (by simp) _).setCell (by simp) _).setCell (by simp) _).setCell (by simp) _).setCell (by simp) _).setCell (by simp) _).setCell (by simp) _

theorem rlabel_any (is : Bool) (n : Int) (n0 : 0 ≤ n) (n1 : n < 4294967296) (w : World) :
    Calls Tryd.prog 21 #[.bool is, .int .u32 n] w fun en w' => en = .returned (.tuple #[labC is n, .int .i64 (labE n)]) ∧ Below w.heap.size w w' := by
  by_cases h : n ≤ 16777215
  · rw [show labC is n = mk 6 1 (fl is + n) from if_pos h, show labE n = 0 from if_pos h]
    cases is
    · rw [show fl false = 0 from rfl]
      rw [Int.zero_add]
      have hz := zb w
      go_enter Tryd.func21, Tryd.ntmps21
      go_wp2_with (first
        | (go_at_call 59; refine (rflag_any _ _).mono ?_; rw [show fl false = 0 from rfl]; rintro e w0 ⟨rfl, rfl⟩)
        | (go_at_call 58; refine (made_any 6 1 _ (by omega) (by omega) _).mono ?_; rintro e w1 ⟨rfl, hb1⟩; obtain ⟨p0, p1, p2, p3, p4, p5, p6, p7, z0, z1, z2, z3, z4, z5, z6, z7⟩ := z8 ((Has.new w _ _).below hb1)))
      refine bodyPost_ret (v := .tuple #[mk 6 1 n, .int .i64 0]) (by simp [results, Tryd.results21, go_sem, *]) rfl ⟨rfl, ?_⟩
      exact (((((((((hz.trans (hb1.mono hz.size))).setCell (by simp) _).setCell (by simp) _).setCell (by simp) _).setCell (by simp) _).setCell (by simp) _).setCell (by simp) _).setCell (by simp) _).setCell (by simp) _
    · rw [show fl true = 1099511627776 from rfl]
      have hz := zb w
      go_enter Tryd.func21, Tryd.ntmps21
      go_wp2_with (first
        | (go_at_call 59; refine (rflag_any _ _).mono ?_; rw [show fl true = 1099511627776 from rfl]; rintro e w0 ⟨rfl, rfl⟩)
        | (go_at_call 58; refine (made_any 6 1 _ (by omega) (by omega) _).mono ?_; rintro e w1 ⟨rfl, hb1⟩; obtain ⟨p0, p1, p2, p3, p4, p5, p6, p7, z0, z1, z2, z3, z4, z5, z6, z7⟩ := z8 ((Has.new w _ _).below hb1)))
      refine bodyPost_ret (v := .tuple #[mk 6 1 (1099511627776 + n), .int .i64 0]) (by simp [results, Tryd.results21, go_sem, *]) rfl ⟨rfl, ?_⟩
      exact (((((((((hz.trans (hb1.mono hz.size))).setCell (by simp) _).setCell (by simp) _).setCell (by simp) _).setCell (by simp) _).setCell (by simp) _).setCell (by simp) _).setCell (by simp) _).setCell (by simp) _
  · rw [show labC is n = zc from if_neg h, show labE n = 2 from if_neg h]
    have h1 : 16777215 < n := by omega
    have hz := zb w
    go_enter Tryd.func21, Tryd.ntmps21
    go_wp2_with fail
    refine bodyPost_ret (v := .tuple #[zc, .int .i64 2]) (by simp [results, Tryd.results21, go_sem]) rfl ⟨rfl, ?_⟩
    exact hz

theorem relection_any (a b : Int) (a0 : -9223372036854775808 ≤ a) (a1 : a ≤ 9223372036854775807) (b0 : -9223372036854775808 ≤ b) (b1 : b ≤ 9223372036854775807) (w : World) :
    Calls Tryd.prog 24 #[.int .i64 a, .int .i64 b] w fun en w' => en = .returned (.tuple #[eleC a b, .int .i64 (eleE a b)]) ∧ Below w.heap.size w w' := by
  by_cases h : 0 ≤ a ∧ a ≤ 31 ∧ 0 ≤ b ∧ b ≤ 65535
  · rw [show eleC a b = mk 6 6 (a * 1099511627776 + b) from if_pos h, show eleE a b = 0 from if_pos h]
    obtain ⟨h0, h1, h2, h3⟩ := h
    have hz := zb w
    go_enter Tryd.func24, Tryd.ntmps24
    go_wp2_with (first
      | (go_at_call 58; refine (made_any 6 6 _ (by omega) (by omega) _).mono ?_; rintro e w1 ⟨rfl, hb1⟩; obtain ⟨p0, p1, p2, p3, p4, p5, p6, p7, z0, z1, z2, z3, z4, z5, z6, z7⟩ := z8 ((Has.new w _ _).below hb1)))
    refine bodyPost_ret (v := .tuple #[mk 6 6 (a * 1099511627776 + b), .int .i64 0]) (by simp [results, Tryd.results24, go_sem, *]) rfl ⟨rfl, ?_⟩
    exact (((((((((hz.trans (hb1.mono hz.size))).setCell (by simp) _).setCell (by simp) _).setCell (by simp) _).setCell (by simp) _).setCell (by simp) _).setCell (by simp) _).setCell (by simp) _).setCell (by simp) _
  · rw [show eleC a b = zc from if_neg h, show eleE a b = 2 from if_neg h]
    by_cases h1 : a < 0
    · clear h
      have hz := zb w
      go_enter Tryd.func24, Tryd.ntmps24
      go_wp2_with fail
      refine bodyPost_ret (v := .tuple #[zc, .int .i64 2]) (by simp [results, Tryd.results24, go_sem]) rfl ⟨rfl, ?_⟩
      exact hz
    · have h1' : 0 ≤ a := by omega
      by_cases h2 : 31 < a
      · clear h
        have hz := zb w
        go_enter Tryd.func24, Tryd.ntmps24
        go_wp2_with fail
        refine bodyPost_ret (v := .tuple #[zc, .int .i64 2]) (by simp [results, Tryd.results24, go_sem]) rfl ⟨rfl, ?_⟩
        exact hz
      · have h2' : a ≤ 31 := by omega
        by_cases h3 : b < 0
        · clear h
          have hz := zb w
          go_enter Tryd.func24, Tryd.ntmps24
          go_wp2_with fail
          refine bodyPost_ret (v := .tuple #[zc, .int .i64 2]) (by simp [results, Tryd.results24, go_sem]) rfl ⟨rfl, ?_⟩
          exact hz
        · have h4 : 65535 < b := by omega
          have h3' : 0 ≤ b := by omega
          clear h
          have hz := zb w
          go_enter Tryd.func24, Tryd.ntmps24
          go_wp2_with fail
          refine bodyPost_ret (v := .tuple #[zc, .int .i64 2]) (by simp [results, Tryd.results24, go_sem]) rfl ⟨rfl, ?_⟩
          exact hz

theorem rimport_any (m : Int) (m0 : 0 ≤ m) (m1 : m < 18446744073709551616) (w : World) :
    Calls Tryd.prog 22 #[.int .u64 m] w fun en w' => en = .returned (.tuple #[macC 2 m, .int .i64 (macE m)]) ∧ Below w.heap.size w w' := by
  by_cases h : m ≤ 281474976710655
  · rw [show macC 2 m = mk 6 2 m from if_pos h, show macE m = 0 from if_pos h]
    have hz := zb w
    go_enter Tryd.func22, Tryd.ntmps22
    go_wp2_with (first
      | (go_at_call 58; refine (made_any 6 2 _ (by omega) (by omega) _).mono ?_; rintro e w1 ⟨rfl, hb1⟩; obtain ⟨p0, p1, p2, p3, p4, p5, p6, p7, z0, z1, z2, z3, z4, z5, z6, z7⟩ := z8 ((Has.new w _ _).below hb1)))
    refine bodyPost_ret (v := .tuple #[mk 6 2 m, .int .i64 0]) (by simp [results, Tryd.results22, go_sem, *]) rfl ⟨rfl, ?_⟩
    exact (((((((((hz.trans (hb1.mono hz.size))).setCell (by simp) _).setCell (by simp) _).setCell (by simp) _).setCell (by simp) _).setCell (by simp) _).setCell (by simp) _).setCell (by simp) _).setCell (by simp) _
  · rw [show macC 2 m = zc from if_neg h, show macE m = 2 from if_neg h]
    have h1 : 281474976710655 < m := by omega
    have hz := zb w
    go_enter Tryd.func22, Tryd.ntmps22
    go_wp2_with fail
    refine bodyPost_ret (v := .tuple #[zc, .int .i64 2]) (by simp [results, Tryd.results22, go_sem]) rfl ⟨rfl, ?_⟩
    exact hz

theorem rrouter_any (m : Int) (m0 : 0 ≤ m) (m1 : m < 18446744073709551616) (w : World) :
    Calls Tryd.prog 23 #[.int .u64 m] w fun en w' => en = .returned (.tuple #[macC 3 m, .int .i64 (macE m)]) ∧ Below w.heap.size w w' := by
  by_cases h : m ≤ 281474976710655
  · rw [show macC 3 m = mk 6 3 m from if_pos h, show macE m = 0 from if_pos h]
    have hz := zb w
    go_enter Tryd.func23, Tryd.ntmps23
    go_wp2_with (first
      | (go_at_call 58; refine (made_any 6 3 _ (by omega) (by omega) _).mono ?_; rintro e w1 ⟨rfl, hb1⟩; obtain ⟨p0, p1, p2, p3, p4, p5, p6, p7, z0, z1, z2, z3, z4, z5, z6, z7⟩ := z8 ((Has.new w _ _).below hb1)))
    refine bodyPost_ret (v := .tuple #[mk 6 3 m, .int .i64 0]) (by simp [results, Tryd.results23, go_sem, *]) rfl ⟨rfl, ?_⟩
    exact (((((((((hz.trans (hb1.mono hz.size))).setCell (by simp) _).setCell (by simp) _).setCell (by simp) _).setCell (by simp) _).setCell (by simp) _).setCell (by simp) _).setCell (by simp) _).setCell (by simp) _
  · rw [show macC 3 m = zc from if_neg h, show macE m = 2 from if_neg h]
    have h1 : 281474976710655 < m := by omega
    have hz := zb w
    go_enter Tryd.func23, Tryd.ntmps23
    go_wp2_with fail
    refine bodyPost_ret (v := .tuple #[zc, .int .i64 2]) (by simp [results, Tryd.results23, go_sem]) rfl ⟨rfl, ?_⟩
    exact hz

theorem mac5_any (m : Int) (m0 : 0 ≤ m) (m1 : m < 18446744073709551616) (w : World) (hw : GK w) :
    Calls Tryd.prog 50 #[.int .i64 5, .int .u64 m] w fun en w' => en = .returned (.tuple #[macC 2 m, .int .i64 (macE m)]) ∧ Below w.heap.size w w' := by
  by_cases h : m ≤ 281474976710655
  · rw [show macC 2 m = mk 6 2 m from if_pos h, show macE m = 0 from if_pos h]
    have hz := zb w
    have HW : Hid (GK (w.alloc (.cells zeros8 24))) := Lib.hid (hw.keep hz)
    go_enter Tryd.func50, Tryd.ntmps50
    go_wp2_with (first
      | (go_at_call 48; refine (build_5 _ (by omega) (by omega) _ HW.out).mono ?_; rintro e w1 ⟨rfl, hb1⟩; obtain ⟨p0, p1, p2, p3, p4, p5, p6, p7, z0, z1, z2, z3, z4, z5, z6, z7⟩ := z8 ((Has.new w _ _).below hb1)))
    refine bodyPost_ret (v := .tuple #[mk 6 2 m, .int .i64 0]) (by simp [results, Tryd.results50, go_sem, *]) rfl ⟨rfl, ?_⟩
    exact (((((((((hz.trans (hb1.mono hz.size))).setCell (by simp) _).setCell (by simp) _).setCell (by simp) _).setCell (by simp) _).setCell (by simp) _).setCell (by simp) _).setCell (by simp) _).setCell (by simp) _
  · rw [show macC 2 m = zc from if_neg h, show macE m = 2 from if_neg h]
    have h1 : 281474976710655 < m := by omega
    have hz := zb w
    go_enter Tryd.func50, Tryd.ntmps50
    go_wp2_with fail
    refine bodyPost_ret (v := .tuple #[zc, .int .i64 2]) (by simp [results, Tryd.results50, go_sem]) rfl ⟨rfl, ?_⟩
    exact hz

theorem import_any (m : Int) (m0 : 0 ≤ m) (m1 : m < 18446744073709551616) (w : World) (hw : GK w) :
    Calls Tryd.prog 12 #[.int .u64 m] w fun en w' => en = .returned (.tuple #[macC 2 m, .int .i64 (macE m)]) ∧ Below w.heap.size w w' := by
  obtain ⟨c0, c1, c2, c3, c4, c5, c6, c7, hc⟩ : ∃ a b c d e f g h, macC 2 m = cm a b c d e f g h := by
    unfold macC
    split
    · exact ⟨_, _, _, _, _, _, _, _, rfl⟩
    · exact ⟨_, _, _, _, _, _, _, _, rfl⟩
  have hm := mac5_any m m0 m1 (w.alloc (.cells zeros8 24)) (hw.keep (zb w))
  rw [hc] at hm ⊢
  clear hc
  have HM := Lib.hid hm
  clear hm
  have hz := zb w
  have HW : Hid (GK (w.alloc (.cells zeros8 24))) := Lib.hid (hw.keep hz)
  go_enter Tryd.func12, Tryd.ntmps12
  go_wp2_with (first
    | (go_at_call 50; refine HM.out.mono ?_; rintro e w1 ⟨rfl, hb1⟩; obtain ⟨p0, p1, p2, p3, p4, p5, p6, p7, z0, z1, z2, z3, z4, z5, z6, z7⟩ := z8 ((Has.new w _ _).below hb1)))
  refine bodyPost_ret (v := .tuple #[cm c0 c1 c2 c3 c4 c5 c6 c7, .int .i64 (macE m)]) (by simp [results, Tryd.results12, go_sem, *]) rfl ⟨rfl, ?_⟩
  exact (((((((((hz.trans (hb1.mono hz.size))).setCell (by simp) _).setCell (by simp) _).setCell (by simp) _).setCell (by simp) _).setCell (by simp) _).setCell (by simp) _).setCell (by simp) _).setCell (by simp) _

theorem mac6_any (m : Int) (m0 : 0 ≤ m) (m1 : m < 18446744073709551616) (w : World) (hw : GK w) :
    Calls Tryd.prog 50 #[.int .i64 6, .int .u64 m] w fun en w' => en = .returned (.tuple #[macC 3 m, .int .i64 (macE m)]) ∧ Below w.heap.size w w' := by
  by_cases h : m ≤ 281474976710655
  · rw [show macC 3 m = mk 6 3 m from if_pos h, show macE m = 0 from if_pos h]
    have hz := zb w
    have HW : Hid (GK (w.alloc (.cells zeros8 24))) := Lib.hid (hw.keep hz)
    go_enter Tryd.func50, Tryd.ntmps50
    go_wp2_with (first
      | (go_at_call 48; refine (build_6 _ (by omega) (by omega) _ HW.out).mono ?_; rintro e w1 ⟨rfl, hb1⟩; obtain ⟨p0, p1, p2, p3, p4, p5, p6, p7, z0, z1, z2, z3, z4, z5, z6, z7⟩ := z8 ((Has.new w _ _).below hb1)))
    refine bodyPost_ret (v := .tuple #[mk 6 3 m, .int .i64 0]) (by simp [results, Tryd.results50, go_sem, *]) rfl ⟨rfl, ?_⟩
    exact (((((((((hz.trans (hb1.mono hz.size))).setCell (by simp) _).setCell (by simp) _).setCell (by simp) _).setCell (by simp) _).setCell (by simp) _).setCell (by simp) _).setCell (by simp) _).setCell (by simp) _
  · rw [show macC 3 m = zc from if_neg h, show macE m = 2 from if_neg h]
    have h1 : 281474976710655 < m := by omega
    have hz := zb w
    go_enter Tryd.func50, Tryd.ntmps50
    go_wp2_with fail
    refine bodyPost_ret (v := .tuple #[zc, .int .i64 2]) (by simp [results, Tryd.results50, go_sem]) rfl ⟨rfl, ?_⟩
    exact hz

theorem router_any (m : Int) (m0 : 0 ≤ m) (m1 : m < 18446744073709551616) (w : World) (hw : GK w) :
    Calls Tryd.prog 13 #[.int .u64 m] w fun en w' => en = .returned (.tuple #[macC 3 m, .int .i64 (macE m)]) ∧ Below w.heap.size w w' := by
  obtain ⟨c0, c1, c2, c3, c4, c5, c6, c7, hc⟩ : ∃ a b c d e f g h, macC 3 m = cm a b c d e f g h := by
    unfold macC
    split
    · exact ⟨_, _, _, _, _, _, _, _, rfl⟩
    · exact ⟨_, _, _, _, _, _, _, _, rfl⟩
  have hm := mac6_any m m0 m1 (w.alloc (.cells zeros8 24)) (hw.keep (zb w))
  rw [hc] at hm ⊢
  clear hc
  have HM := Lib.hid hm
  clear hm
  have hz := zb w
  have HW : Hid (GK (w.alloc (.cells zeros8 24))) := Lib.hid (hw.keep hz)
  go_enter Tryd.func13, Tryd.ntmps13
  go_wp2_with (first
    | (go_at_call 50; refine HM.out.mono ?_; rintro e w1 ⟨rfl, hb1⟩; obtain ⟨p0, p1, p2, p3, p4, p5, p6, p7, z0, z1, z2, z3, z4, z5, z6, z7⟩ := z8 ((Has.new w _ _).below hb1)))
  refine bodyPost_ret (v := .tuple #[cm c0 c1 c2 c3 c4 c5 c6 c7, .int .i64 (macE m)]) (by simp [results, Tryd.results13, go_sem, *]) rfl ⟨rfl, ?_⟩
  exact (((((((((hz.trans (hb1.mono hz.size))).setCell (by simp) _).setCell (by simp) _).setCell (by simp) _).setCell (by simp) _).setCell (by simp) _).setCell (by simp) _).setCell (by simp) _).setCell (by simp) _

end Go.Proofs.YtofbgpgngplgpaaDoor
