/- Readers: the bytes that are taken, as numbers and as copies. -/
import Derived.Test.YtgdfpmnbofnjfaaRdB
namespace Go.Proofs.Ytgdfpmnbofnjfaa
open Go.RowKit

/-- From position o on block h holds these bytes. -/
def Sl (w : World) (h o : Nat) (xs : List Int) : Prop := ∀ j (hj : j < xs.length), w.cell? ⟨h, o + j, none⟩ = some (.int .u8 xs[j])

theorem Row.part {w : World} {h cap : Nat} {bs : List Int} (H : Row w h cap bs) (o n : Nat) : Sl w h o ((bs.drop o).take n) := by
  intro j hj
  simp at hj
  rw [H.cell (o + j) (by omega)]
  simp

theorem Row.all {w : World} {h cap : Nat} {bs : List Int} (H : Row w h cap bs) : Sl w h 0 bs := by
  intro j hj
  rw [Nat.zero_add, H.cell j hj]

theorem Sl.below {w w' : World} {h o : Nat} {xs : List Int} (H : Sl w h o xs) (hb : Below w.heap.size w w') : Sl w' h o xs := by
  intro j hj
  have h1 := H j hj
  have hlt : h < w.heap.size := by
    rcases Nat.lt_or_ge h w.heap.size with h' | h'
    · exact h'
    · simp [World.cell?, Array.getElem?_eq_none h'] at h1
  exact (hb.cell (p := ⟨h, o + j, none⟩) hlt).trans h1

/-- The number whose bytes are given, most significant byte first. -/
def num (xs : List Int) : Int := xs.foldl (fun n b => n * 256 + b) 0

theorem num_snoc (xs : List Int) (x : Int) : num (xs ++ [x]) = num xs * 256 + x := by simp [num]

theorem num_bound (xs : List Int) (h : ∀ v ∈ xs, 0 ≤ v ∧ v ≤ 255) : 0 ≤ num xs ∧ num xs < 256 ^ xs.length := by
  have key : ∀ n : Nat, n ≤ xs.length → 0 ≤ num (xs.take n) ∧ num (xs.take n) < 256 ^ n := by
    intro n
    induction n with
    | zero => intro _; simp [num]
    | succ n ih =>
      intro hn
      have i := ih (by omega)
      have hx := h (xs[n]'(by omega)) (List.getElem_mem _)
      rw [List.take_succ_eq_append_getElem (by omega), num_snoc, Int.pow_succ]
      omega
  have := key xs.length (Nat.le_refl _)
  rwa [List.take_length] at this

theorem pow_mono {a : Nat} (b : Nat) (h : a ≤ b) : (256 : Int) ^ a ≤ 256 ^ b := by
  obtain ⟨d, rfl⟩ := Nat.le.dest h
  induction d with
  | zero => exact Int.le_refl _
  | succ d ih =>
    have := ih (by omega)
    rw [show a + (d + 1) = (a + d) + 1 from rfl, Int.pow_succ]
    have hp : (0 : Int) < 256 ^ (a + d) := Int.pow_pos (by omega)
    omega

theorem or_byte (n b : Int) (h0 : 0 ≤ n) (h1 : n < 72057594037927936) (b0 : 0 ≤ b) (b1 : b ≤ 255) : bits BinOp.or .u64 (n * 256) b = n * 256 + b := by
  obtain ⟨m, rfl⟩ := Int.eq_ofNat_of_zero_le h0
  obtain ⟨c, rfl⟩ := Int.eq_ofNat_of_zero_le b0
  have e1 : BitVec.ofInt 64 ((m : Int) * 256) = BitVec.ofNat 64 (m * 256) := by apply BitVec.eq_of_toNat_eq; simp; omega
  have e2 : BitVec.ofInt 64 (c : Int) = BitVec.ofNat 64 c := by apply BitVec.eq_of_toNat_eq; simp
  have e3 : (BitVec.ofNat 64 (m * 256) ||| BitVec.ofNat 64 c).toNat = m * 256 + c := by
    rw [BitVec.toNat_or, BitVec.toNat_ofNat, BitVec.toNat_ofNat, Nat.mod_eq_of_lt (by omega), Nat.mod_eq_of_lt (by omega)]
    have := Nat.shiftLeft_add_eq_or_of_lt (i := 8) (b := c) (by omega) m
    rw [Nat.shiftLeft_eq] at this
    exact this.symm
  show IntKind.u64.wrap ((BitVec.ofInt 64 ((m : Int) * 256) ||| BitVec.ofInt 64 (c : Int)).toNat : Int) = _
  rw [e1, e2, e3]
  have e4 : IntKind.u64.wrap ((m * 256 + c : Nat) : Int) = ((m * 256 + c : Nat) : Int) % 18446744073709551616 := by rfl
  rw [e4]
  omega

theorem rget_nil (w : World) : Calls Try.prog 71 #[.slice none 0 0] w fun e w' => e = .returned (.int .u64 0) ∧ w = w' := by
  go_enter Try.func71, Try.ntmps71
  go_wp2
  go_loop [3, 8] (fun n i => i = .int .i64 0 ∧ n = .int .u64 0) (fun _ i => 0)
  case atStart => exact ⟨rfl, rfl⟩
  case round =>
    obtain ⟨rfl, rfl⟩ := hrel
    go_wp2
    go_ret
    exact ⟨rfl, rfl⟩

set_option maxHeartbeats 1000000 in
theorem rget (h o c : Nat) (xs : List Int) (n : Nat) (hn : xs.length = n) (w : World) (hl : n ≤ 8) (hx : ∀ v ∈ xs, 0 ≤ v ∧ v ≤ 255) (hc : Sl w h o xs) :
    Calls Try.prog 71 #[.slice (some ⟨h, o, none⟩) n c] w fun e w' => e = .returned (.int .u64 (num xs)) ∧ w = w' := by
  subst hn
  have HC := Lib.hid hc
  have HX := Lib.hid hx
  clear hc hx
  go_enter Try.func71, Try.ntmps71
  go_wp2
  go_loop [3, 8] (fun n i => ∃ k : Nat, k ≤ xs.length ∧ i = .int .i64 k ∧ n = .int .u64 (num (xs.take k))) (fun _ i => xs.length - (intOf i).toNat)
  case atStart => exact ⟨0, Nat.zero_le _, rfl, rfl⟩
  case round =>
    obtain ⟨k, hk, rfl, rfl⟩ := hrel
    by_cases hlt : k < xs.length
    · have hcell := HC.out k hlt
      obtain ⟨hx0, hx1⟩ := HX.out xs[k] (List.getElem_mem _)
      obtain ⟨x, hxe⟩ : ∃ x, xs[k] = x := ⟨_, rfl⟩
      rw [hxe] at hcell hx0 hx1
      obtain ⟨n, hne⟩ : ∃ n, num (xs.take k) = n := ⟨_, rfl⟩
      have hn := num_bound (xs.take k) (fun v hv => HX.out v (List.mem_of_mem_take hv))
      rw [hne] at hn ⊢
      have HS : Hid (num (xs.take (k + 1)) = n * 256 + x) := Lib.hid (by rw [List.take_succ_eq_append_getElem hlt, num_snoc, hne, hxe])
      have hn0 : 0 ≤ n := hn.1
      have hn1 : n < 72057594037927936 := by
        have h2 := hn.2
        have hle : (List.take k xs).length ≤ 7 := by simp; omega
        have := pow_mono 7 hle
        omega
      have hor := or_byte n x hn0 hn1 hx0 hx1
      clear hn hxe hne
      go_wp2
      go_round
      case rel => exact ⟨k + 1, by omega, by go_num, by rw [HS.out]⟩
      case measure => simp [intOf]; omega
    · have hke : k = xs.length := by omega
      subst hke
      go_wp2
      go_ret
      exact ⟨by simp, rfl⟩

theorem fault_err (a b : Int) (w : World) : (Instr.field 37 (.agg #[.int .i64 a, .int .i64 b]) 0).run Try.prog w = .ok (.int .i64 a) w := by kernel_rfl

set_option maxRecDepth 100000
theorem rtake_fault (g h cap : Nat) (bs : List Int) (st p : Nat) (ef ea : Int) (w : World) (H : Rd w g h cap bs st p ef ea) (n : Int) (hf : (ef != 0) = true) :
    Calls Try.prog 70 #[.pointer (some ⟨g, 0, none⟩), .int .i64 n] w fun e w' => e = .returned (.slice none 0 0) ∧ Below w.heap.size w w' := by
  have hfld := fault_err ef ea
  go_enter Try.func70, Try.ntmps70
  go_wp2_with (go_at_call 83; refine (rfault _ _ _ _ _ _ _ _ _ H).mono ?_; rintro e w' ⟨rfl, rfl⟩)
  go_ret
  exact ⟨rfl, (Below.refl _ w).alloc (Nat.le_refl _) _⟩

theorem rtake_nil (w : World) (n : Int) :
    Calls Try.prog 70 #[.pointer none, .int .i64 n] w fun e w' => e = .returned (.slice none 0 0) ∧ Below w.heap.size w w' := by
  have hfld := fault_err 1 0
  go_enter Try.func70, Try.ntmps70
  go_wp2_with (go_at_call 83; refine (rfault_nil _).mono ?_; rintro e w' ⟨rfl, rfl⟩)
  go_ret
  exact ⟨rfl, (Below.refl _ w).alloc (Nat.le_refl _) _⟩

theorem rtake_short (g h cap : Nat) (bs : List Int) (st p : Nat) (ea : Int) (w : World) (H : Rd w g h cap bs st p 0 ea) (n : Int) (hn : n < 0 ∨ ((st + bs.length - p : Nat) : Int) < n) :
    Calls Try.prog 70 #[.pointer (some ⟨g, 0, none⟩), .int .i64 n] w fun e w' => e = .returned (.slice none 0 0) ∧ Rd w' g h cap bs st p 4 p ∧ Only w g w' := by
  have H1 := H.below ((Below.refl _ w).alloc (Nat.le_refl _) (.cells #[.int .i64 0, .int .i64 ea] 37))
  have ho1 := only_alloc (only_refl w g) (.cells #[.int .i64 0, .int .i64 ea] 37)
  have HH : Hid (Rd w g h cap bs st p 0 ea) := Lib.hid H
  have HO : Hid (Only w g (w.alloc (.cells #[.int .i64 0, .int .i64 ea] 37))) := Lib.hid ho1
  clear H ho1
  have hfld := fault_err 0 ea
  rcases hn with hn | hn
  · go_enter Try.func70, Try.ntmps70
    go_wp2_with (first
      | (go_at_call 83; refine (rfault _ _ _ _ _ _ _ _ _ HH.out).mono ?_; rintro e w' ⟨rfl, rfl⟩)
      | (go_at_call 85; refine (rfail_yes _ _ _ _ _ _ _ _ H1 4 rfl).mono ?_; rintro e w' ⟨rfl, h2, h3⟩))
    go_ret
    exact ⟨rfl, h2, only_trans HO.out h3⟩
  · have hn0 : 0 ≤ n := by omega
    go_enter Try.func70, Try.ntmps70
    go_wp2_with (first
      | (go_at_call 83; refine (rfault _ _ _ _ _ _ _ _ _ HH.out).mono ?_; rintro e w' ⟨rfl, rfl⟩)
      | (go_at_call 84; refine (rleft _ _ _ _ _ _ _ _ _ H1).mono ?_; rintro e w' ⟨rfl, nq, rfl⟩)
      | (go_at_call 85; refine (rfail_yes _ _ _ _ _ _ _ _ (H1.drewN nq) 4 rfl).mono ?_; rintro e w' ⟨rfl, h2, h3⟩))
    go_ret
    exact ⟨rfl, h2, only_trans (only_drewN HO.out nq) h3⟩

end Go.Proofs.Ytgdfpmnbofnjfaa
