/- Packets: the document's small functions, Sum and Take. -/
import Derived.Test.YtgdfpmnbofnjfaaPkG
import Derived.Test.YtgdfpmnbofnjfaaPkI
namespace Go.Proofs.Ytgdfpmnbofnjfaa
open Go.RowKit Go.Shelf
set_option linter.unusedVariables false
set_option linter.unusedSimpArgs false
set_option maxRecDepth 100000

theorem rported_any (n : Int) (w : World) : Calls Try.prog 61 #[.int .i64 n] w fun e w' => e = .returned (.bool (pd n)) ∧ w = w' := by
  go_enter Try.func61, Try.ntmps61
  by_cases h6 : n = 6
  · subst h6
    go_wp2
    go_ret
    exact ⟨rfl, rfl⟩
  by_cases h7 : n = 17
  · subst h7
    go_wp2
    go_ret
    exact ⟨rfl, rfl⟩
  have e6 : (n == 6) = false := by simpa using h6
  have e7 : (n == 17) = false := by simpa using h7
  go_wp2
  go_ret
  exact ⟨by simp [pd, e6, e7], rfl⟩

theorem and_one (s : Int) (h0 : 0 ≤ s) (h1 : s < 18446744073709551616) : bits BinOp.and .u64 s 1 = s % 2 := by
  obtain ⟨m, rfl⟩ := Int.eq_ofNat_of_zero_le h0
  have e1 : BitVec.ofInt 64 (m : Int) = BitVec.ofNat 64 m := by apply BitVec.eq_of_toNat_eq; simp
  have e2 : BitVec.ofInt 64 1 = BitVec.ofNat 64 1 := by rfl
  have e3 : (BitVec.ofNat 64 m &&& BitVec.ofNat 64 1).toNat = m % 2 := by
    rw [BitVec.toNat_and, BitVec.toNat_ofNat, BitVec.toNat_ofNat, Nat.mod_eq_of_lt (by omega), Nat.mod_eq_of_lt (by omega)]
    exact Nat.and_two_pow_sub_one_eq_mod m 1
  show IntKind.u64.wrap ((BitVec.ofInt 64 (m : Int) &&& BitVec.ofInt 64 1).toNat : Int) = _
  rw [e1, e2, e3]
  have e4 : IntKind.u64.wrap ((m % 2 : Nat) : Int) = ((m % 2 : Nat) : Int) % 18446744073709551616 := by rfl
  rw [e4]
  omega
theorem and_low64 (s : Int) (h0 : 0 ≤ s) (h1 : s < 18446744073709551616) : bits BinOp.and .u64 s 65535 = s % 65536 := by
  obtain ⟨m, rfl⟩ := Int.eq_ofNat_of_zero_le h0
  have e1 : BitVec.ofInt 64 (m : Int) = BitVec.ofNat 64 m := by apply BitVec.eq_of_toNat_eq; simp
  have e2 : BitVec.ofInt 64 65535 = BitVec.ofNat 64 65535 := by rfl
  have e3 : (BitVec.ofNat 64 m &&& BitVec.ofNat 64 65535).toNat = m % 65536 := by
    rw [BitVec.toNat_and, BitVec.toNat_ofNat, BitVec.toNat_ofNat, Nat.mod_eq_of_lt (by omega), Nat.mod_eq_of_lt (by omega)]
    exact Nat.and_two_pow_sub_one_eq_mod m 16
  show IntKind.u64.wrap ((BitVec.ofInt 64 (m : Int) &&& BitVec.ofInt 64 65535).toNat : Int) = _
  rw [e1, e2, e3]
  have e4 : IntKind.u64.wrap ((m % 65536 : Nat) : Int) = ((m % 65536 : Nat) : Int) % 18446744073709551616 := by rfl
  rw [e4]
  omega
theorem rmulti_any (s : Int) (h0 : 0 ≤ s) (h1 : s ≤ 281474976710655) (w : World) : Calls Try.prog 63 #[.int .u64 s] w fun e w' => e = .returned (.bool (mc s)) ∧ w = w' := by
  have hb := and_one (s / 1099511627776) (by omega) (by omega)
  go_enter Try.func63, Try.ntmps63
  go_wp2
  go_ret
  exact ⟨by simp [mc], rfl⟩

theorem wsum_snoc : ∀ (l : List Int) (v : Int), wsum (l ++ [v]) = wsum l + v * wt l.length
  | [], v => by simp [wsum, wt]
  | [a], v => by simp only [List.cons_append, List.nil_append, wsum, wt, List.length_singleton]; simp
  | a :: b :: r, v => by
    have ih := wsum_snoc r v
    simp only [List.cons_append, wsum, List.length_cons]
    rw [ih, show wt (r.length + 1 + 1) = wt r.length by unfold wt; rw [show r.length + 1 + 1 = r.length + 2 from rfl, Nat.add_mod_right]]
    omega
theorem wsum_le : ∀ (l : List Int), (∀ v ∈ l, 0 ≤ v ∧ v ≤ 255) → 0 ≤ wsum l ∧ wsum l ≤ 65280 * l.length
  | [], _ => by simp [wsum]
  | [a], h => by
    have := h a (by simp)
    simp only [wsum, List.length_singleton]
    omega
  | a :: b :: r, h => by
    have h1 := h a (by simp)
    have h2 := h b (by simp)
    have ih := wsum_le r (fun u hu => h u (by simp [hu]))
    simp only [wsum, List.length_cons]
    omega
theorem ocs_fold {s : Int} (h : 65535 < s) : ocs (s % 65536 + s / 65536) = ocs s := by
  unfold ocs
  rw [if_neg (by omega), if_neg (by omega)]
  omega
theorem ocs_small {s : Int} (h0 : 0 ≤ s) (h : s ≤ 65535) : ocs s = s := by
  unfold ocs
  split
  · omega
  · omega

set_option maxHeartbeats 1000000 in
theorem rsum_b (bs : List Int) (b o c : Nat) (A : Option Addr) (hA : 0 < bs.length → A = some ⟨b, o, none⟩) (hm : bs.length ≤ 100000) (hby : ∀ v ∈ bs, 0 ≤ v ∧ v ≤ 255) (w : World) (hsl : 0 < bs.length → Sl w b o bs) :
    Calls Try.prog 62 #[.slice A bs.length c] w fun e w' => e = .returned (.int .u16 (sumP bs)) ∧ w = w' := by
  have HFin := Lib.hid (sumP_ocs hby)
  have HS := Lib.hid hsl
  have HX := Lib.hid hby
  have HT := Lib.hid (wsum_le bs hby)
  clear hsl hby
  go_enter Try.func62, Try.ntmps62
  go_wp2
  go_loop [3, 4] (fun s i => ∃ k : Nat, k ≤ bs.length ∧ i = .int .i64 k ∧ s = .int .u64 (wsum (bs.take k))) (fun _ i => bs.length - (intOf i).toNat)
  case atStart => exact ⟨0, Nat.zero_le _, rfl, rfl⟩
  case round =>
    obtain ⟨k, hk, rfl, rfl⟩ := hrel
    by_cases hlt : k < bs.length
    · have hcell := HS.out (by omega) k hlt
      have hA0 := hA (by omega)
      obtain ⟨hx0, hx1⟩ := HX.out bs[k] (List.getElem_mem _)
      obtain ⟨x, hxe⟩ : ∃ x, bs[k] = x := ⟨_, rfl⟩
      rw [hxe] at hcell hx0 hx1
      have hle := wsum_le (bs.take k) (fun v hv => HX.out v (List.mem_of_mem_take hv))
      have hln : (bs.take k).length = k := by simp; omega
      have HSt : Hid (wsum (bs.take (k + 1)) = wsum (bs.take k) + x * wt k) := Lib.hid (by rw [List.take_succ_eq_append_getElem hlt, wsum_snoc, hln, hxe])
      rw [hln] at hle
      obtain ⟨s, hs⟩ : ∃ s, wsum (bs.take k) = s := ⟨_, rfl⟩
      rw [hs] at hle ⊢
      rw [hs] at HSt
      obtain ⟨hs0, hs1⟩ := hle
      subst hA0
      have hkl : (k : Int) < (bs.length : Int) := by omega
      clear hxe hln hs hA
      by_cases hp : k % 2 = 0
      · have HW : Hid (wt k = 256) := Lib.hid (by unfold wt; rw [if_pos hp])
        have hp2 : (k : Int).tmod 2 = 0 := by rw [Int.tmod_eq_emod_of_nonneg (by omega)]; omega
        have hp3 : (k : Int) % 2 = 0 := by omega
        have hu : s + x * 256 < 18446744073709551616 := by omega
        go_wp2
        go_round
        case rel => exact ⟨k + 1, by omega, by go_num, by rw [HSt.out, HW.out]⟩
        case measure => simp [intOf]; omega
      · have HW : Hid (wt k = 1) := Lib.hid (by unfold wt; rw [if_neg hp])
        have hp2 : (k : Int).tmod 2 = 1 := by rw [Int.tmod_eq_emod_of_nonneg (by omega)]; omega
        have hp3 : (k : Int) % 2 = 1 := by omega
        go_wp2
        go_round
        case rel => exact ⟨k + 1, by omega, by go_num, by rw [HSt.out, HW.out, Int.mul_one]⟩
        case measure => simp [intOf]; omega
    · have hke : k = bs.length := by omega
      subst hke
      rw [List.take_length]
      obtain ⟨t, ht⟩ : ∃ t, wsum bs = t := ⟨_, rfl⟩
      rw [ht] at HT HFin ⊢
      obtain ⟨ht0, ht1⟩ := HT.out
      clear hk hlt ht
      go_wp2
      go_loop [3] (fun s => ∃ n : Nat, s = .int .u64 n ∧ (n : Int) ≤ t ∧ ocs n = ocs t) (fun s => (intOf s).toNat)
      case atStart =>
        obtain ⟨n, rfl⟩ := Int.eq_ofNat_of_zero_le ht0
        exact ⟨n, rfl, Int.le_refl _, rfl⟩
      case round =>
        obtain ⟨n, rfl, hnt, hoc⟩ := hrel
        by_cases hgt : (65535 : Int) < (n : Int)
        · have hand := and_low64 n (by omega) (by omega)
          have HO : Hid (ocs ((n : Int) % 65536 + (n : Int) / 65536) = ocs t) := Lib.hid ((ocs_fold hgt).trans hoc)
          clear hoc
          go_wp2
          go_round
          case rel => exact ⟨n % 65536 + n / 65536, by go_num, by omega, by have := HO.out; simpa using this⟩
          case measure => simp [intOf]; omega
        · have hx := xor16 n (by omega) (by omega)
          have HO : Hid (sumP bs = 65535 - (n : Int)) := Lib.hid (by rw [HFin.out, ← hoc, ocs_small (by omega) (by omega)])
          clear hoc
          go_wp2
          all_goals first | (rename_i h9; exact absurd h9 (by decide)) | skip
          go_ret
          exact ⟨by rw [HO.out]; rfl, rfl⟩
theorem rsum_arr (v : Value) (bs : List Int) (w : World) (h : Arr w v bs) (hm : bs.length ≤ 100000) (hby : ∀ v ∈ bs, 0 ≤ v ∧ v ≤ 255) :
    Calls Try.prog 62 #[v] w fun e w' => e = .returned (.int .u16 (sumP bs)) ∧ w = w' := by
  rcases h with ⟨rfl, rfl⟩ | ⟨ad, c, rfl, h2⟩
  · exact rsum_b [] 0 0 0 none (fun h => by simp at h) (by simp) (by simp) w (fun h => by simp at h)
  · by_cases h0 : 0 < bs.length
    · obtain ⟨b, o, rfl, hs⟩ := h2.plain h0
      exact rsum_b bs b o c _ (fun _ => rfl) hm hby w (fun _ => hs)
    · exact rsum_b bs 0 0 c _ (fun h => absurd h h0) hm hby w (fun h => absurd h h0)

theorem wrap_u64 (n : Int) (h : 0 ≤ n) (h2 : n < 18446744073709551616) : IntKind.u64.wrap n = n := wr64 n h h2
theorem add_byte (n b : Int) (h0 : 0 ≤ n) (h1 : n < 72057594037927936) (b0 : 0 ≤ b) (b1 : b ≤ 255) : IntKind.u64.wrap (n * 256) = n * 256 ∧ IntKind.u64.wrap (n * 256 + b) = n * 256 + b :=
  ⟨wrap_u64 _ (by omega) (by omega), wrap_u64 _ (by omega) (by omega)⟩

set_option maxHeartbeats 1000000 in
theorem rtake_any (b o c n : Nat) (xs : List Int) (hn : xs.length = n) (a s : Nat) (ha1 : a ≤ 1000) (hs1 : s ≤ 8) (hm : n ≤ 1000) (hf : a + s ≤ n) (hx : ∀ v ∈ xs, 0 ≤ v ∧ v ≤ 255) (w : World) (hc : Sl w b o xs) :
    Calls Try.prog 39 #[.slice (some ⟨b, o, none⟩) n c, .int .i64 a, .int .i64 s] w fun e w' => e = .returned (.int .u64 (nm xs a s)) ∧ w = w' := by
  subst hn
  unfold nm
  have HC := Lib.hid hc
  have HX := Lib.hid hx
  clear hc hx
  go_enter Try.func39, Try.ntmps39
  go_wp2
  go_loop [7, 8] (fun n i => ∃ k : Nat, k ≤ s ∧ i = .int .i64 k ∧ n = .int .u64 (num ((xs.drop a).take k))) (fun _ i => s - (intOf i).toNat)
  case atStart => exact ⟨0, Nat.zero_le _, rfl, rfl⟩
  case round =>
    obtain ⟨k, hk, rfl, rfl⟩ := hrel
    by_cases hlt : k < s
    · have hcell := HC.out (a + k) (by omega)
      obtain ⟨hx0, hx1⟩ := HX.out xs[a + k] (List.getElem_mem _)
      obtain ⟨x, hxe⟩ : ∃ x, xs[a + k] = x := ⟨_, rfl⟩
      rw [hxe] at hcell hx0 hx1
      obtain ⟨n, hne⟩ : ∃ n, num ((xs.drop a).take k) = n := ⟨_, rfl⟩
      have hn := num_bound ((xs.drop a).take k) (fun v hv => HX.out v (List.mem_of_mem_drop (List.mem_of_mem_take hv)))
      rw [hne] at hn ⊢
      have HS : Hid (num ((xs.drop a).take (k + 1)) = n * 256 + x) := Lib.hid (by rw [List.take_succ_eq_append_getElem (by simp; omega), num_snoc, hne, List.getElem_drop, hxe])
      have hn0 : 0 ≤ n := hn.1
      have hn1 : n < 72057594037927936 := by
        have h2 := hn.2
        have hle : ((xs.drop a).take k).length ≤ 7 := by simp; omega
        have := pow_mono 7 hle
        omega
      obtain ⟨hw1, hw2⟩ := add_byte n x hn0 hn1 hx0 hx1
      clear hn hxe hne
      go_wp2
      go_round
      case rel => exact ⟨k + 1, by omega, by go_num, by rw [HS.out]⟩
      case measure => simp [intOf]; omega
    · have hke : k = s := by omega
      subst hke
      go_wp2
      go_ret
      exact ⟨rfl, rfl⟩

end Go.Proofs.Ytgdfpmnbofnjfaa
