/- The hash of bytes. -/
import Derived.Test.YtgdfpmnbofnjfaaZPl
namespace Go.Proofs.Ytgdfpmnbofnjfaa
open Go.RowKit Go.Shelf
set_option linter.unusedVariables false
set_option linter.unusedSimpArgs false
set_option maxRecDepth 100000

/-- One step of the hash, and the hash. -/
def fstp (h b : Int) : Int := IntKind.u32.wrap (bits BinOp.xor .u32 h b * 16777619)
def fnv (bs : List Int) : Int := bs.foldl fstp 2166136261
theorem fnv_take (bs : List Int) (k : Nat) (hk : k < bs.length) : fnv (bs.take (k + 1)) = fstp (fnv (bs.take k)) bs[k] := by
  unfold fnv
  rw [List.take_succ_eq_append_getElem hk, List.foldl_append]
  rfl
theorem fstp_bd (h b : Int) : 0 ≤ fstp h b ∧ fstp h b < 4294967296 := by
  have e : fstp h b = (bits BinOp.xor .u32 h b * 16777619) % 4294967296 := rfl
  rw [e]
  omega
theorem fnv_bd (bs : List Int) : 0 ≤ fnv bs ∧ fnv bs < 4294967296 := by
  by_cases h : bs = []
  · subst h; decide
  · obtain ⟨ys, y, rfl⟩ : ∃ ys y, bs = ys ++ [y] := ⟨bs.dropLast, bs.getLast h, (List.dropLast_concat_getLast h).symm⟩
    simp only [fnv, List.foldl_append, List.foldl_cons, List.foldl_nil]
    exact fstp_bd _ _

set_option maxHeartbeats 1000000 in
theorem hash_b (b o c : Nat) (A : Option Addr) (bs : List Int) (hA : 0 < bs.length → A = some ⟨b, o, none⟩) (hm : bs.length ≤ 1000000) (hby : ∀ v ∈ bs, 0 ≤ v ∧ v ≤ 255) (w : World) (hsl : 0 < bs.length → Sl w b o bs) :
    Calls Try.prog 32 #[.slice A bs.length c] w fun e w' => e = .returned (.int .u32 (fnv bs)) ∧ w = w' := by
  obtain ⟨n, hn⟩ : ∃ n, bs.length = n := ⟨_, rfl⟩
  rw [hn] at hm hA ⊢
  have HN := Lib.hid hn
  have HA := Lib.hid hA
  have HS := Lib.hid hsl
  have HB := Lib.hid hby
  clear hn hA hsl hby
  go_enter Try.func32, Try.ntmps32
  go_wp2
  go_loop [3, 7] (fun h i => ∃ k : Nat, k ≤ n ∧ i = .int .i64 k ∧ h = .int .u32 (fnv (bs.take k))) (fun _ i => n - (intOf i).toNat)
  case atStart => exact ⟨0, Nat.zero_le _, rfl, rfl⟩
  case round =>
    obtain ⟨k, hk, rfl, rfl⟩ := hrel
    obtain ⟨h, hh⟩ : ∃ h, fnv (bs.take k) = h := ⟨_, rfl⟩
    rw [hh]
    by_cases hlt : k < n
    · have hlt' : k < bs.length := by rw [HN.out]; exact hlt
      have hpos : 0 < n := by omega
      obtain rfl := HA.out hpos
      have hcell := HS.out (by omega) k hlt'
      obtain ⟨v, hv⟩ : ∃ v, bs[k] = v := ⟨_, rfl⟩
      obtain ⟨hv0, hv1⟩ := HB.out bs[k] (List.getElem_mem hlt')
      have hst := fnv_take bs k hlt'
      rw [hv] at hcell hv0 hv1
      rw [hv, hh] at hst
      have HSt : Hid (fnv (bs.take (k + 1)) = bits BinOp.xor .u32 h v * 16777619 % 4294967296) := Lib.hid hst
      clear hst hh hv hpos hlt'
      go_wp2
      go_round
      case rel => exact ⟨k + 1, by omega, by go_num, by rw [HSt.out]⟩
      case measure => simp [intOf]; omega
    · have HF : Hid (fnv bs = h) := Lib.hid (by rw [← hh, List.take_of_length_le (by rw [HN.out]; omega)])
      clear hh
      obtain rfl : k = n := by omega
      go_wp2
      go_ret
      exact ⟨by rw [HF.out]; rfl, rfl⟩
theorem hash_arr (v : Value) (bs : List Int) (w : World) (h : Arr w v bs) (hm : bs.length ≤ 1000000) (hby : ∀ v ∈ bs, 0 ≤ v ∧ v ≤ 255) :
    Calls Try.prog 15 #[v] w fun e w' => e = .returned (.int .u32 (fnv bs)) ∧ w = w' := by
  have H : ∃ A c b o, v = .slice A bs.length c ∧ (0 < bs.length → A = some ⟨b, o, none⟩) ∧ (0 < bs.length → Sl w b o bs) := by
    rcases h with ⟨rfl, rfl⟩ | ⟨ad, c, rfl, hc⟩
    · exact ⟨none, 0, 0, 0, rfl, fun h => by simp at h, fun h => by simp at h⟩
    · by_cases h0 : 0 < bs.length
      · obtain ⟨b, o, rfl, hs⟩ := hc.plain h0
        exact ⟨_, c, b, o, rfl, fun _ => rfl, fun _ => hs⟩
      · exact ⟨_, c, 0, 0, rfl, fun h => absurd h h0, fun h => absurd h h0⟩
  obtain ⟨A, c, b, o, rfl, h1, h2⟩ := H
  have HC := Lib.hid (hash_b b o c A bs h1 hm hby w h2)
  clear h h1 h2 hby
  go_enter Try.func15, Try.ntmps15
  go_wp2_with (go_at_call 32; refine HC.out.mono ?_; rintro e w' ⟨rfl, rfl⟩)
  go_ret
  exact ⟨rfl, rfl⟩

set_option maxHeartbeats 1000000 in
theorem hash_s (s : ByteArray) (bs : List Int) (hs : s.data.toList.map (fun c => (c.toNat : Int)) = bs) (hm : bs.length ≤ 1000000) (w : World) :
    Calls Try.prog 37 #[.string s] w fun e w' => e = .returned (.int .u32 (fnv bs)) ∧ w = w' := by
  have hn : s.size = bs.length := by rw [← hs]; simp
  have hat : ∀ k (h : k < s.size) (h2 : k < bs.length), ((s[k]).toNat : Int) = bs[k] := fun k h h2 => by
    subst hs
    simp
    rfl
  have HAt := Lib.hid hat
  have hm2 : s.size ≤ 1000000 := by omega
  have HN := Lib.hid hn
  clear hs hat hn hm
  go_enter Try.func37, Try.ntmps37
  go_wp2
  go_loop [3, 7] (fun h i => ∃ k : Nat, k ≤ s.size ∧ i = .int .i64 k ∧ h = .int .u32 (fnv (bs.take k))) (fun _ i => s.size - (intOf i).toNat)
  case atStart => exact ⟨0, Nat.zero_le _, rfl, rfl⟩
  case round =>
    obtain ⟨k, hk, rfl, rfl⟩ := hrel
    obtain ⟨h, hh⟩ : ∃ h, fnv (bs.take k) = h := ⟨_, rfl⟩
    rw [hh]
    by_cases hlt : k < s.size
    · have hlt' : k < bs.length := by rw [← HN.out]; exact hlt
      have hst := fnv_take bs k hlt'
      rw [hh, ← HAt.out k hlt hlt'] at hst
      have HSt : Hid (fnv (bs.take (k + 1)) = bits BinOp.xor .u32 h ((s[k]).toNat : Int) * 16777619 % 4294967296) := Lib.hid hst
      clear hst hh hlt'
      have hv0 : ((s[k]).toNat : Int) < 4294967296 := by have := (s[k]).toNat_lt; omega
      go_wp2
      go_round
      case rel => exact ⟨k + 1, by omega, by go_num, by rw [HSt.out]⟩
      case measure => simp [intOf]; omega
    · have HF : Hid (fnv bs = h) := Lib.hid (by rw [← hh, List.take_of_length_le (by rw [← HN.out]; omega)])
      clear hh
      obtain ⟨n, hn⟩ : ∃ n, s.size = n := ⟨_, rfl⟩
      have hkn : k = s.size := by omega
      rw [hkn]
      clear hn hkn hlt hk
      go_wp2
      go_ret
      exact ⟨by rw [HF.out]; rfl, rfl⟩

end Go.Proofs.Ytgdfpmnbofnjfaa
