/- Packets that carry frames: the document's header, Check, Hash; written by gen_vya.py. -/
import Derived.Test.YtgdfpmnbofnjfaaZVxM
import Derived.Test.YtgdfpmnbofnjfaaZVxF
namespace Go.Proofs.Ytgdfpmnbofnjfaa
open Go.RowKit Go.Shelf
set_option linter.unusedVariables false
set_option linter.unusedSimpArgs false
set_option maxRecDepth 100000

/-- A header whose checksum is written behind. -/
theorem ghdr_set (z t p a b s : Int) (h0 : 0 ≤ s) (h1 : s ≤ 65535) : ((ghdr z t p 0 a b).set 10 (s / 256)).set 11 (s % 256) = ghdr z t p s a b := by
  have e1 : s / 256 ^ 1 % 256 = s / 256 := by
    have : (256 : Int) ^ 1 = 256 := by decide
    omega
  have e0 : s / 256 ^ 0 % 256 = s % 256 := by
    have : (256 : Int) ^ 0 = 1 := by decide
    omega
  simp only [ghdr, be, List.cons_append, List.nil_append, List.set_cons_succ, List.set_cons_zero, e1, e0]

set_option maxHeartbeats 4000000 in
theorem grheader (z t p a b : Int) (ha : 0 ≤ a ∧ a < 4294967296) (hb : 0 ≤ b ∧ b < 4294967296) (ht : 0 ≤ t ∧ t ≤ 255) (hp : 0 ≤ p ∧ p ≤ 255) (hz2 : 0 ≤ z ∧ z ≤ 1100) (w : World) :
    Calls Try.prog 34 #[.int .i64 z, .int .i64 t, .int .i64 p, .int .u32 a, .int .u32 b] w fun e w' => ∃ g c, e = .returned (.slice (some ⟨g, 0, none⟩) 20 c) ∧ Row w' g c (ghdrS z t p a b) ∧ w.heap.size ≤ g ∧ Below w.heap.size w w' := by
  obtain ⟨hhs0, hhs1⟩ := ha
  obtain ⟨hhd0, hhd1⟩ := hb
  obtain ⟨htl0, htl1⟩ := ht
  obtain ⟨hpr0, hpr1⟩ := hp
  obtain ⟨hz0, hz1⟩ := hz2
  have HO1 : Hid (O5 (w.alloc (.cells #[.int .u8 69, .int .u8 0] 5)) [w.heap.size] (.slice (some ⟨w.heap.size, 0, none⟩) 2 2) [69, 0]) := Lib.hid (O5.row (Row.new w [69, 0] _ rfl (by decide)) rfl)
  have HN1 : Hid (Next w [] (w.alloc (.cells #[.int .u8 69, .int .u8 0] 5)) [w.heap.size]) := Lib.hid ⟨turn_below ((Below.refl _ w).alloc (Nat.le_refl _) _) [], fun k hk => .inr (by rw [List.mem_singleton] at hk; omega)⟩
  obtain ⟨P1, hP1⟩ : ∃ P, [69, 0] ++ be z 2 = P := ⟨_, rfl⟩
  obtain ⟨P2, hP2⟩ : ∃ P, P1 ++ [0, 0, 0, 0, t, p, 0, 0] = P := ⟨_, rfl⟩
  obtain ⟨P3, hP3⟩ : ∃ P, P2 ++ be a 4 = P := ⟨_, rfl⟩
  have hP4 : P3 ++ be b 4 = ghdr z t p 0 a b := by
    have e1 : be t 1 = [t] := by simp [be]; omega
    have e2 : be p 1 = [p] := by simp [be]; omega
    have e3 : be 17664 2 = [69, 0] := by decide
    have e4 : be 0 4 = [0, 0, 0, 0] := by decide
    have e5 : be 0 2 = [0, 0] := by decide
    rw [← hP3, ← hP2, ← hP1]
    unfold ghdr
    rw [e1, e2, e3, e4, e5]
    simp only [List.append_assoc, List.cons_append, List.nil_append]
  have hl1 : P1.length = 4 := by rw [← hP1]; simp [be_length]
  have hl2 : P2.length = 12 := by rw [← hP2]; simp [hl1]
  have hl3 : P3.length = 16 := by rw [← hP3]; simp [hl2, be_length]
  have HL := Lib.hid (And.intro hl1 (And.intro hl2 hl3))
  have HP1 := Lib.hid hP1
  have HP2 := Lib.hid hP2
  have HP3 := Lib.hid hP3
  have HP4 := Lib.hid hP4
  have hsm := sumP_le (ghdr z t p 0 a b) (ghdr_byte z t p 0 a b)
  obtain ⟨s, hs⟩ : ∃ s, sumP (ghdr z t p 0 a b) = s := ⟨_, rfl⟩
  rw [hs] at hsm
  have HSum : Hid (∀ (W : World) (v : Value), Arr W v (ghdr z t p 0 a b) → Calls Try.prog 62 #[v] W fun e w' => e = .returned (.int .u16 s) ∧ W = w') := Lib.hid (fun W v h => hs ▸ rsum_arr v (ghdr z t p 0 a b) W h (by rw [ghdr_len]; decide) (ghdr_byte z t p 0 a b))
  have HFin : Hid (((ghdr z t p 0 a b).set 10 (s / 256)).set 11 (s % 256) = ghdrS z t p a b) := Lib.hid (by rw [ghdr_set z t p a b s hsm.1 hsm.2]; unfold ghdrS; rw [hs])
  obtain ⟨hs0, hs1⟩ := hsm
  have hw1 : IntKind.u8.wrap (s / 256) = s / 256 := by
    have e : IntKind.u8.wrap (s / 256) = (s / 256) % 256 := by rfl
    rw [e]; omega
  have hw2 : IntKind.u8.wrap s = s % 256 := by rfl
  clear hP1 hP2 hP3 hP4 hl1 hl2 hl3 hs
  go_enter Try.func34, Try.ntmps34
  go_wp2_with fail
  refine (rput7_2 _ _ [69, 0] z ⟨by omega, by omega⟩ (by decide) _ HO1.out).mono ?_
  rw [HP1.out]
  rintro e w2 ⟨A2, c2, l2, rfl, ho2, hn2⟩
  have HO2 := Lib.hid ho2
  have HN2 := Lib.hid (HN1.out.trans hn2)
  clear ho2 hn2 HO1 HN1
  have HO2k : Hid (O5 (w2.alloc (.cells #[.int .u8 0, .int .u8 0, .int .u8 0, .int .u8 0, .int .u8 t, .int .u8 p, .int .u8 0, .int .u8 0] 5)) l2 (.slice A2 P1.length c2) P1) := Lib.hid (HO2.out.below ((Below.refl _ w2).alloc (Nat.le_refl _) _))
  have HN2k : Hid (Next w [] (w2.alloc (.cells #[.int .u8 0, .int .u8 0, .int .u8 0, .int .u8 0, .int .u8 t, .int .u8 p, .int .u8 0, .int .u8 0] 5)) l2) := Lib.hid (HN2.out.trans (Next.of_below ((Below.refl _ w2).alloc (Nat.le_refl _) _) _))
  go_wp2_with (at_builtin; refine wpList_app5 rfl (.tmp 17) (.tmp 22) rfl HO2k.out rfl ⟨w2.heap.size, 0, none⟩ 8 [0, 0, 0, 0, t, p, 0, 0] rfl news5 (by have := HL.out.1; simp; omega) (some 23) rfl ?_; rw [HP2.out]; intro A3 c3 w3 l3 ho3 hn3; have HO3 := Lib.hid ho3; have HN3 := Lib.hid (HN2k.out.trans hn3); clear ho3 hn3 HO2 HN2 HO2k HN2k)
  refine (rput7_4 _ _ P2 a ⟨by omega, by omega⟩ (by rw [HL.out.2.1]; decide) _ HO3.out).mono ?_
  rw [HP3.out]
  rintro e w4 ⟨A4, c4, l4, rfl, ho4, hn4⟩
  have HO4 := Lib.hid ho4
  have HN4 := Lib.hid (HN3.out.trans hn4)
  clear ho4 hn4 HO3 HN3
  go_wp2_with fail
  refine (rput7_4 _ _ P3 b ⟨by omega, by omega⟩ (by rw [HL.out.2.2]; decide) _ HO4.out).mono ?_
  rw [HP4.out]
  rintro e w5 ⟨A5, c5, l5, rfl, ho5, hn5⟩
  have HN5 := Lib.hid (HN4.out.trans hn5)
  have hlen := ghdr_len z t p 0 a b
  rw [hlen] at ho5 ⊢
  obtain ⟨g, rfl, hrow, rfl⟩ := ho5.to (by rw [hlen]; decide) hlen
  have HR := Lib.hid hrow
  have HG : Hid (w.heap.size ≤ g) := Lib.hid ((HN5.out.below (by simp) (Nat.le_refl _)).2 g (by simp))
  have HB : Hid (Below w.heap.size w w5) := Lib.hid (HN5.out.below (by simp) (Nat.le_refl _)).1
  clear ho5 hn5 HO4 HN4 hrow HN5 hlen
  go_wp2_with fail
  refine (HSum.out _ _ (row_arr HR.out (ghdr_len z t p 0 a b))).mono ?_
  rintro e w6 ⟨rfl, rfl⟩
  have q0 := HR.out.cell 10 (by rw [ghdr_len]; decide)
  have q1 := HR.out.cell 11 (by rw [ghdr_len]; decide)
  obtain ⟨y0, hy0⟩ : ∃ y, (ghdr z t p 0 a b)[10]'(by rw [ghdr_len]; decide) = y := ⟨_, rfl⟩
  obtain ⟨y1, hy1⟩ : ∃ y, (ghdr z t p 0 a b)[11]'(by rw [ghdr_len]; decide) = y := ⟨_, rfl⟩
  rw [hy0] at q0
  rw [hy1] at q1
  have p0 : w5.frozen? ⟨g, 10, none⟩ = false := by
    obtain ⟨_, h1, _⟩ := HR.out
    exact h1.free _
  have p1 : w5.frozen? ⟨g, 11, none⟩ = false := by
    obtain ⟨_, h1, _⟩ := HR.out
    exact h1.free _
  have HRf := Lib.hid ((HR.out.set_ 10 (s / 256)).set_ 11 (s % 256))
  have HBf := Lib.hid ((HB.out.setCell (p := ⟨g, 10, none⟩) HG.out (.int .u8 (s / 256))).setCell (p := ⟨g, 11, none⟩) HG.out (.int .u8 (s % 256)))
  rw [HFin.out] at HRf
  clear hy0 hy1
  go_wp2_with fail
  go_ret
  exact ⟨g, c5, rfl, HRf.out, HG.out, HBf.out⟩

theorem rput7_3 (l : List Nat) (v : Value) (xs : List Int) (n : Int) (h : 0 ≤ n ∧ n < 18446744073709551616) (hx : xs.length ≤ 200000) (w : World) (ho : O5 w l v xs) : Calls Try.prog 35 #[v, .int .u64 n, .int .i64 3] w (More5 w l (xs ++ be n 3)) := rput7 l v xs n 3 h.1 h.2 (by omega) (by omega) hx w ho

set_option maxHeartbeats 2000000 in
theorem rcheck8 (x : VP) (hx : x.ty) (w : World) : Calls Try.prog 17 #[.agg x.cs] w fun e w' => e = .returned (.int .i64 (vchk x)) ∧ Below w.heap.size w w' := by
  have HCk : Hid (∀ W : World, Calls Try.prog 36 #[.agg x.f.cs] W fun e w' => e = .returned (.int .i64 (fchk x.f)) ∧ Below W.heap.size W w') := Lib.hid (fun W => rcheck_any x.f hx.f W)
  obtain ⟨r, hr⟩ : ∃ r, vchk x = r := ⟨_, rfl⟩
  rw [hr]
  have HR := Lib.hid hr
  clear hr hx
  obtain ⟨W0, hW0⟩ : ∃ W0, w.alloc (.cells x.cs 34) = W0 := ⟨_, rfl⟩
  have HBox : Hid (Has W0 w.heap.size 34 x.cs) := Lib.hid (hW0 ▸ Has.new _ _ _)
  have HL : Hid (Below w.heap.size w W0) := Lib.hid (hW0 ▸ (Below.refl _ w).alloc (Nat.le_refl _) _)
  obtain ⟨b1, hb1⟩ : ∃ b, decide (x.t < 0) = b := ⟨_, rfl⟩
  obtain ⟨b2, hb2⟩ : ∃ b, decide (255 < x.t) = b := ⟨_, rfl⟩
  obtain ⟨b3, hb3⟩ : ∃ b, decide (x.n < 0) = b := ⟨_, rfl⟩
  obtain ⟨b4, hb4⟩ : ∃ b, decide (65535 < x.n) = b := ⟨_, rfl⟩
  obtain ⟨b5, hb5⟩ : ∃ b, decide (16777215 < x.v) = b := ⟨_, rfl⟩
  obtain ⟨b6, hb6⟩ : ∃ b, decide (16777215 < x.m) = b := ⟨_, rfl⟩
  have HG : Hid (r = if (b1 = true ∨ b2 = true) ∨ (b3 = true ∨ b4 = true) ∨ b5 = true ∨ b6 = true then 2 else fchk x.f) := Lib.hid (by
    rw [← HR.out]
    unfold vchk
    have e1 : wi x.t 255 = false ↔ (b1 = true ∨ b2 = true) := by rw [← hb1, ← hb2]; unfold wi; simp; omega
    have e2 : wi x.n 65535 = false ↔ (b3 = true ∨ b4 = true) := by rw [← hb3, ← hb4]; unfold wi; simp; omega
    have e3 : 16777215 < x.v ↔ b5 = true := by rw [← hb5]; simp
    have e4 : 16777215 < x.m ↔ b6 = true := by rw [← hb6]; simp
    simp only [e1, e2, e3, e4])
  clear HR
  go_enter Try.func17, Try.ntmps17
  go_upto_region 1 with fail
  try rw [hW0]
  clear hW0
  have c2 := HBox.out.v2
  have c3 := HBox.out.v3
  have c4 := HBox.out.v4
  have c5 := HBox.out.v5
  cases b1
  case true =>
    clear HCk
    go_wp2_with fail
    go_ret
    exact ⟨by rw [HG.out]; rfl, HL.out⟩
  cases b2
  case true =>
    clear HCk
    go_wp2_with fail
    go_ret
    exact ⟨by rw [HG.out]; rfl, HL.out⟩
  cases b3
  case true =>
    clear HCk
    go_wp2_with fail
    go_ret
    exact ⟨by rw [HG.out]; rfl, HL.out⟩
  cases b4
  case true =>
    clear HCk
    go_wp2_with fail
    go_ret
    exact ⟨by rw [HG.out]; rfl, HL.out⟩
  cases b5
  case true =>
    clear HCk
    go_wp2_with fail
    go_ret
    exact ⟨by rw [HG.out]; rfl, HL.out⟩
  cases b6
  case true =>
    clear HCk
    go_wp2_with fail
    go_ret
    exact ⟨by rw [HG.out]; rfl, HL.out⟩
  go_wp2_with (first | (refine wpList_load_mid rfl 32 (.tmp 31) rfl w.heap.size 6 rfl x.f.cs.toList _ HBox.out.inner Try.underlying32 rfl (fr_fit_t x.f) ?_) | (go_at_call 36; refine (HCk.out _).mono ?_; rintro e w2 ⟨rfl, hb9⟩; have HB2 := Lib.hid hb9; clear hb9))
  go_ret
  exact ⟨by rw [HG.out]; rfl, HL.out.trans (HB2.out.mono HL.out.size)⟩

set_option maxHeartbeats 1000000 in
theorem rhash_b (b o c : Nat) (A : Option Addr) (bs : List Int) (hA : 0 < bs.length → A = some ⟨b, o, none⟩) (hm : bs.length ≤ 1000000) (hby : ∀ v ∈ bs, 0 ≤ v ∧ v ≤ 255) (w : World) (hsl : 0 < bs.length → Sl w b o bs) :
    Calls Try.prog 18 #[.slice A bs.length c] w fun e w' => e = .returned (.int .u32 (fnv bs)) ∧ w = w' := by
  obtain ⟨n, hn⟩ : ∃ n, bs.length = n := ⟨_, rfl⟩
  rw [hn] at hm hA ⊢
  have HN := Lib.hid hn
  have HA := Lib.hid hA
  have HS := Lib.hid hsl
  have HB := Lib.hid hby
  clear hn hA hsl hby
  go_enter Try.func18, Try.ntmps18
  go_wp2
  go_loop [3, 4] (fun h i => ∃ k : Nat, k ≤ n ∧ i = .int .i64 k ∧ h = .int .u32 (fnv (bs.take k))) (fun _ i => n - (intOf i).toNat)
  case atStart => exact ⟨0, Nat.zero_le _, rfl, rfl⟩
  case round =>
    obtain ⟨k, hk, rfl, rfl⟩ := hrel
    obtain ⟨h, hh⟩ : ∃ h, fnv (bs.take k) = h := ⟨_, rfl⟩
    rw [hh]
    by_cases hlt : k < n
    · have hlt' : k < bs.length := by rw [HN.out]; exact hlt
      have hpos : 0 < n := by omega
      obtain rfl := HA.out hpos
      have hcell := HS.out (by omega) k hlt'
      obtain ⟨v, hv⟩ : ∃ v, bs[k] = v := ⟨_, rfl⟩
      obtain ⟨hv0, hv1⟩ := HB.out bs[k] (List.getElem_mem hlt')
      have hst := fnv_take bs k hlt'
      rw [hv] at hcell hv0 hv1
      rw [hv, hh] at hst
      have HSt : Hid (fnv (bs.take (k + 1)) = bits BinOp.xor .u32 h v * 16777619 % 4294967296) := Lib.hid hst
      clear hst hh hv hpos hlt'
      go_wp2
      go_round
      case rel => exact ⟨k + 1, by omega, by go_num, by rw [HSt.out]⟩
      case measure => simp [intOf]; omega
    · have HF : Hid (fnv bs = h) := Lib.hid (by rw [← hh, List.take_of_length_le (by rw [HN.out]; omega)])
      clear hh
      obtain rfl : k = n := by omega
      go_wp2
      go_ret
      exact ⟨by rw [HF.out]; rfl, rfl⟩
theorem rhash_arr (v : Value) (bs : List Int) (w : World) (h : Arr w v bs) (hm : bs.length ≤ 1000000) (hby : ∀ v ∈ bs, 0 ≤ v ∧ v ≤ 255) :
    Calls Try.prog 18 #[v] w fun e w' => e = .returned (.int .u32 (fnv bs)) ∧ w = w' := by
  have H : ∃ A c b o, v = .slice A bs.length c ∧ (0 < bs.length → A = some ⟨b, o, none⟩) ∧ (0 < bs.length → Sl w b o bs) := by
    rcases h with ⟨rfl, rfl⟩ | ⟨ad, c, rfl, hc⟩
    · exact ⟨none, 0, 0, 0, rfl, fun h => by simp at h, fun h => by simp at h⟩
    · by_cases h0 : 0 < bs.length
      · obtain ⟨b, o, rfl, hs⟩ := hc.plain h0
        exact ⟨_, c, b, o, rfl, fun _ => rfl, fun _ => hs⟩
      · exact ⟨_, c, 0, 0, rfl, fun h => absurd h h0, fun h => absurd h h0⟩
  obtain ⟨A, c, b, o, rfl, h1, h2⟩ := H
  exact rhash_b b o c A bs h1 hm hby w h2

end Go.Proofs.Ytgdfpmnbofnjfaa
