/- CommCalls: the document's kinds; the walk. -/
import Derived.Test.YtofbgpgngplgpaaDoorCmF
namespace Go.Proofs.YtofbgpgngplgpaaDoor
open Go.RowKit
set_option linter.unusedVariables false
set_option maxRecDepth 100000

abbrev tab14 : Array Value := #[.int .u8 0, .int .u8 2, .int .u8 3, .int .u8 12, .int .u8 6, .int .u8 0, .int .u8 6, .int .u8 1, .int .u8 6, .int .u8 2, .int .u8 6, .int .u8 3, .int .u8 6, .int .u8 6]

set_option maxHeartbeats 1000000 in
theorem rkind_any (a b c d e f g h : Int) (w : World) (k : Nat) (hk : k = if a = 0 ∧ b = 2 then 1 else if a = 3 ∧ b = 12 then 2 else if a = 6 ∧ b = 0 then 3 else if a = 6 ∧ b = 1 then 4 else if a = 6 ∧ b = 2 then 5 else if a = 6 ∧ b = 3 then 6 else if a = 6 ∧ b = 6 then 7 else 0) :
    Calls Tryd.prog 28 #[cm a b c d e f g h] w fun en w' => en = .returned (.int .i64 (k : Int)) ∧ Below w.heap.size w w' := by
  have HK := Lib.hid hk
  clear hk
  have hb0 : Below w.heap.size w ((w.alloc (.cells #[.int .u8 a, .int .u8 b, .int .u8 c, .int .u8 d, .int .u8 e, .int .u8 f, .int .u8 g, .int .u8 h] 24)).alloc (.cells tab14 78)) := ((Below.refl _ w).alloc (Nat.le_refl _) _).alloc (by simp) _
  have HB := Lib.hid hb0
  clear hb0
  go_enter Tryd.func28, Tryd.ntmps28
  go_wp2_with fail
  go_loopw [4] (fun i wr => ∃ n q : Nat, n ≤ 7 ∧ i = .int .i64 n ∧ wr = ((w.alloc (.cells #[.int .u8 a, .int .u8 b, .int .u8 c, .int .u8 d, .int .u8 e, .int .u8 f, .int .u8 g, .int .u8 h] 24)).alloc (.cells tab14 78)).drewN q ∧ (∀ j, 1 ≤ j → j ≤ n → ¬ (a = kh j ∧ b = kl j))) (fun i _ => 7 - (intOf i).toNat)
  case atStart => exact ⟨0, 0, by omega, rfl, rfl, fun j h1 h2 => by omega⟩
  case round =>
    obtain ⟨n, q, hn, rfl, rfl, hneg⟩ := hrel
    have HN := Lib.hid hneg
    clear hneg
    have hn8 : n = 0 ∨ n = 1 ∨ n = 2 ∨ n = 3 ∨ n = 4 ∨ n = 5 ∨ n = 6 ∨ n = 7 := by omega
    clear hn
    rcases hn8 with rfl | rfl | rfl | rfl | rfl | rfl | rfl | rfl
    · by_cases h1 : a = 0
      · by_cases h2 : b = 2
        · have q1 : (a == 0) = true := by simpa using h1
          have q2 : (b == 2) = true := by simpa using h2
          have H12 : Hid (a = 0 ∧ b = 2) := Lib.hid ⟨h1, h2⟩
          clear h1 h2
          go_wp2_with fail
          go_quiet (fail)
          go_wp2_with fail
          go_ret
          exact ⟨by rw [HK.out, H12.out.1, H12.out.2]; rfl, ⟨HB.out.os, HB.out.tape, HB.out.output, HB.out.size, HB.out.block⟩⟩
        · have q1 : (a == 0) = true := by simpa using h1
          have q2 : (b == 2) = false := by simpa using h2
          have H12 : Hid (a = 0 ∧ b ≠ 2) := Lib.hid ⟨h1, h2⟩
          clear h1 h2
          go_wp2_with fail
          go_quiet (fail)
          go_wp2_with fail
          go_roundw
          case rel =>
            refine ⟨1, _, by omega, by go_num, rfl, fun j j1 j2 => ?_⟩
            by_cases hj : j = 1
            · subst hj; simp [kh, kl]; intro _; exact H12.out.2
            · exact HN.out j j1 (by omega)
          case measure => simp [intOf]
      · have q1 : (a == 0) = false := by simpa using h1
        have H12 : Hid (a ≠ 0) := Lib.hid h1
        clear h1
        go_wp2_with fail
        go_quiet (fail)
        go_wp2_with fail
        go_roundw
        case rel =>
          refine ⟨1, _, by omega, by go_num, rfl, fun j j1 j2 => ?_⟩
          by_cases hj : j = 1
          · subst hj; simp [kh, kl]; intro h9; exact absurd h9 H12.out
          · exact HN.out j j1 (by omega)
        case measure => simp [intOf]
    · by_cases h1 : a = 3
      · by_cases h2 : b = 12
        · have q1 : (a == 3) = true := by simpa using h1
          have q2 : (b == 12) = true := by simpa using h2
          have H12 : Hid (a = 3 ∧ b = 12) := Lib.hid ⟨h1, h2⟩
          clear h1 h2
          go_wp2_with fail
          go_quiet (fail)
          go_wp2_with fail
          go_ret
          exact ⟨by rw [HK.out, H12.out.1, H12.out.2]; rfl, ⟨HB.out.os, HB.out.tape, HB.out.output, HB.out.size, HB.out.block⟩⟩
        · have q1 : (a == 3) = true := by simpa using h1
          have q2 : (b == 12) = false := by simpa using h2
          have H12 : Hid (a = 3 ∧ b ≠ 12) := Lib.hid ⟨h1, h2⟩
          clear h1 h2
          go_wp2_with fail
          go_quiet (fail)
          go_wp2_with fail
          go_roundw
          case rel =>
            refine ⟨2, _, by omega, by go_num, rfl, fun j j1 j2 => ?_⟩
            by_cases hj : j = 2
            · subst hj; simp [kh, kl]; intro _; exact H12.out.2
            · exact HN.out j j1 (by omega)
          case measure => simp [intOf]
      · have q1 : (a == 3) = false := by simpa using h1
        have H12 : Hid (a ≠ 3) := Lib.hid h1
        clear h1
        go_wp2_with fail
        go_quiet (fail)
        go_wp2_with fail
        go_roundw
        case rel =>
          refine ⟨2, _, by omega, by go_num, rfl, fun j j1 j2 => ?_⟩
          by_cases hj : j = 2
          · subst hj; simp [kh, kl]; intro h9; exact absurd h9 H12.out
          · exact HN.out j j1 (by omega)
        case measure => simp [intOf]
    · by_cases h1 : a = 6
      · by_cases h2 : b = 0
        · have q1 : (a == 6) = true := by simpa using h1
          have q2 : (b == 0) = true := by simpa using h2
          have H12 : Hid (a = 6 ∧ b = 0) := Lib.hid ⟨h1, h2⟩
          clear h1 h2
          go_wp2_with fail
          go_quiet (fail)
          go_wp2_with fail
          go_ret
          exact ⟨by rw [HK.out, H12.out.1, H12.out.2]; rfl, ⟨HB.out.os, HB.out.tape, HB.out.output, HB.out.size, HB.out.block⟩⟩
        · have q1 : (a == 6) = true := by simpa using h1
          have q2 : (b == 0) = false := by simpa using h2
          have H12 : Hid (a = 6 ∧ b ≠ 0) := Lib.hid ⟨h1, h2⟩
          clear h1 h2
          go_wp2_with fail
          go_quiet (fail)
          go_wp2_with fail
          go_roundw
          case rel =>
            refine ⟨3, _, by omega, by go_num, rfl, fun j j1 j2 => ?_⟩
            by_cases hj : j = 3
            · subst hj; simp [kh, kl]; intro _; exact H12.out.2
            · exact HN.out j j1 (by omega)
          case measure => simp [intOf]
      · have q1 : (a == 6) = false := by simpa using h1
        have H12 : Hid (a ≠ 6) := Lib.hid h1
        clear h1
        go_wp2_with fail
        go_quiet (fail)
        go_wp2_with fail
        go_roundw
        case rel =>
          refine ⟨3, _, by omega, by go_num, rfl, fun j j1 j2 => ?_⟩
          by_cases hj : j = 3
          · subst hj; simp [kh, kl]; intro h9; exact absurd h9 H12.out
          · exact HN.out j j1 (by omega)
        case measure => simp [intOf]
    · by_cases h1 : a = 6
      · by_cases h2 : b = 1
        · have q1 : (a == 6) = true := by simpa using h1
          have q2 : (b == 1) = true := by simpa using h2
          have H12 : Hid (a = 6 ∧ b = 1) := Lib.hid ⟨h1, h2⟩
          clear h1 h2
          go_wp2_with fail
          go_quiet (fail)
          go_wp2_with fail
          go_ret
          exact ⟨by rw [HK.out, H12.out.1, H12.out.2]; rfl, ⟨HB.out.os, HB.out.tape, HB.out.output, HB.out.size, HB.out.block⟩⟩
        · have q1 : (a == 6) = true := by simpa using h1
          have q2 : (b == 1) = false := by simpa using h2
          have H12 : Hid (a = 6 ∧ b ≠ 1) := Lib.hid ⟨h1, h2⟩
          clear h1 h2
          go_wp2_with fail
          go_quiet (fail)
          go_wp2_with fail
          go_roundw
          case rel =>
            refine ⟨4, _, by omega, by go_num, rfl, fun j j1 j2 => ?_⟩
            by_cases hj : j = 4
            · subst hj; simp [kh, kl]; intro _; exact H12.out.2
            · exact HN.out j j1 (by omega)
          case measure => simp [intOf]
      · have q1 : (a == 6) = false := by simpa using h1
        have H12 : Hid (a ≠ 6) := Lib.hid h1
        clear h1
        go_wp2_with fail
        go_quiet (fail)
        go_wp2_with fail
        go_roundw
        case rel =>
          refine ⟨4, _, by omega, by go_num, rfl, fun j j1 j2 => ?_⟩
          by_cases hj : j = 4
          · subst hj; simp [kh, kl]; intro h9; exact absurd h9 H12.out
          · exact HN.out j j1 (by omega)
        case measure => simp [intOf]
    · by_cases h1 : a = 6
      · by_cases h2 : b = 2
        · have q1 : (a == 6) = true := by simpa using h1
          have q2 : (b == 2) = true := by simpa using h2
          have H12 : Hid (a = 6 ∧ b = 2) := Lib.hid ⟨h1, h2⟩
          clear h1 h2
          go_wp2_with fail
          go_quiet (fail)
          go_wp2_with fail
          go_ret
          exact ⟨by rw [HK.out, H12.out.1, H12.out.2]; rfl, ⟨HB.out.os, HB.out.tape, HB.out.output, HB.out.size, HB.out.block⟩⟩
        · have q1 : (a == 6) = true := by simpa using h1
          have q2 : (b == 2) = false := by simpa using h2
          have H12 : Hid (a = 6 ∧ b ≠ 2) := Lib.hid ⟨h1, h2⟩
          clear h1 h2
          go_wp2_with fail
          go_quiet (fail)
          go_wp2_with fail
          go_roundw
          case rel =>
            refine ⟨5, _, by omega, by go_num, rfl, fun j j1 j2 => ?_⟩
            by_cases hj : j = 5
            · subst hj; simp [kh, kl]; intro _; exact H12.out.2
            · exact HN.out j j1 (by omega)
          case measure => simp [intOf]
      · have q1 : (a == 6) = false := by simpa using h1
        have H12 : Hid (a ≠ 6) := Lib.hid h1
        clear h1
        go_wp2_with fail
        go_quiet (fail)
        go_wp2_with fail
        go_roundw
        case rel =>
          refine ⟨5, _, by omega, by go_num, rfl, fun j j1 j2 => ?_⟩
          by_cases hj : j = 5
          · subst hj; simp [kh, kl]; intro h9; exact absurd h9 H12.out
          · exact HN.out j j1 (by omega)
        case measure => simp [intOf]
    · by_cases h1 : a = 6
      · by_cases h2 : b = 3
        · have q1 : (a == 6) = true := by simpa using h1
          have q2 : (b == 3) = true := by simpa using h2
          have H12 : Hid (a = 6 ∧ b = 3) := Lib.hid ⟨h1, h2⟩
          clear h1 h2
          go_wp2_with fail
          go_quiet (fail)
          go_wp2_with fail
          go_ret
          exact ⟨by rw [HK.out, H12.out.1, H12.out.2]; rfl, ⟨HB.out.os, HB.out.tape, HB.out.output, HB.out.size, HB.out.block⟩⟩
        · have q1 : (a == 6) = true := by simpa using h1
          have q2 : (b == 3) = false := by simpa using h2
          have H12 : Hid (a = 6 ∧ b ≠ 3) := Lib.hid ⟨h1, h2⟩
          clear h1 h2
          go_wp2_with fail
          go_quiet (fail)
          go_wp2_with fail
          go_roundw
          case rel =>
            refine ⟨6, _, by omega, by go_num, rfl, fun j j1 j2 => ?_⟩
            by_cases hj : j = 6
            · subst hj; simp [kh, kl]; intro _; exact H12.out.2
            · exact HN.out j j1 (by omega)
          case measure => simp [intOf]
      · have q1 : (a == 6) = false := by simpa using h1
        have H12 : Hid (a ≠ 6) := Lib.hid h1
        clear h1
        go_wp2_with fail
        go_quiet (fail)
        go_wp2_with fail
        go_roundw
        case rel =>
          refine ⟨6, _, by omega, by go_num, rfl, fun j j1 j2 => ?_⟩
          by_cases hj : j = 6
          · subst hj; simp [kh, kl]; intro h9; exact absurd h9 H12.out
          · exact HN.out j j1 (by omega)
        case measure => simp [intOf]
    · by_cases h1 : a = 6
      · by_cases h2 : b = 6
        · have q1 : (a == 6) = true := by simpa using h1
          have q2 : (b == 6) = true := by simpa using h2
          have H12 : Hid (a = 6 ∧ b = 6) := Lib.hid ⟨h1, h2⟩
          clear h1 h2
          go_wp2_with fail
          go_quiet (fail)
          go_wp2_with fail
          go_ret
          exact ⟨by rw [HK.out, H12.out.1, H12.out.2]; rfl, ⟨HB.out.os, HB.out.tape, HB.out.output, HB.out.size, HB.out.block⟩⟩
        · have q1 : (a == 6) = true := by simpa using h1
          have q2 : (b == 6) = false := by simpa using h2
          have H12 : Hid (a = 6 ∧ b ≠ 6) := Lib.hid ⟨h1, h2⟩
          clear h1 h2
          go_wp2_with fail
          go_quiet (fail)
          go_wp2_with fail
          go_roundw
          case rel =>
            refine ⟨7, _, by omega, by go_num, rfl, fun j j1 j2 => ?_⟩
            by_cases hj : j = 7
            · subst hj; simp [kh, kl]; intro _; exact H12.out.2
            · exact HN.out j j1 (by omega)
          case measure => simp [intOf]
      · have q1 : (a == 6) = false := by simpa using h1
        have H12 : Hid (a ≠ 6) := Lib.hid h1
        clear h1
        go_wp2_with fail
        go_quiet (fail)
        go_wp2_with fail
        go_roundw
        case rel =>
          refine ⟨7, _, by omega, by go_num, rfl, fun j j1 j2 => ?_⟩
          by_cases hj : j = 7
          · subst hj; simp [kh, kl]; intro h9; exact absurd h9 H12.out
          · exact HN.out j j1 (by omega)
        case measure => simp [intOf]
    · go_wp2_with fail
      go_ret
      refine ⟨?_, ⟨HB.out.os, HB.out.tape, HB.out.output, HB.out.size, HB.out.block⟩⟩
      have e1 := HN.out 1 (by omega) (by omega)
      have e2 := HN.out 2 (by omega) (by omega)
      have e3 := HN.out 3 (by omega) (by omega)
      have e4 := HN.out 4 (by omega) (by omega)
      have e5 := HN.out 5 (by omega) (by omega)
      have e6 := HN.out 6 (by omega) (by omega)
      have e7 := HN.out 7 (by omega) (by omega)
      simp only [kh, kl, List.getD_cons_succ, List.getD_cons_zero] at e1 e2 e3 e4 e5 e6 e7
      rw [HK.out, if_neg e1, if_neg e2, if_neg e3, if_neg e4, if_neg e5, if_neg e6, if_neg e7]
      rfl

/-- What the walk keeps: the table, all that was, and the blocks that it made. -/
structure KS (w : World) (bs : List (Nat × Array Value)) (W : World) : Prop where
  gk : GK W
  bel : Below w.heap.size w W
  has : ∀ p ∈ bs, Has W p.1 24 p.2

theorem KS.below {w W W' : World} {bs : List (Nat × Array Value)} (H : KS w bs W) (hb : Below W.heap.size W W') : KS w bs W' := ⟨H.gk.keep hb, H.bel.trans (hb.mono H.bel.size), fun p hp => (H.has p hp).below hb⟩
theorem KS.push {w W : World} {bs : List (Nat × Array Value)} (H : KS w bs W) (cs : Array Value) : KS w ((W.heap.size, cs) :: bs) (W.alloc (.cells cs 24)) := by
  have hb : Below W.heap.size W (W.alloc (.cells cs 24)) := (Below.refl _ W).alloc (Nat.le_refl _) _
  have h := H.below hb
  refine ⟨h.gk, h.bel, fun p hp => ?_⟩
  simp only [List.mem_cons] at hp
  rcases hp with rfl | hp
  · exact Has.new W _ _
  · exact h.has p hp

theorem is_enc (a : Int) : ∃ p q r s t u v x, encC a = cm p q r s t u v x := by unfold encC; split <;> exact ⟨_, _, _, _, _, _, _, _, rfl⟩
theorem is_lab (is : Bool) (a : Int) : ∃ p q r s t u v x, labC is a = cm p q r s t u v x := by unfold labC; split <;> exact ⟨_, _, _, _, _, _, _, _, rfl⟩
theorem is_mac (lo a : Int) : ∃ p q r s t u v x, macC lo a = cm p q r s t u v x := by unfold macC; split <;> exact ⟨_, _, _, _, _, _, _, _, rfl⟩
theorem is_ele (a b : Int) : ∃ p q r s t u v x, eleC a b = cm p q r s t u v x := by unfold eleC; split <;> exact ⟨_, _, _, _, _, _, _, _, rfl⟩
theorem is_mk (a b n : Int) : ∃ p q r s t u v x, mk a b n = cm p q r s t u v x := ⟨_, _, _, _, _, _, _, _, rfl⟩

set_option maxHeartbeats 4000000 in
theorem calls_walk (az n a b m : Int) (is : Bool) (c0 c1 c2 c3 c4 c5 c6 c7 : Int) (az0 : 0 ≤ az) (az1 : az ≤ 65535) (n0 : 0 ≤ n) (n1 : n < 4294967296) (a0 : -9223372036854775808 ≤ a) (a1 : a ≤ 9223372036854775807) (b0 : -9223372036854775808 ≤ b) (b1 : b ≤ 9223372036854775807) (m0 : 0 ≤ m) (m1 : m < 18446744073709551616) (w : World) (hw : GK w) :
    Calls Tryd.prog 4 #[.int .u16 az, .int .u32 n, .int .i64 a, .int .i64 b, .int .u64 m, .bool is, cm c0 c1 c2 c3 c4 c5 c6 c7] w fun e w' => e = .returned (.bool true) ∧ Below w.heap.size w w' := by
  obtain ⟨pe0, pe1, pe2, pe3, pe4, pe5, pe6, pe7, hP⟩ := is_enc a
  have P := Lib.hid hP
  clear hP
  obtain ⟨pl0, pl1, pl2, pl3, pl4, pl5, pl6, pl7, hQ⟩ := is_lab is n
  have Q := Lib.hid hQ
  clear hQ
  obtain ⟨pi0, pi1, pi2, pi3, pi4, pi5, pi6, pi7, hR⟩ := is_mac 2 m
  have R := Lib.hid hR
  clear hR
  obtain ⟨pr0, pr1, pr2, pr3, pr4, pr5, pr6, pr7, hS⟩ := is_mac 3 m
  have S := Lib.hid hS
  clear hS
  obtain ⟨pt0, pt1, pt2, pt3, pt4, pt5, pt6, pt7, hT⟩ := is_ele a b
  have T := Lib.hid hT
  clear hT
  obtain ⟨pu0, pu1, pu2, pu3, pu4, pu5, pu6, pu7, hU⟩ := is_mk 0 2 (az * 4294967296 + n)
  have U := Lib.hid hU
  clear hU
  obtain ⟨pv0, pv1, pv2, pv3, pv4, pv5, pv6, pv7, hV⟩ := is_mk 6 0 (fl is + n)
  have V := Lib.hid hV
  clear hV
  have K0 : Hid (KS w [(w.heap.size, #[.int .u8 c0, .int .u8 c1, .int .u8 c2, .int .u8 c3, .int .u8 c4, .int .u8 c5, .int .u8 c6, .int .u8 c7])] (w.alloc (.cells #[.int .u8 c0, .int .u8 c1, .int .u8 c2, .int .u8 c3, .int .u8 c4, .int .u8 c5, .int .u8 c6, .int .u8 c7] 24))) := Lib.hid (KS.push ⟨hw, Below.refl _ w, fun p hp => by cases hp⟩ _)
  clear hw
  have heq := cm_self
  go_enter Tryd.func4, Tryd.ntmps4
  go_wp2_with fail
  refine (lives_any _ K0.out.gk).mono ?_
  rintro en w0 ⟨rfl, hb⟩
  have K1 := Lib.hid (K0.out.below hb)
  clear hb K0
  go_wp2_with fail
  refine (encap_any a a0 a1 _ K1.out.gk).mono ?_
  rw [P.out]
  rintro en w1 ⟨rfl, hb⟩
  have K2 := Lib.hid ((K1.out.below hb).push #[.int .u8 pe0, .int .u8 pe1, .int .u8 pe2, .int .u8 pe3, .int .u8 pe4, .int .u8 pe5, .int .u8 pe6, .int .u8 pe7])
  clear hb K1
  go_wp2_with fail
  refine (rencap_any a a0 a1 _).mono ?_
  rw [P.out]
  rintro en w2 ⟨rfl, hb⟩
  have K3 := Lib.hid ((K2.out.below hb).push #[.int .u8 pe0, .int .u8 pe1, .int .u8 pe2, .int .u8 pe3, .int .u8 pe4, .int .u8 pe5, .int .u8 pe6, .int .u8 pe7])
  clear hb K2
  go_wp2_with fail
  refine (label_any is n n0 n1 _ K3.out.gk).mono ?_
  rw [Q.out]
  rintro en w3 ⟨rfl, hb⟩
  have K4 := Lib.hid ((K3.out.below hb).push #[.int .u8 pl0, .int .u8 pl1, .int .u8 pl2, .int .u8 pl3, .int .u8 pl4, .int .u8 pl5, .int .u8 pl6, .int .u8 pl7])
  clear hb K3
  go_wp2_with fail
  refine (rlabel_any is n n0 n1 _).mono ?_
  rw [Q.out]
  rintro en w4 ⟨rfl, hb⟩
  have K5 := Lib.hid ((K4.out.below hb).push #[.int .u8 pl0, .int .u8 pl1, .int .u8 pl2, .int .u8 pl3, .int .u8 pl4, .int .u8 pl5, .int .u8 pl6, .int .u8 pl7])
  clear hb K4
  go_wp2_with fail
  refine (import_any m m0 m1 _ K5.out.gk).mono ?_
  rw [R.out]
  rintro en w5 ⟨rfl, hb⟩
  have K6 := Lib.hid ((K5.out.below hb).push #[.int .u8 pi0, .int .u8 pi1, .int .u8 pi2, .int .u8 pi3, .int .u8 pi4, .int .u8 pi5, .int .u8 pi6, .int .u8 pi7])
  clear hb K5
  go_wp2_with fail
  refine (rimport_any m m0 m1 _).mono ?_
  rw [R.out]
  rintro en w6 ⟨rfl, hb⟩
  have K7 := Lib.hid ((K6.out.below hb).push #[.int .u8 pi0, .int .u8 pi1, .int .u8 pi2, .int .u8 pi3, .int .u8 pi4, .int .u8 pi5, .int .u8 pi6, .int .u8 pi7])
  clear hb K6
  go_wp2_with fail
  refine (router_any m m0 m1 _ K7.out.gk).mono ?_
  rw [S.out]
  rintro en w7 ⟨rfl, hb⟩
  have K8 := Lib.hid ((K7.out.below hb).push #[.int .u8 pr0, .int .u8 pr1, .int .u8 pr2, .int .u8 pr3, .int .u8 pr4, .int .u8 pr5, .int .u8 pr6, .int .u8 pr7])
  clear hb K7
  go_wp2_with fail
  refine (rrouter_any m m0 m1 _).mono ?_
  rw [S.out]
  rintro en w8 ⟨rfl, hb⟩
  have K9 := Lib.hid ((K8.out.below hb).push #[.int .u8 pr0, .int .u8 pr1, .int .u8 pr2, .int .u8 pr3, .int .u8 pr4, .int .u8 pr5, .int .u8 pr6, .int .u8 pr7])
  clear hb K8
  go_wp2_with fail
  refine (election_any a b a0 a1 b0 b1 _ K9.out.gk).mono ?_
  rw [T.out]
  rintro en w9 ⟨rfl, hb⟩
  have K10 := Lib.hid ((K9.out.below hb).push #[.int .u8 pt0, .int .u8 pt1, .int .u8 pt2, .int .u8 pt3, .int .u8 pt4, .int .u8 pt5, .int .u8 pt6, .int .u8 pt7])
  clear hb K9
  go_wp2_with fail
  refine (relection_any a b a0 a1 b0 b1 _).mono ?_
  rw [T.out]
  rintro en w10 ⟨rfl, hb⟩
  have K11 := Lib.hid ((K10.out.below hb).push #[.int .u8 pt0, .int .u8 pt1, .int .u8 pt2, .int .u8 pt3, .int .u8 pt4, .int .u8 pt5, .int .u8 pt6, .int .u8 pt7])
  clear hb K10
  have hall : ∀ w', KS w [(w10.heap.size, #[.int .u8 pt0, .int .u8 pt1, .int .u8 pt2, .int .u8 pt3, .int .u8 pt4, .int .u8 pt5, .int .u8 pt6, .int .u8 pt7]), (w9.heap.size, #[.int .u8 pt0, .int .u8 pt1, .int .u8 pt2, .int .u8 pt3, .int .u8 pt4, .int .u8 pt5, .int .u8 pt6, .int .u8 pt7]), (w8.heap.size, #[.int .u8 pr0, .int .u8 pr1, .int .u8 pr2, .int .u8 pr3, .int .u8 pr4, .int .u8 pr5, .int .u8 pr6, .int .u8 pr7]), (w7.heap.size, #[.int .u8 pr0, .int .u8 pr1, .int .u8 pr2, .int .u8 pr3, .int .u8 pr4, .int .u8 pr5, .int .u8 pr6, .int .u8 pr7]), (w6.heap.size, #[.int .u8 pi0, .int .u8 pi1, .int .u8 pi2, .int .u8 pi3, .int .u8 pi4, .int .u8 pi5, .int .u8 pi6, .int .u8 pi7]), (w5.heap.size, #[.int .u8 pi0, .int .u8 pi1, .int .u8 pi2, .int .u8 pi3, .int .u8 pi4, .int .u8 pi5, .int .u8 pi6, .int .u8 pi7]), (w4.heap.size, #[.int .u8 pl0, .int .u8 pl1, .int .u8 pl2, .int .u8 pl3, .int .u8 pl4, .int .u8 pl5, .int .u8 pl6, .int .u8 pl7]), (w3.heap.size, #[.int .u8 pl0, .int .u8 pl1, .int .u8 pl2, .int .u8 pl3, .int .u8 pl4, .int .u8 pl5, .int .u8 pl6, .int .u8 pl7]), (w2.heap.size, #[.int .u8 pe0, .int .u8 pe1, .int .u8 pe2, .int .u8 pe3, .int .u8 pe4, .int .u8 pe5, .int .u8 pe6, .int .u8 pe7]), (w1.heap.size, #[.int .u8 pe0, .int .u8 pe1, .int .u8 pe2, .int .u8 pe3, .int .u8 pe4, .int .u8 pe5, .int .u8 pe6, .int .u8 pe7]), (w.heap.size, #[.int .u8 c0, .int .u8 c1, .int .u8 c2, .int .u8 c3, .int .u8 c4, .int .u8 c5, .int .u8 c6, .int .u8 c7])] w' → (KS w [(w10.heap.size, #[.int .u8 pt0, .int .u8 pt1, .int .u8 pt2, .int .u8 pt3, .int .u8 pt4, .int .u8 pt5, .int .u8 pt6, .int .u8 pt7]), (w9.heap.size, #[.int .u8 pt0, .int .u8 pt1, .int .u8 pt2, .int .u8 pt3, .int .u8 pt4, .int .u8 pt5, .int .u8 pt6, .int .u8 pt7]), (w8.heap.size, #[.int .u8 pr0, .int .u8 pr1, .int .u8 pr2, .int .u8 pr3, .int .u8 pr4, .int .u8 pr5, .int .u8 pr6, .int .u8 pr7]), (w7.heap.size, #[.int .u8 pr0, .int .u8 pr1, .int .u8 pr2, .int .u8 pr3, .int .u8 pr4, .int .u8 pr5, .int .u8 pr6, .int .u8 pr7]), (w6.heap.size, #[.int .u8 pi0, .int .u8 pi1, .int .u8 pi2, .int .u8 pi3, .int .u8 pi4, .int .u8 pi5, .int .u8 pi6, .int .u8 pi7]), (w5.heap.size, #[.int .u8 pi0, .int .u8 pi1, .int .u8 pi2, .int .u8 pi3, .int .u8 pi4, .int .u8 pi5, .int .u8 pi6, .int .u8 pi7]), (w4.heap.size, #[.int .u8 pl0, .int .u8 pl1, .int .u8 pl2, .int .u8 pl3, .int .u8 pl4, .int .u8 pl5, .int .u8 pl6, .int .u8 pl7]), (w3.heap.size, #[.int .u8 pl0, .int .u8 pl1, .int .u8 pl2, .int .u8 pl3, .int .u8 pl4, .int .u8 pl5, .int .u8 pl6, .int .u8 pl7]), (w2.heap.size, #[.int .u8 pe0, .int .u8 pe1, .int .u8 pe2, .int .u8 pe3, .int .u8 pe4, .int .u8 pe5, .int .u8 pe6, .int .u8 pe7]), (w1.heap.size, #[.int .u8 pe0, .int .u8 pe1, .int .u8 pe2, .int .u8 pe3, .int .u8 pe4, .int .u8 pe5, .int .u8 pe6, .int .u8 pe7]), (w.heap.size, #[.int .u8 c0, .int .u8 c1, .int .u8 c2, .int .u8 c3, .int .u8 c4, .int .u8 c5, .int .u8 c6, .int .u8 c7])] w' ∧ w'.cell? ⟨w1.heap.size, 0, none⟩ = some (.int .u8 pe0) ∧ w'.cell? ⟨w1.heap.size, 1, none⟩ = some (.int .u8 pe1) ∧ w'.cell? ⟨w1.heap.size, 2, none⟩ = some (.int .u8 pe2) ∧ w'.cell? ⟨w1.heap.size, 3, none⟩ = some (.int .u8 pe3) ∧ w'.cell? ⟨w1.heap.size, 4, none⟩ = some (.int .u8 pe4) ∧ w'.cell? ⟨w1.heap.size, 5, none⟩ = some (.int .u8 pe5) ∧ w'.cell? ⟨w1.heap.size, 6, none⟩ = some (.int .u8 pe6) ∧ w'.cell? ⟨w1.heap.size, 7, none⟩ = some (.int .u8 pe7) ∧ w'.cell? ⟨w2.heap.size, 0, none⟩ = some (.int .u8 pe0) ∧ w'.cell? ⟨w2.heap.size, 1, none⟩ = some (.int .u8 pe1) ∧ w'.cell? ⟨w2.heap.size, 2, none⟩ = some (.int .u8 pe2) ∧ w'.cell? ⟨w2.heap.size, 3, none⟩ = some (.int .u8 pe3) ∧ w'.cell? ⟨w2.heap.size, 4, none⟩ = some (.int .u8 pe4) ∧ w'.cell? ⟨w2.heap.size, 5, none⟩ = some (.int .u8 pe5) ∧ w'.cell? ⟨w2.heap.size, 6, none⟩ = some (.int .u8 pe6) ∧ w'.cell? ⟨w2.heap.size, 7, none⟩ = some (.int .u8 pe7) ∧ w'.cell? ⟨w3.heap.size, 0, none⟩ = some (.int .u8 pl0) ∧ w'.cell? ⟨w3.heap.size, 1, none⟩ = some (.int .u8 pl1) ∧ w'.cell? ⟨w3.heap.size, 2, none⟩ = some (.int .u8 pl2) ∧ w'.cell? ⟨w3.heap.size, 3, none⟩ = some (.int .u8 pl3) ∧ w'.cell? ⟨w3.heap.size, 4, none⟩ = some (.int .u8 pl4) ∧ w'.cell? ⟨w3.heap.size, 5, none⟩ = some (.int .u8 pl5) ∧ w'.cell? ⟨w3.heap.size, 6, none⟩ = some (.int .u8 pl6) ∧ w'.cell? ⟨w3.heap.size, 7, none⟩ = some (.int .u8 pl7) ∧ w'.cell? ⟨w4.heap.size, 0, none⟩ = some (.int .u8 pl0) ∧ w'.cell? ⟨w4.heap.size, 1, none⟩ = some (.int .u8 pl1) ∧ w'.cell? ⟨w4.heap.size, 2, none⟩ = some (.int .u8 pl2) ∧ w'.cell? ⟨w4.heap.size, 3, none⟩ = some (.int .u8 pl3) ∧ w'.cell? ⟨w4.heap.size, 4, none⟩ = some (.int .u8 pl4) ∧ w'.cell? ⟨w4.heap.size, 5, none⟩ = some (.int .u8 pl5) ∧ w'.cell? ⟨w4.heap.size, 6, none⟩ = some (.int .u8 pl6) ∧ w'.cell? ⟨w4.heap.size, 7, none⟩ = some (.int .u8 pl7) ∧ w'.cell? ⟨w5.heap.size, 0, none⟩ = some (.int .u8 pi0) ∧ w'.cell? ⟨w5.heap.size, 1, none⟩ = some (.int .u8 pi1) ∧ w'.cell? ⟨w5.heap.size, 2, none⟩ = some (.int .u8 pi2) ∧ w'.cell? ⟨w5.heap.size, 3, none⟩ = some (.int .u8 pi3) ∧ w'.cell? ⟨w5.heap.size, 4, none⟩ = some (.int .u8 pi4) ∧ w'.cell? ⟨w5.heap.size, 5, none⟩ = some (.int .u8 pi5) ∧ w'.cell? ⟨w5.heap.size, 6, none⟩ = some (.int .u8 pi6) ∧ w'.cell? ⟨w5.heap.size, 7, none⟩ = some (.int .u8 pi7) ∧ w'.cell? ⟨w6.heap.size, 0, none⟩ = some (.int .u8 pi0) ∧ w'.cell? ⟨w6.heap.size, 1, none⟩ = some (.int .u8 pi1) ∧ w'.cell? ⟨w6.heap.size, 2, none⟩ = some (.int .u8 pi2) ∧ w'.cell? ⟨w6.heap.size, 3, none⟩ = some (.int .u8 pi3) ∧ w'.cell? ⟨w6.heap.size, 4, none⟩ = some (.int .u8 pi4) ∧ w'.cell? ⟨w6.heap.size, 5, none⟩ = some (.int .u8 pi5) ∧ w'.cell? ⟨w6.heap.size, 6, none⟩ = some (.int .u8 pi6) ∧ w'.cell? ⟨w6.heap.size, 7, none⟩ = some (.int .u8 pi7) ∧ w'.cell? ⟨w7.heap.size, 0, none⟩ = some (.int .u8 pr0) ∧ w'.cell? ⟨w7.heap.size, 1, none⟩ = some (.int .u8 pr1) ∧ w'.cell? ⟨w7.heap.size, 2, none⟩ = some (.int .u8 pr2) ∧ w'.cell? ⟨w7.heap.size, 3, none⟩ = some (.int .u8 pr3) ∧ w'.cell? ⟨w7.heap.size, 4, none⟩ = some (.int .u8 pr4) ∧ w'.cell? ⟨w7.heap.size, 5, none⟩ = some (.int .u8 pr5) ∧ w'.cell? ⟨w7.heap.size, 6, none⟩ = some (.int .u8 pr6) ∧ w'.cell? ⟨w7.heap.size, 7, none⟩ = some (.int .u8 pr7) ∧ w'.cell? ⟨w8.heap.size, 0, none⟩ = some (.int .u8 pr0) ∧ w'.cell? ⟨w8.heap.size, 1, none⟩ = some (.int .u8 pr1) ∧ w'.cell? ⟨w8.heap.size, 2, none⟩ = some (.int .u8 pr2) ∧ w'.cell? ⟨w8.heap.size, 3, none⟩ = some (.int .u8 pr3) ∧ w'.cell? ⟨w8.heap.size, 4, none⟩ = some (.int .u8 pr4) ∧ w'.cell? ⟨w8.heap.size, 5, none⟩ = some (.int .u8 pr5) ∧ w'.cell? ⟨w8.heap.size, 6, none⟩ = some (.int .u8 pr6) ∧ w'.cell? ⟨w8.heap.size, 7, none⟩ = some (.int .u8 pr7) ∧ w'.cell? ⟨w9.heap.size, 0, none⟩ = some (.int .u8 pt0) ∧ w'.cell? ⟨w9.heap.size, 1, none⟩ = some (.int .u8 pt1) ∧ w'.cell? ⟨w9.heap.size, 2, none⟩ = some (.int .u8 pt2) ∧ w'.cell? ⟨w9.heap.size, 3, none⟩ = some (.int .u8 pt3) ∧ w'.cell? ⟨w9.heap.size, 4, none⟩ = some (.int .u8 pt4) ∧ w'.cell? ⟨w9.heap.size, 5, none⟩ = some (.int .u8 pt5) ∧ w'.cell? ⟨w9.heap.size, 6, none⟩ = some (.int .u8 pt6) ∧ w'.cell? ⟨w9.heap.size, 7, none⟩ = some (.int .u8 pt7) ∧ w'.cell? ⟨w10.heap.size, 0, none⟩ = some (.int .u8 pt0) ∧ w'.cell? ⟨w10.heap.size, 1, none⟩ = some (.int .u8 pt1) ∧ w'.cell? ⟨w10.heap.size, 2, none⟩ = some (.int .u8 pt2) ∧ w'.cell? ⟨w10.heap.size, 3, none⟩ = some (.int .u8 pt3) ∧ w'.cell? ⟨w10.heap.size, 4, none⟩ = some (.int .u8 pt4) ∧ w'.cell? ⟨w10.heap.size, 5, none⟩ = some (.int .u8 pt5) ∧ w'.cell? ⟨w10.heap.size, 6, none⟩ = some (.int .u8 pt6) ∧ w'.cell? ⟨w10.heap.size, 7, none⟩ = some (.int .u8 pt7) ∧ w'.cell? ⟨w.heap.size, 0, none⟩ = some (.int .u8 c0) ∧ w'.cell? ⟨w.heap.size, 1, none⟩ = some (.int .u8 c1) ∧ w'.cell? ⟨w.heap.size, 2, none⟩ = some (.int .u8 c2) ∧ w'.cell? ⟨w.heap.size, 3, none⟩ = some (.int .u8 c3) ∧ w'.cell? ⟨w.heap.size, 4, none⟩ = some (.int .u8 c4) ∧ w'.cell? ⟨w.heap.size, 5, none⟩ = some (.int .u8 c5) ∧ w'.cell? ⟨w.heap.size, 6, none⟩ = some (.int .u8 c6) ∧ w'.cell? ⟨w.heap.size, 7, none⟩ = some (.int .u8 c7)) := by
    intro w' H
    have h9 := H.has (w1.heap.size, #[.int .u8 pe0, .int .u8 pe1, .int .u8 pe2, .int .u8 pe3, .int .u8 pe4, .int .u8 pe5, .int .u8 pe6, .int .u8 pe7]) (.tail _ (.tail _ (.tail _ (.tail _ (.tail _ (.tail _ (.tail _ (.tail _ (.tail _ (.head _))))))))))
    have h8 := H.has (w2.heap.size, #[.int .u8 pe0, .int .u8 pe1, .int .u8 pe2, .int .u8 pe3, .int .u8 pe4, .int .u8 pe5, .int .u8 pe6, .int .u8 pe7]) (.tail _ (.tail _ (.tail _ (.tail _ (.tail _ (.tail _ (.tail _ (.tail _ (.head _)))))))))
    have h7 := H.has (w3.heap.size, #[.int .u8 pl0, .int .u8 pl1, .int .u8 pl2, .int .u8 pl3, .int .u8 pl4, .int .u8 pl5, .int .u8 pl6, .int .u8 pl7]) (.tail _ (.tail _ (.tail _ (.tail _ (.tail _ (.tail _ (.tail _ (.head _))))))))
    have h6 := H.has (w4.heap.size, #[.int .u8 pl0, .int .u8 pl1, .int .u8 pl2, .int .u8 pl3, .int .u8 pl4, .int .u8 pl5, .int .u8 pl6, .int .u8 pl7]) (.tail _ (.tail _ (.tail _ (.tail _ (.tail _ (.tail _ (.head _)))))))
    have h5 := H.has (w5.heap.size, #[.int .u8 pi0, .int .u8 pi1, .int .u8 pi2, .int .u8 pi3, .int .u8 pi4, .int .u8 pi5, .int .u8 pi6, .int .u8 pi7]) (.tail _ (.tail _ (.tail _ (.tail _ (.tail _ (.head _))))))
    have h4 := H.has (w6.heap.size, #[.int .u8 pi0, .int .u8 pi1, .int .u8 pi2, .int .u8 pi3, .int .u8 pi4, .int .u8 pi5, .int .u8 pi6, .int .u8 pi7]) (.tail _ (.tail _ (.tail _ (.tail _ (.head _)))))
    have h3 := H.has (w7.heap.size, #[.int .u8 pr0, .int .u8 pr1, .int .u8 pr2, .int .u8 pr3, .int .u8 pr4, .int .u8 pr5, .int .u8 pr6, .int .u8 pr7]) (.tail _ (.tail _ (.tail _ (.head _))))
    have h2 := H.has (w8.heap.size, #[.int .u8 pr0, .int .u8 pr1, .int .u8 pr2, .int .u8 pr3, .int .u8 pr4, .int .u8 pr5, .int .u8 pr6, .int .u8 pr7]) (.tail _ (.tail _ (.head _)))
    have h1 := H.has (w9.heap.size, #[.int .u8 pt0, .int .u8 pt1, .int .u8 pt2, .int .u8 pt3, .int .u8 pt4, .int .u8 pt5, .int .u8 pt6, .int .u8 pt7]) (.tail _ (.head _))
    have h0 := H.has (w10.heap.size, #[.int .u8 pt0, .int .u8 pt1, .int .u8 pt2, .int .u8 pt3, .int .u8 pt4, .int .u8 pt5, .int .u8 pt6, .int .u8 pt7]) (.head _)
    have h10 := H.has (w.heap.size, #[.int .u8 c0, .int .u8 c1, .int .u8 c2, .int .u8 c3, .int .u8 c4, .int .u8 c5, .int .u8 c6, .int .u8 c7]) (.tail _ (.tail _ (.tail _ (.tail _ (.tail _ (.tail _ (.tail _ (.tail _ (.tail _ (.tail _ (.head _)))))))))))
    exact ⟨H, h9.cell 0, h9.cell 1, h9.cell 2, h9.cell 3, h9.cell 4, h9.cell 5, h9.cell 6, h9.cell 7, h8.cell 0, h8.cell 1, h8.cell 2, h8.cell 3, h8.cell 4, h8.cell 5, h8.cell 6, h8.cell 7, h7.cell 0, h7.cell 1, h7.cell 2, h7.cell 3, h7.cell 4, h7.cell 5, h7.cell 6, h7.cell 7, h6.cell 0, h6.cell 1, h6.cell 2, h6.cell 3, h6.cell 4, h6.cell 5, h6.cell 6, h6.cell 7, h5.cell 0, h5.cell 1, h5.cell 2, h5.cell 3, h5.cell 4, h5.cell 5, h5.cell 6, h5.cell 7, h4.cell 0, h4.cell 1, h4.cell 2, h4.cell 3, h4.cell 4, h4.cell 5, h4.cell 6, h4.cell 7, h3.cell 0, h3.cell 1, h3.cell 2, h3.cell 3, h3.cell 4, h3.cell 5, h3.cell 6, h3.cell 7, h2.cell 0, h2.cell 1, h2.cell 2, h2.cell 3, h2.cell 4, h2.cell 5, h2.cell 6, h2.cell 7, h1.cell 0, h1.cell 1, h1.cell 2, h1.cell 3, h1.cell 4, h1.cell 5, h1.cell 6, h1.cell 7, h0.cell 0, h0.cell 1, h0.cell 2, h0.cell 3, h0.cell 4, h0.cell 5, h0.cell 6, h0.cell 7, h10.cell 0, h10.cell 1, h10.cell 2, h10.cell 3, h10.cell 4, h10.cell 5, h10.cell 6, h10.cell 7⟩
  have HALL := Lib.hid hall
  clear hall
  obtain ⟨kk, hkk⟩ : ∃ kk : Nat, kk = if c0 = 0 ∧ c1 = 2 then 1 else if c0 = 3 ∧ c1 = 12 then 2 else if c0 = 6 ∧ c1 = 0 then 3 else if c0 = 6 ∧ c1 = 1 then 4 else if c0 = 6 ∧ c1 = 2 then 5 else if c0 = 6 ∧ c1 = 3 then 6 else if c0 = 6 ∧ c1 = 6 then 7 else 0 := ⟨_, rfl⟩
  have HKK := Lib.hid hkk
  clear hkk
  go_wp2_with fail
  simp only [List.append_eq, List.cons_append, List.nil_append]
  go_region_held3 (fun w' => KS w [(w10.heap.size, #[.int .u8 pt0, .int .u8 pt1, .int .u8 pt2, .int .u8 pt3, .int .u8 pt4, .int .u8 pt5, .int .u8 pt6, .int .u8 pt7]), (w9.heap.size, #[.int .u8 pt0, .int .u8 pt1, .int .u8 pt2, .int .u8 pt3, .int .u8 pt4, .int .u8 pt5, .int .u8 pt6, .int .u8 pt7]), (w8.heap.size, #[.int .u8 pr0, .int .u8 pr1, .int .u8 pr2, .int .u8 pr3, .int .u8 pr4, .int .u8 pr5, .int .u8 pr6, .int .u8 pr7]), (w7.heap.size, #[.int .u8 pr0, .int .u8 pr1, .int .u8 pr2, .int .u8 pr3, .int .u8 pr4, .int .u8 pr5, .int .u8 pr6, .int .u8 pr7]), (w6.heap.size, #[.int .u8 pi0, .int .u8 pi1, .int .u8 pi2, .int .u8 pi3, .int .u8 pi4, .int .u8 pi5, .int .u8 pi6, .int .u8 pi7]), (w5.heap.size, #[.int .u8 pi0, .int .u8 pi1, .int .u8 pi2, .int .u8 pi3, .int .u8 pi4, .int .u8 pi5, .int .u8 pi6, .int .u8 pi7]), (w4.heap.size, #[.int .u8 pl0, .int .u8 pl1, .int .u8 pl2, .int .u8 pl3, .int .u8 pl4, .int .u8 pl5, .int .u8 pl6, .int .u8 pl7]), (w3.heap.size, #[.int .u8 pl0, .int .u8 pl1, .int .u8 pl2, .int .u8 pl3, .int .u8 pl4, .int .u8 pl5, .int .u8 pl6, .int .u8 pl7]), (w2.heap.size, #[.int .u8 pe0, .int .u8 pe1, .int .u8 pe2, .int .u8 pe3, .int .u8 pe4, .int .u8 pe5, .int .u8 pe6, .int .u8 pe7]), (w1.heap.size, #[.int .u8 pe0, .int .u8 pe1, .int .u8 pe2, .int .u8 pe3, .int .u8 pe4, .int .u8 pe5, .int .u8 pe6, .int .u8 pe7]), (w.heap.size, #[.int .u8 c0, .int .u8 c1, .int .u8 c2, .int .u8 c3, .int .u8 c4, .int .u8 c5, .int .u8 c6, .int .u8 c7])] w' ∧ w'.cell? ⟨w1.heap.size, 0, none⟩ = some (.int .u8 pe0) ∧ w'.cell? ⟨w1.heap.size, 1, none⟩ = some (.int .u8 pe1) ∧ w'.cell? ⟨w1.heap.size, 2, none⟩ = some (.int .u8 pe2) ∧ w'.cell? ⟨w1.heap.size, 3, none⟩ = some (.int .u8 pe3) ∧ w'.cell? ⟨w1.heap.size, 4, none⟩ = some (.int .u8 pe4) ∧ w'.cell? ⟨w1.heap.size, 5, none⟩ = some (.int .u8 pe5) ∧ w'.cell? ⟨w1.heap.size, 6, none⟩ = some (.int .u8 pe6) ∧ w'.cell? ⟨w1.heap.size, 7, none⟩ = some (.int .u8 pe7) ∧ w'.cell? ⟨w2.heap.size, 0, none⟩ = some (.int .u8 pe0) ∧ w'.cell? ⟨w2.heap.size, 1, none⟩ = some (.int .u8 pe1) ∧ w'.cell? ⟨w2.heap.size, 2, none⟩ = some (.int .u8 pe2) ∧ w'.cell? ⟨w2.heap.size, 3, none⟩ = some (.int .u8 pe3) ∧ w'.cell? ⟨w2.heap.size, 4, none⟩ = some (.int .u8 pe4) ∧ w'.cell? ⟨w2.heap.size, 5, none⟩ = some (.int .u8 pe5) ∧ w'.cell? ⟨w2.heap.size, 6, none⟩ = some (.int .u8 pe6) ∧ w'.cell? ⟨w2.heap.size, 7, none⟩ = some (.int .u8 pe7) ∧ w'.cell? ⟨w3.heap.size, 0, none⟩ = some (.int .u8 pl0) ∧ w'.cell? ⟨w3.heap.size, 1, none⟩ = some (.int .u8 pl1) ∧ w'.cell? ⟨w3.heap.size, 2, none⟩ = some (.int .u8 pl2) ∧ w'.cell? ⟨w3.heap.size, 3, none⟩ = some (.int .u8 pl3) ∧ w'.cell? ⟨w3.heap.size, 4, none⟩ = some (.int .u8 pl4) ∧ w'.cell? ⟨w3.heap.size, 5, none⟩ = some (.int .u8 pl5) ∧ w'.cell? ⟨w3.heap.size, 6, none⟩ = some (.int .u8 pl6) ∧ w'.cell? ⟨w3.heap.size, 7, none⟩ = some (.int .u8 pl7) ∧ w'.cell? ⟨w4.heap.size, 0, none⟩ = some (.int .u8 pl0) ∧ w'.cell? ⟨w4.heap.size, 1, none⟩ = some (.int .u8 pl1) ∧ w'.cell? ⟨w4.heap.size, 2, none⟩ = some (.int .u8 pl2) ∧ w'.cell? ⟨w4.heap.size, 3, none⟩ = some (.int .u8 pl3) ∧ w'.cell? ⟨w4.heap.size, 4, none⟩ = some (.int .u8 pl4) ∧ w'.cell? ⟨w4.heap.size, 5, none⟩ = some (.int .u8 pl5) ∧ w'.cell? ⟨w4.heap.size, 6, none⟩ = some (.int .u8 pl6) ∧ w'.cell? ⟨w4.heap.size, 7, none⟩ = some (.int .u8 pl7) ∧ w'.cell? ⟨w5.heap.size, 0, none⟩ = some (.int .u8 pi0) ∧ w'.cell? ⟨w5.heap.size, 1, none⟩ = some (.int .u8 pi1) ∧ w'.cell? ⟨w5.heap.size, 2, none⟩ = some (.int .u8 pi2) ∧ w'.cell? ⟨w5.heap.size, 3, none⟩ = some (.int .u8 pi3) ∧ w'.cell? ⟨w5.heap.size, 4, none⟩ = some (.int .u8 pi4) ∧ w'.cell? ⟨w5.heap.size, 5, none⟩ = some (.int .u8 pi5) ∧ w'.cell? ⟨w5.heap.size, 6, none⟩ = some (.int .u8 pi6) ∧ w'.cell? ⟨w5.heap.size, 7, none⟩ = some (.int .u8 pi7) ∧ w'.cell? ⟨w6.heap.size, 0, none⟩ = some (.int .u8 pi0) ∧ w'.cell? ⟨w6.heap.size, 1, none⟩ = some (.int .u8 pi1) ∧ w'.cell? ⟨w6.heap.size, 2, none⟩ = some (.int .u8 pi2) ∧ w'.cell? ⟨w6.heap.size, 3, none⟩ = some (.int .u8 pi3) ∧ w'.cell? ⟨w6.heap.size, 4, none⟩ = some (.int .u8 pi4) ∧ w'.cell? ⟨w6.heap.size, 5, none⟩ = some (.int .u8 pi5) ∧ w'.cell? ⟨w6.heap.size, 6, none⟩ = some (.int .u8 pi6) ∧ w'.cell? ⟨w6.heap.size, 7, none⟩ = some (.int .u8 pi7) ∧ w'.cell? ⟨w7.heap.size, 0, none⟩ = some (.int .u8 pr0) ∧ w'.cell? ⟨w7.heap.size, 1, none⟩ = some (.int .u8 pr1) ∧ w'.cell? ⟨w7.heap.size, 2, none⟩ = some (.int .u8 pr2) ∧ w'.cell? ⟨w7.heap.size, 3, none⟩ = some (.int .u8 pr3) ∧ w'.cell? ⟨w7.heap.size, 4, none⟩ = some (.int .u8 pr4) ∧ w'.cell? ⟨w7.heap.size, 5, none⟩ = some (.int .u8 pr5) ∧ w'.cell? ⟨w7.heap.size, 6, none⟩ = some (.int .u8 pr6) ∧ w'.cell? ⟨w7.heap.size, 7, none⟩ = some (.int .u8 pr7) ∧ w'.cell? ⟨w8.heap.size, 0, none⟩ = some (.int .u8 pr0) ∧ w'.cell? ⟨w8.heap.size, 1, none⟩ = some (.int .u8 pr1) ∧ w'.cell? ⟨w8.heap.size, 2, none⟩ = some (.int .u8 pr2) ∧ w'.cell? ⟨w8.heap.size, 3, none⟩ = some (.int .u8 pr3) ∧ w'.cell? ⟨w8.heap.size, 4, none⟩ = some (.int .u8 pr4) ∧ w'.cell? ⟨w8.heap.size, 5, none⟩ = some (.int .u8 pr5) ∧ w'.cell? ⟨w8.heap.size, 6, none⟩ = some (.int .u8 pr6) ∧ w'.cell? ⟨w8.heap.size, 7, none⟩ = some (.int .u8 pr7) ∧ w'.cell? ⟨w9.heap.size, 0, none⟩ = some (.int .u8 pt0) ∧ w'.cell? ⟨w9.heap.size, 1, none⟩ = some (.int .u8 pt1) ∧ w'.cell? ⟨w9.heap.size, 2, none⟩ = some (.int .u8 pt2) ∧ w'.cell? ⟨w9.heap.size, 3, none⟩ = some (.int .u8 pt3) ∧ w'.cell? ⟨w9.heap.size, 4, none⟩ = some (.int .u8 pt4) ∧ w'.cell? ⟨w9.heap.size, 5, none⟩ = some (.int .u8 pt5) ∧ w'.cell? ⟨w9.heap.size, 6, none⟩ = some (.int .u8 pt6) ∧ w'.cell? ⟨w9.heap.size, 7, none⟩ = some (.int .u8 pt7) ∧ w'.cell? ⟨w10.heap.size, 0, none⟩ = some (.int .u8 pt0) ∧ w'.cell? ⟨w10.heap.size, 1, none⟩ = some (.int .u8 pt1) ∧ w'.cell? ⟨w10.heap.size, 2, none⟩ = some (.int .u8 pt2) ∧ w'.cell? ⟨w10.heap.size, 3, none⟩ = some (.int .u8 pt3) ∧ w'.cell? ⟨w10.heap.size, 4, none⟩ = some (.int .u8 pt4) ∧ w'.cell? ⟨w10.heap.size, 5, none⟩ = some (.int .u8 pt5) ∧ w'.cell? ⟨w10.heap.size, 6, none⟩ = some (.int .u8 pt6) ∧ w'.cell? ⟨w10.heap.size, 7, none⟩ = some (.int .u8 pt7) ∧ w'.cell? ⟨w.heap.size, 0, none⟩ = some (.int .u8 c0) ∧ w'.cell? ⟨w.heap.size, 1, none⟩ = some (.int .u8 c1) ∧ w'.cell? ⟨w.heap.size, 2, none⟩ = some (.int .u8 c2) ∧ w'.cell? ⟨w.heap.size, 3, none⟩ = some (.int .u8 c3) ∧ w'.cell? ⟨w.heap.size, 4, none⟩ = some (.int .u8 c4) ∧ w'.cell? ⟨w.heap.size, 5, none⟩ = some (.int .u8 c5) ∧ w'.cell? ⟨w.heap.size, 6, none⟩ = some (.int .u8 c6) ∧ w'.cell? ⟨w.heap.size, 7, none⟩ = some (.int .u8 c7))
    (first | exact HALL.out _ (KS.below K11.out ⟨rfl, rfl, rfl, Nat.le_refl _, fun _ _ => rfl⟩) | exact HALL.out _ (KS.below (And.left (a := KS w _ _) (by assumption)) hbx))
    (first
      | (go_at_call 25; refine (target_any az n az0 az1 n0 n1 _ (KS.gk (And.left (a := KS w _ _) (by assumption)))).mono ?_; rw [U.out]; rintro en wx ⟨rfl, hbx⟩)
      | (go_at_call 26; refine (rtarget_any az n az0 az1 n0 n1 _).mono ?_; rw [U.out]; rintro en wx ⟨rfl, hbx⟩)
      | (go_at_call 15; refine (mobility_any is n n0 n1 _ (KS.gk (And.left (a := KS w _ _) (by assumption)))).mono ?_; rw [V.out]; rintro en wx ⟨rfl, hbx⟩)
      | (go_at_call 27; refine (rmobility_any is n n0 n1 _).mono ?_; rw [V.out]; rintro en wx ⟨rfl, hbx⟩)
      | (go_at_call 18; refine (kind_any c0 c1 c2 c3 c4 c5 c6 c7 _ (KS.gk (And.left (a := KS w _ _) (by assumption))) kk HKK.out).mono ?_; rintro en wx ⟨rfl, hbx⟩)
      | (go_at_call 28; refine (rkind_any c0 c1 c2 c3 c4 c5 c6 c7 _ kk HKK.out).mono ?_; rintro en wx ⟨rfl, hbx⟩))
  go_wp2_with fail
  go_ret
  exact ⟨rfl, KS.bel (And.left (a := KS w _ _) (by assumption))⟩

end Go.Proofs.YtofbgpgngplgpaaDoor
