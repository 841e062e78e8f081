/- Communities: == on them; the same numbers compared; the example of the chapter. -/
import Derived.Test.YtofbgpgngplgpaaDoorCmE
namespace Go.Proofs.YtofbgpgngplgpaaDoor
open Go.RowKit
set_option linter.unusedVariables false
set_option maxRecDepth 100000

theorem all_range_ints : ∀ (xs ys : List Int), xs.length = ys.length → ((List.range xs.length).all fun i => xs.getD i 0 == ys.getD i 0) = (xs == ys)
  | [], [], _ => rfl
  | x :: xs, y :: ys, h => by
    have ih := all_range_ints xs ys (by simpa using h)
    rw [List.length_cons, List.range_succ_eq_map, List.all_cons, List.all_map]
    simp only [List.getD_cons_zero, Function.comp_def, List.getD_cons_succ, ih]
    simp [List.cons_beq_cons]
  | [], _ :: _, h => by simp at h
  | _ :: _, [], h => by simp at h

theorem run_equalIn_ints (P : Program) (w : World) (d : Nat) (t e : TypeId) (n : Nat) (k : IntKind) (ht : P.underlying t = some (.array n e)) (he : P.underlying e = some (.int k)) (hsz : ∀ w, (sizeOf e).run P w = .ok 1 w)
    (xs ys : List Int) (hx : xs.length = n) (hy : ys.length = n) :
    (Op.equalIn (d + 2) t (.agg (xs.map (Value.int k)).toArray) (.agg (ys.map (Value.int k)).toArray)).run P w = .ok (xs == ys) w := by
  rw [← all_range_ints xs ys (hx.trans hy.symm), hx, List.range_eq_range', Op.equalIn]
  simp only [Sem.run_bind, run_underlying ht, Result.andThen_ok, hsz, Std.Legacy.Range.forIn_eq_forIn_range', Std.Legacy.Range.size, Nat.sub_zero, Nat.add_sub_cancel, Nat.div_one]
  have hl : ∀ i ∈ List.range' 0 n 1, i < n := fun i hi => by simpa using (List.mem_range'_1.1 hi).2
  generalize List.range' 0 n 1 = l at hl ⊢
  induction l with
  | nil => simp
  | cons i l ih =>
    have hi : i < n := hl i (by simp)
    have px : (part e (xs.map (Value.int k)).toArray (i * 1)).run P w = .ok (.int k (xs.getD i 0)) w := by
      simp [part, isAgg, run_underlying he, List.getD, List.getElem?_eq_getElem (show i < xs.length by omega)]
    have py : (part e (ys.map (Value.int k)).toArray (i * 1)).run P w = .ok (.int k (ys.getD i 0)) w := by
      simp [part, isAgg, run_underlying he, List.getD, List.getElem?_eq_getElem (show i < ys.length by omega)]
    have pe : (Op.equalIn (d + 1) e (.int k (xs.getD i 0)) (.int k (ys.getD i 0))).run P w = .ok (xs.getD i 0 == ys.getD i 0) w :=
      run_equalIn_int w d e k k _ _ he
    simp only [List.forIn_cons, Sem.run_bind, px, py, pe, Result.andThen_ok, List.all_cons]
    cases hb : (xs.getD i 0 == ys.getD i 0)
    · simp
    · simp only [Bool.not_true, Bool.false_eq_true, if_false, Sem.run_pure, Result.andThen_ok, Bool.true_and]
      exact ih fun j hj => hl j (by simp [hj])

theorem sizeB (w : World) : (sizeOf 5).run Tryd.prog w = .ok 1 w := by kernel_rfl

/-- Two communities compared. -/
theorem cm_eq (w : World) (a b c d e f g h a' b' c' d' e' f' g' h' : Int) :
    (Op.equalIn 10000 24 (cm a b c d e f g h) (cm a' b' c' d' e' f' g' h')).run Tryd.prog w = .ok ([a, b, c, d, e, f, g, h] == [a', b', c', d', e', f', g', h']) w :=
  run_equalIn_ints Tryd.prog w 9998 24 5 8 .u8 Tryd.underlying24 Tryd.underlying5 sizeB [a, b, c, d, e, f, g, h] [a', b', c', d', e', f', g', h'] rfl rfl

theorem cm_self (w : World) (a b c d e f g h : Int) : (Op.equalIn 10000 24 (cm a b c d e f g h) (cm a b c d e f g h)).run Tryd.prog w = .ok true w := by
  rw [cm_eq]; simp

theorem ArrU.below {w w' : World} {v : Value} {xs : List Int} (h : ArrU w v xs) (hb : Below w.heap.size w w') : ArrU w' v xs := by
  rcases h with h | ⟨b, c, h1, h2⟩
  · exact .inl h
  · refine .inr ⟨b, c, h1, fun i hi => ?_⟩
    have h3 := h2 i hi
    exact keep_cell hb (World.block_lt_of_cell? w _ h3) h3

/-- The same numbers compared. -/
theorem sameU_yes (v v2 : Value) (xs : List Int) (w : World) (h : ArrU w v xs) (h2 : ArrU w v2 xs) (hm : xs.length ≤ 1000000) :
    Calls Tryd.prog 40 #[v, v2] w fun e w' => e = .returned (.bool true) ∧ Below w.heap.size w w' := by
  by_cases h0 : xs.length = 0
  · obtain ⟨A, c, rfl⟩ : ∃ A c, v = .slice A 0 c := by
      rcases h with ⟨rfl, _⟩ | ⟨b, c, h1, _⟩
      · exact ⟨none, 0, rfl⟩
      · exact ⟨_, c, by rw [h1, h0]⟩
    obtain ⟨A2, c2, rfl⟩ : ∃ A c, v2 = .slice A 0 c := by
      rcases h2 with ⟨rfl, _⟩ | ⟨b, c, h1, _⟩
      · exact ⟨none, 0, rfl⟩
      · exact ⟨_, c, by rw [h1, h0]⟩
    clear h h2 h0
    go_enter Tryd.func40, Tryd.ntmps40
    go_wp2
    go_loop [5] (fun i => i = .int .i64 0) (fun i => 0)
    case atStart => rfl
    case round =>
      subst hrel
      go_wp2
      go_ret
      exact ⟨rfl, Below.refl _ _⟩
  · obtain ⟨b, c, rfl, hs⟩ : ∃ b c, v = .slice (some ⟨b, 0, none⟩) xs.length c ∧ ∀ i (hi : i < xs.length), w.cell? ⟨b, i, none⟩ = some (.int .u32 xs[i]) := by
      rcases h with ⟨_, h1⟩ | h1
      · rw [h1] at h0; exact absurd rfl h0
      · exact h1
    obtain ⟨b2, c2, rfl, hs2⟩ : ∃ b c, v2 = .slice (some ⟨b, 0, none⟩) xs.length c ∧ ∀ i (hi : i < xs.length), w.cell? ⟨b, i, none⟩ = some (.int .u32 xs[i]) := by
      rcases h2 with ⟨_, h1⟩ | h1
      · rw [h1] at h0; exact absurd rfl h0
      · exact h1
    have HS := Lib.hid hs
    have HS2 := Lib.hid hs2
    clear hs hs2 h h2 h0
    go_enter Tryd.func40, Tryd.ntmps40
    go_wp2
    go_loopw [5] (fun i wr => ∃ k q : Nat, k ≤ xs.length ∧ i = .int .i64 k ∧ wr = w.drewN q) (fun i _ => xs.length - (intOf i).toNat)
    case atStart => exact ⟨0, 0, Nat.zero_le _, rfl, rfl⟩
    case round =>
      obtain ⟨k, q, hk, rfl, rfl⟩ := hrel
      by_cases hlt : k < xs.length
      · have q1 : w.cell? ⟨b, k, none⟩ = some (.int .u32 xs[k]) := HS.out k hlt
        have q2 : w.cell? ⟨b2, k, none⟩ = some (.int .u32 xs[k]) := HS2.out k hlt
        obtain ⟨x, hx⟩ : ∃ x, xs[k] = x := ⟨_, rfl⟩
        rw [hx] at q1 q2
        have hbne : (x != x) = false := bne_self_eq_false x
        clear hx
        go_wp2
        go_quiet (fail)
        go_wp2
        go_roundw
        case rel => exact ⟨k + 1, _, by omega, by go_num, rfl⟩
        case measure => simp [intOf]; omega
      · have hke : k = xs.length := by omega
        subst hke
        go_wp2
        go_ret
        exact ⟨rfl, ⟨rfl, rfl, rfl, Nat.le_refl _, fun _ _ => rfl⟩⟩

theorem targetL (a n : Int) (C : Value) (hC : mk 0 2 (a * 4294967296 + n) = C) (a0 : 0 ≤ a) (a1 : a ≤ 65535) (n0 : 0 ≤ n) (n1 : n < 4294967296) (w : World) (hw : GK w) :
    Calls Tryd.prog 25 #[.int .u16 a, .int .u32 n] w fun en w' => en = .returned C ∧ Below w.heap.size w w' := by
  rw [← hC]
  exact target_any a n a0 a1 n0 n1 w hw

abbrev L4 : List C8 := [⟨0, 2, 253, 232, 0, 0, 0, 9⟩, ⟨0, 2, 0, 1, 0, 0, 0, 5⟩, ⟨0, 2, 253, 232, 0, 0, 0, 7⟩, ⟨0, 2, 253, 232, 0, 0, 0, 9⟩]
theorem tgts_L4 : tgts L4 = [9, 7, 9] := by
  simp [tgts, tgt, C8.n, n6]

abbrev cs4 : Array Value := #[.int .u8 0, .int .u8 2, .int .u8 253, .int .u8 232, .int .u8 0, .int .u8 0, .int .u8 0, .int .u8 9, .int .u8 0, .int .u8 2, .int .u8 0, .int .u8 1, .int .u8 0, .int .u8 0, .int .u8 0, .int .u8 5, .int .u8 0, .int .u8 2, .int .u8 253, .int .u8 232, .int .u8 0, .int .u8 0, .int .u8 0, .int .u8 7, .int .u8 0, .int .u8 2, .int .u8 253, .int .u8 232, .int .u8 0, .int .u8 0, .int .u8 0, .int .u8 9]

theorem cms4 (w : World) : Cms (w.alloc (.cells cs4 24)) (.slice (some ⟨w.heap.size, 0, none⟩) 4 4) L4 := by
  refine .inr ⟨w.heap.size, 0, 4, rfl, fun i hi => ?_⟩
  have hh := Has.new w 24 cs4
  simp only [List.length_cons, List.length_nil] at hi
  have h4 : i = 0 ∨ i = 1 ∨ i = 2 ∨ i = 3 := by omega
  rcases h4 with rfl | rfl | rfl | rfl
  · exact ⟨hh.cell _, hh.cell _, hh.cell _, hh.cell _, hh.cell _, hh.cell _, hh.cell _, hh.cell _⟩
  · exact ⟨hh.cell _, hh.cell _, hh.cell _, hh.cell _, hh.cell _, hh.cell _, hh.cell _, hh.cell _⟩
  · exact ⟨hh.cell _, hh.cell _, hh.cell _, hh.cell _, hh.cell _, hh.cell _, hh.cell _, hh.cell _⟩
  · exact ⟨hh.cell _, hh.cell _, hh.cell _, hh.cell _, hh.cell _, hh.cell _, hh.cell _, hh.cell _⟩

theorem l4_ok : ∀ x ∈ L4, x.ok := by
  intro x hx
  simp only [List.mem_cons, List.not_mem_nil, or_false] at hx
  rcases hx with rfl | rfl | rfl | rfl <;> simp [C8.ok]

theorem targets_4 (w : World) (hw : GK w) :
    Calls Tryd.prog 41 #[.slice (some ⟨w.heap.size, 0, none⟩) 4 4] (w.alloc (.cells cs4 24)) fun e w' => ∃ v', e = .returned v' ∧ ArrU w' v' [7, 9] ∧ Below (w.alloc (.cells cs4 24)).heap.size (w.alloc (.cells cs4 24)) w' := by
  refine targets_any L4 (by simp) l4_ok _ _ (cms4 w) (hw.keep ((Below.refl _ w).alloc (Nat.le_refl _) _)) [7, 9, 9] [7, 9] (by rw [tgts_L4]; rfl) (by rw [tgts_L4]; simp) ?_ ?_
  · intro h cap W hr
    rw [tgts_L4] at hr ⊢
    exact sort3 h cap W hr
  · intro h cap W hr
    rw [tgts_L4]
    refine (compact3 h cap W hr).mono ?_
    rintro e W' ⟨rfl, c0, c1, ho⟩
    refine ⟨_, rfl, .inr ⟨h, cap, rfl, fun i hi => ?_⟩, ho⟩
    simp only [List.length_cons, List.length_nil] at hi
    have h2 : i = 0 ∨ i = 1 := by omega
    rcases h2 with rfl | rfl
    · exact c0
    · exact c1

set_option maxHeartbeats 1000000 in
theorem lives_any (w : World) (hw : GK w) :
    Calls Tryd.prog 9 #[] w fun e w' => e = .returned (.bool true) ∧ Below w.heap.size w w' := by
  have e7 : mk 0 2 (65000 * 4294967296 + 7) = cm 0 2 253 232 0 0 0 7 := by simp
  have e9 : mk 0 2 (65000 * 4294967296 + 9) = cm 0 2 253 232 0 0 0 9 := by simp
  have e5 : mk 0 2 (1 * 4294967296 + 5) = cm 0 2 0 1 0 0 0 5 := by simp
  have E7 := Lib.hid e7
  have E9 := Lib.hid e9
  have E5 := Lib.hid e5
  have HW := Lib.hid hw
  have heq : ∀ w, (Op.equalIn 10000 24 (cm 0 2 253 232 0 0 0 7) (cm 0 2 253 232 0 0 0 7)).run Tryd.prog w = .ok true w := fun w => cm_self w _ _ _ _ _ _ _ _
  clear e7 e9 e5 hw
  go_enter Tryd.func9, Tryd.ntmps9
  go_wp2_with fail
  refine (targetL 65000 7 _ E7.out (by omega) (by omega) (by omega) (by omega) _ HW.out).mono ?_
  rintro e w1 ⟨rfl, hb⟩
  have H1 : Hid (GK w1 ∧ Below w.heap.size w w1) := Lib.hid ⟨HW.out.keep hb, hb⟩
  clear hb
  go_wp2_with fail
  refine (targetL 65000 9 _ E9.out (by omega) (by omega) (by omega) (by omega) _ H1.out.1).mono ?_
  rintro e w2 ⟨rfl, hb⟩
  have H2 : Hid (GK w2 ∧ Below w.heap.size w w2) := Lib.hid ⟨H1.out.1.keep hb, H1.out.2.trans (hb.mono H1.out.2.size)⟩
  clear hb
  go_wp2_with fail
  refine (targetL 1 5 _ E5.out (by omega) (by omega) (by omega) (by omega) _ H2.out.1).mono ?_
  rintro e w3 ⟨rfl, hb⟩
  have H3 : Hid (GK w3 ∧ Below w.heap.size w w3) := Lib.hid ⟨H2.out.1.keep hb, H2.out.2.trans (hb.mono H2.out.2.size)⟩
  clear hb
  go_wp2_with fail
  refine (targetL 65000 7 _ E7.out (by omega) (by omega) (by omega) (by omega) _ H3.out.1).mono ?_
  rintro e w4 ⟨rfl, hb⟩
  have H4 : Hid (GK w4 ∧ Below w.heap.size w w4) := Lib.hid ⟨H3.out.1.keep hb, H3.out.2.trans (hb.mono H3.out.2.size)⟩
  clear hb
  go_wp2_with fail
  refine (targetL 65000 9 _ E9.out (by omega) (by omega) (by omega) (by omega) _ H4.out.1).mono ?_
  rintro e w5 ⟨rfl, hb⟩
  have H5 : Hid (GK w5 ∧ Below w.heap.size w w5) := Lib.hid ⟨H4.out.1.keep hb, H4.out.2.trans (hb.mono H4.out.2.size)⟩
  clear hb
  go_wp2_with fail
  refine (targets_4 _ H5.out.1).mono ?_
  rintro e w6 ⟨v6, rfl, hv6, hb⟩
  have hb5 : Below w.heap.size w (w5.alloc (.cells cs4 24)) := H5.out.2.alloc H5.out.2.size _
  have H6 : Hid (ArrU w6 v6 [7, 9] ∧ Below w.heap.size w w6) := Lib.hid ⟨hv6, hb5.trans (hb.mono hb5.size)⟩
  clear hb hv6 hb5
  go_wp2_with fail
  have hb7 : Below w6.heap.size w6 (w6.alloc (.cells #[.int .u32 7, .int .u32 9] 28)) := (Below.refl _ w6).alloc (Nat.le_refl _) _
  have H7 : Hid (ArrU (w6.alloc (.cells #[.int .u32 7, .int .u32 9] 28)) v6 [7, 9] ∧ ArrU (w6.alloc (.cells #[.int .u32 7, .int .u32 9] 28)) (.slice (some ⟨w6.heap.size, 0, none⟩) 2 2) [7, 9] ∧ Below w.heap.size w (w6.alloc (.cells #[.int .u32 7, .int .u32 9] 28))) := Lib.hid ⟨H6.out.1.below hb7, .inr ⟨w6.heap.size, 2, rfl, fun i hi => by
    have hh := Has.new w6 28 #[.int .u32 7, .int .u32 9]
    simp only [List.length_cons, List.length_nil] at hi
    have h2 : i = 0 ∨ i = 1 := by omega
    rcases h2 with rfl | rfl
    · exact hh.cell 0
    · exact hh.cell 1⟩, H6.out.2.trans (hb7.mono H6.out.2.size)⟩
  clear hb7
  refine (sameU_yes _ _ [7, 9] _ H7.out.1 H7.out.2.1 (by simp)).mono ?_
  rintro e w8 ⟨rfl, hb⟩
  have H8 : Hid (Below w.heap.size w w8) := Lib.hid (H7.out.2.2.trans (hb.mono H7.out.2.2.size))
  clear hb
  go_wp2_with fail
  go_ret
  exact ⟨rfl, H8.out⟩

end Go.Proofs.YtofbgpgngplgpaaDoor
