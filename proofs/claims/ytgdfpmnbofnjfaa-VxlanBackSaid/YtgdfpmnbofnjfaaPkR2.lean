/- Packets: the document's header. -/
import Derived.Test.YtgdfpmnbofnjfaaPkK
import Derived.Test.YtgdfpmnbofnjfaaPkW3
namespace Go.Proofs.Ytgdfpmnbofnjfaa
open Go.RowKit Go.Shelf
set_option linter.unusedVariables false
set_option linter.unusedSimpArgs false
set_option maxRecDepth 100000

theorem O5.row {w : World} {h cap n : Nat} {bs : List Int} (H : Row w h cap bs) (hn : bs.length = n) : O5 w [h] (.slice (some ⟨h, 0, none⟩) n cap) bs := by
  subst hn
  exact ⟨H.own (Nat.zero_le _), rfl⟩
theorem Row.new (w : World) (bs : List Int) (C : Array Value) (hC : C = (u8s bs).toArray) (hm : bs.length ≤ 1000) : Row (w.alloc (.cells C 5)) w.heap.size bs.length bs := by
  subst hC
  exact ⟨_, Has.new w _ _, by simp, by rw [List.take_of_length_le (by simp)], Nat.le_refl _, by unfold maxLen; omega⟩
theorem O5.arr {w : World} {l : List Nat} {v : Value} {xs : List Int} (h : O5 w l v xs) : Arr w v xs := by
  by_cases hnil : v = .slice none 0 0
  · subst hnil
    refine .inl ⟨rfl, ?_⟩
    rcases h.1.2 with ⟨_, h0⟩ | ⟨g, _, _, e, _⟩
    · exact List.eq_nil_of_length_eq_zero h0
    · cases e
  · obtain ⟨g, cp, rfl, _, hr⟩ := own_row h.1 hnil rfl
    exact row_arr hr rfl
theorem O5.to {w : World} {l : List Nat} {A : Option Addr} {n c : Nat} {xs : List Int} (h : O5 w l (.slice A n c) xs) (hp : 0 < xs.length) (hn : xs.length = n) : ∃ g, A = some ⟨g, 0, none⟩ ∧ Row w g c xs ∧ l = [g] := by
  subst hn
  rcases h.1.2 with ⟨e, h0⟩ | ⟨g, cap, cur, e, h1, h2, h3, h4, h5, h6⟩
  · omega
  · injection e with e1 e2 e3
    subst e1 e3
    refine ⟨g, rfl, ⟨cur, h2, by omega, by simpa using h6, h3, h4⟩, ?_⟩
    rw [h.2]
    rfl

/-- A header whose checksum is written behind. -/
theorem hdr_set (x : FR) (s : Int) (h0 : 0 ≤ s) (h1 : s ≤ 65535) : ((hdr x 0).set 10 (s / 256)).set 11 (s % 256) = hdr x s := by
  have e1 : s / 256 ^ 1 % 256 = s / 256 := by
    have : (256 : Int) ^ 1 = 256 := by decide
    omega
  have e0 : s / 256 ^ 0 % 256 = s % 256 := by
    have : (256 : Int) ^ 0 = 1 := by decide
    omega
  simp only [hdr, be, List.cons_append, List.nil_append, List.set_cons_succ, List.set_cons_zero, e1, e0]

set_option maxHeartbeats 4000000 in
theorem rheader_any (x : FR) (hx : x.okH) (z : Int) (hz : hsz x = z) (hz2 : 0 ≤ z ∧ z ≤ 36) (w : World) :
    Calls Try.prog 34 #[.int .i64 z, .int .i64 x.tl, .int .i64 x.pr, .int .u32 x.hs, .int .u32 x.hd] w fun e w' => ∃ g c, e = .returned (.slice (some ⟨g, 0, none⟩) 20 c) ∧ Row w' g c (hdrS x) ∧ w.heap.size ≤ g ∧ Below w.heap.size w w' := by
  obtain ⟨hhs0, hhs1⟩ := hx.hs
  obtain ⟨hhd0, hhd1⟩ := hx.hd
  obtain ⟨htl0, htl1⟩ := hx.tl
  obtain ⟨hpr0, hpr1⟩ := hx.pr
  obtain ⟨hz0, hz1⟩ := hz2
  have HO1 : Hid (O5 (w.alloc (.cells #[.int .u8 69, .int .u8 0] 5)) [w.heap.size] (.slice (some ⟨w.heap.size, 0, none⟩) 2 2) [69, 0]) := Lib.hid (O5.row (Row.new w [69, 0] _ rfl (by decide)) rfl)
  have HN1 : Hid (Next w [] (w.alloc (.cells #[.int .u8 69, .int .u8 0] 5)) [w.heap.size]) := Lib.hid ⟨turn_below ((Below.refl _ w).alloc (Nat.le_refl _) _) [], fun k hk => .inr (by rw [List.mem_singleton] at hk; omega)⟩
  obtain ⟨P1, hP1⟩ : ∃ P, [69, 0] ++ be z 2 = P := ⟨_, rfl⟩
  obtain ⟨P2, hP2⟩ : ∃ P, P1 ++ [0, 0, 0, 0, x.tl, x.pr, 0, 0] = P := ⟨_, rfl⟩
  obtain ⟨P3, hP3⟩ : ∃ P, P2 ++ be x.hs 4 = P := ⟨_, rfl⟩
  have hP4 : P3 ++ be x.hd 4 = hdr x 0 := by
    have e1 : be x.tl 1 = [x.tl] := by simp [be]; omega
    have e2 : be x.pr 1 = [x.pr] := by simp [be]; omega
    have e3 : be 17664 2 = [69, 0] := by decide
    have e4 : be 0 4 = [0, 0, 0, 0] := by decide
    have e5 : be 0 2 = [0, 0] := by decide
    rw [← hP3, ← hP2, ← hP1]
    unfold hdr
    rw [hz, e1, e2, e3, e4, e5]
    simp only [List.append_assoc, List.cons_append, List.nil_append]
  have hl1 : P1.length = 4 := by rw [← hP1]; simp [be_length]
  have hl2 : P2.length = 12 := by rw [← hP2]; simp [hl1]
  have hl3 : P3.length = 16 := by rw [← hP3]; simp [hl2, be_length]
  have HL := Lib.hid (And.intro hl1 (And.intro hl2 hl3))
  have HP1 := Lib.hid hP1
  have HP2 := Lib.hid hP2
  have HP3 := Lib.hid hP3
  have HP4 := Lib.hid hP4
  have hsm := sumP_le (hdr x 0) (hdr_byte x 0)
  obtain ⟨s, hs⟩ : ∃ s, sumP (hdr x 0) = s := ⟨_, rfl⟩
  rw [hs] at hsm
  have HSum : Hid (∀ (W : World) (v : Value), Arr W v (hdr x 0) → Calls Try.prog 62 #[v] W fun e w' => e = .returned (.int .u16 s) ∧ W = w') := Lib.hid (fun W v h => hs ▸ rsum_arr v (hdr x 0) W h (by rw [hdr_len]; decide) (hdr_byte x 0))
  have HFin : Hid (((hdr x 0).set 10 (s / 256)).set 11 (s % 256) = hdrS x) := Lib.hid (by rw [hdr_set x s hsm.1 hsm.2]; unfold hdrS; rw [hs])
  obtain ⟨hs0, hs1⟩ := hsm
  have hw1 : IntKind.u8.wrap (s / 256) = s / 256 := by
    have e : IntKind.u8.wrap (s / 256) = (s / 256) % 256 := by rfl
    rw [e]; omega
  have hw2 : IntKind.u8.wrap s = s % 256 := by rfl
  clear hP1 hP2 hP3 hP4 hl1 hl2 hl3 hs hx hz
  go_enter Try.func34, Try.ntmps34
  go_wp2_with fail
  refine (rput7_2 _ _ [69, 0] z ⟨by omega, by omega⟩ (by decide) _ HO1.out).mono ?_
  rw [HP1.out]
  rintro e w2 ⟨A2, c2, l2, rfl, ho2, hn2⟩
  have HO2 := Lib.hid ho2
  have HN2 := Lib.hid (HN1.out.trans hn2)
  clear ho2 hn2 HO1 HN1
  have HO2k : Hid (O5 (w2.alloc (.cells #[.int .u8 0, .int .u8 0, .int .u8 0, .int .u8 0, .int .u8 x.tl, .int .u8 x.pr, .int .u8 0, .int .u8 0] 5)) l2 (.slice A2 P1.length c2) P1) := Lib.hid (HO2.out.below ((Below.refl _ w2).alloc (Nat.le_refl _) _))
  have HN2k : Hid (Next w [] (w2.alloc (.cells #[.int .u8 0, .int .u8 0, .int .u8 0, .int .u8 0, .int .u8 x.tl, .int .u8 x.pr, .int .u8 0, .int .u8 0] 5)) l2) := Lib.hid (HN2.out.trans (Next.of_below ((Below.refl _ w2).alloc (Nat.le_refl _) _) _))
  go_wp2_with (at_builtin; refine wpList_app5 rfl (.tmp 17) (.tmp 22) rfl HO2k.out rfl ⟨w2.heap.size, 0, none⟩ 8 [0, 0, 0, 0, x.tl, x.pr, 0, 0] rfl news5 (by have := HL.out.1; simp; omega) (some 23) rfl ?_; rw [HP2.out]; intro A3 c3 w3 l3 ho3 hn3; have HO3 := Lib.hid ho3; have HN3 := Lib.hid (HN2k.out.trans hn3); clear ho3 hn3 HO2 HN2 HO2k HN2k)
  refine (rput7_4 _ _ P2 x.hs ⟨by omega, by omega⟩ (by rw [HL.out.2.1]; decide) _ HO3.out).mono ?_
  rw [HP3.out]
  rintro e w4 ⟨A4, c4, l4, rfl, ho4, hn4⟩
  have HO4 := Lib.hid ho4
  have HN4 := Lib.hid (HN3.out.trans hn4)
  clear ho4 hn4 HO3 HN3
  go_wp2_with fail
  refine (rput7_4 _ _ P3 x.hd ⟨by omega, by omega⟩ (by rw [HL.out.2.2]; decide) _ HO4.out).mono ?_
  rw [HP4.out]
  rintro e w5 ⟨A5, c5, l5, rfl, ho5, hn5⟩
  have HN5 := Lib.hid (HN4.out.trans hn5)
  have hlen := hdr_len x 0
  rw [hlen] at ho5 ⊢
  obtain ⟨g, rfl, hrow, rfl⟩ := ho5.to (by rw [hlen]; decide) hlen
  have HR := Lib.hid hrow
  have HG : Hid (w.heap.size ≤ g) := Lib.hid ((HN5.out.below (by simp) (Nat.le_refl _)).2 g (by simp))
  have HB : Hid (Below w.heap.size w w5) := Lib.hid (HN5.out.below (by simp) (Nat.le_refl _)).1
  clear ho5 hn5 HO4 HN4 hrow HN5 hlen
  go_wp2_with fail
  refine (HSum.out _ _ (row_arr HR.out (hdr_len x 0))).mono ?_
  rintro e w6 ⟨rfl, rfl⟩
  have q0 := HR.out.cell 10 (by rw [hdr_len]; decide)
  have q1 := HR.out.cell 11 (by rw [hdr_len]; decide)
  obtain ⟨y0, hy0⟩ : ∃ y, (hdr x 0)[10]'(by rw [hdr_len]; decide) = y := ⟨_, rfl⟩
  obtain ⟨y1, hy1⟩ : ∃ y, (hdr x 0)[11]'(by rw [hdr_len]; decide) = y := ⟨_, rfl⟩
  rw [hy0] at q0
  rw [hy1] at q1
  have p0 : w5.frozen? ⟨g, 10, none⟩ = false := by
    obtain ⟨_, h1, _⟩ := HR.out
    exact h1.free _
  have p1 : w5.frozen? ⟨g, 11, none⟩ = false := by
    obtain ⟨_, h1, _⟩ := HR.out
    exact h1.free _
  have HRf := Lib.hid ((HR.out.set_ 10 (s / 256)).set_ 11 (s % 256))
  have HBf := Lib.hid ((HB.out.setCell (p := ⟨g, 10, none⟩) HG.out (.int .u8 (s / 256))).setCell (p := ⟨g, 11, none⟩) HG.out (.int .u8 (s % 256)))
  rw [HFin.out] at HRf
  clear hy0 hy1
  go_wp2_with fail
  go_ret
  exact ⟨g, c5, rfl, HRf.out, HG.out, HBf.out⟩

end Go.Proofs.Ytgdfpmnbofnjfaa
