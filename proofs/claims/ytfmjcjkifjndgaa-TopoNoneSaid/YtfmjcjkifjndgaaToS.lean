/- Graphs: one that is nil, or that New did not return; TopoNone's walk. -/
import Derived.Test.YtfmjcjkifjndgaaToR
namespace Go.Proofs.Ytfmjcjkifjndgaa
open Go.RowKit Go.Shelf
set_option linter.unusedVariables false
set_option linter.unusedSimpArgs false
set_option maxRecDepth 100000

attribute [local go_sem] Oper.semAt_some

/-- A graph that is none. -/
def NoG (w : World) (P : Option Addr) : Prop := P = none ∨ ∃ z, P = some ⟨z, 0, none⟩ ∧ Has w z 50 (gcs 0 none 0 0 0 0 0 0)
theorem NoG.below {w w' : World} {P : Option Addr} (h : NoG w P) (hb : Below w.heap.size w w') : NoG w' P := by
  rcases h with h | ⟨z, h1, h2⟩
  · exact .inl h
  · exact .inr ⟨z, h1, h2.below hb⟩
theorem bad_valid {w : World} {P : Option Addr} (h : NoG w P) : Calls Try.prog 53 #[.pointer P] w fun e w' => e = .returned (.bool false) ∧ w = w' := by
  rcases h with rfl | ⟨z, rfl, h⟩
  · exact valid_nil w
  · exact valid_zero z w (h.cell 0)
theorem bad_hasLink {w : World} {P : Option Addr} (h : NoG w P) (i : Int) : Calls Try.prog 54 #[.pointer P, .int .i64 i] w fun e w' => e = .returned (.bool false) ∧ w = w' := by
  go_enter Try.func54, Try.ntmps54
  go_wp2_with (go_at_call 53; refine (bad_valid h).mono ?_; rintro e w' ⟨rfl, rfl⟩)
  go_ret
  exact ⟨rfl, rfl⟩
theorem bad_hasNode {w : World} {P : Option Addr} (h : NoG w P) (i : Int) : Calls Try.prog 56 #[.pointer P, .int .i64 i] w fun e w' => e = .returned (.bool false) ∧ w = w' := by
  go_enter Try.func56, Try.ntmps56
  go_wp2_with (go_at_call 53; refine (bad_valid h).mono ?_; rintro e w' ⟨rfl, rfl⟩)
  go_ret
  exact ⟨rfl, rfl⟩
theorem bad_setLink {w : World} {P : Option Addr} (h : NoG w P) (i : Int) (u : Bool) : Calls Try.prog 17 #[.pointer P, .int .i64 i, .bool u] w fun e w' => e = .returned (.int .i64 1) ∧ w = w' := by
  go_enter Try.func17, Try.ntmps17
  go_wp2_with (go_at_call 53; refine (bad_valid h).mono ?_; rintro e w' ⟨rfl, rfl⟩)
  go_ret
  exact ⟨rfl, rfl⟩
theorem bad_setNode {w : World} {P : Option Addr} (h : NoG w P) (i : Int) (u : Bool) : Calls Try.prog 19 #[.pointer P, .int .i64 i, .bool u] w fun e w' => e = .returned (.int .i64 1) ∧ w = w' := by
  go_enter Try.func19, Try.ntmps19
  go_wp2_with (go_at_call 53; refine (bad_valid h).mono ?_; rintro e w' ⟨rfl, rfl⟩)
  go_ret
  exact ⟨rfl, rfl⟩
theorem bad_up {w : World} {P : Option Addr} (h : NoG w P) (i : Int) : Calls Try.prog 24 #[.pointer P, .int .i64 i] w fun e w' => e = .returned (.bool false) ∧ w = w' := by
  go_enter Try.func24, Try.ntmps24
  go_wp2_with (go_at_call 54; refine (bad_hasLink h _).mono ?_; rintro e w' ⟨rfl, rfl⟩)
  go_ret
  exact ⟨rfl, rfl⟩
theorem bad_alive {w : World} {P : Option Addr} (h : NoG w P) (i : Int) : Calls Try.prog 23 #[.pointer P, .int .i64 i] w fun e w' => e = .returned (.bool false) ∧ w = w' := by
  go_enter Try.func23, Try.ntmps23
  go_wp2_with (go_at_call 56; refine (bad_hasNode h _).mono ?_; rintro e w' ⟨rfl, rfl⟩)
  go_ret
  exact ⟨rfl, rfl⟩
theorem bad_nodes {w : World} {P : Option Addr} (h : NoG w P) : Calls Try.prog 25 #[.pointer P] w fun e w' => e = .returned (.int .i64 0) ∧ w = w' := by
  go_enter Try.func25, Try.ntmps25
  go_wp2_with (go_at_call 53; refine (bad_valid h).mono ?_; rintro e w' ⟨rfl, rfl⟩)
  go_ret
  exact ⟨rfl, rfl⟩
theorem bad_links {w : World} {P : Option Addr} (h : NoG w P) : Calls Try.prog 26 #[.pointer P] w fun e w' => e = .returned (.slice none 0 0) ∧ w = w' := by
  go_enter Try.func26, Try.ntmps26
  go_wp2_with (go_at_call 53; refine (bad_valid h).mono ?_; rintro e w' ⟨rfl, rfl⟩)
  go_ret
  exact ⟨rfl, rfl⟩
theorem bad_flags {w : World} {P : Option Addr} (h : NoG w P) : Calls Try.prog 27 #[.pointer P] w fun e w' => e = .returned (.slice none 0 0) ∧ w = w' := by
  go_enter Try.func27, Try.ntmps27
  go_wp2_with (go_at_call 53; refine (bad_valid h).mono ?_; rintro e w' ⟨rfl, rfl⟩)
  go_ret
  exact ⟨rfl, rfl⟩
theorem bad_copy {w : World} {P : Option Addr} (h : NoG w P) : Calls Try.prog 21 #[.pointer P] w fun e w' => e = .returned (.pointer none) ∧ w = w' := by
  go_enter Try.func21, Try.ntmps21
  go_wp2_with (go_at_call 53; refine (bad_valid h).mono ?_; rintro e w' ⟨rfl, rfl⟩)
  go_ret
  exact ⟨rfl, rfl⟩
theorem bad_neigh {w : World} {P : Option Addr} (h : NoG w P) (i : Int) : Calls Try.prog 28 #[.pointer P, .int .i64 i] w fun e w' => e = .returned (.slice none 0 0) ∧ w = w' := by
  go_enter Try.func28, Try.ntmps28
  go_wp2_with (go_at_call 23; refine (bad_alive h _).mono ?_; rintro e w' ⟨rfl, rfl⟩)
  go_ret
  exact ⟨rfl, rfl⟩
theorem bad_btw {w : World} {P : Option Addr} (h : NoG w P) (i j : Int) : Calls Try.prog 29 #[.pointer P, .int .i64 i, .int .i64 j] w fun e w' => e = .returned (.slice none 0 0) ∧ w = w' := by
  go_enter Try.func29, Try.ntmps29
  go_wp2_with (go_at_call 28; refine (bad_neigh h _).mono ?_; rintro e w' ⟨rfl, rfl⟩)
  go_loop [7, 14] (fun v i => v = .slice none 0 0 ∧ i = .int .i64 0) (fun _ _ => 0)
  case atStart => exact ⟨rfl, rfl⟩
  case round =>
    obtain ⟨rfl, rfl⟩ := hrel
    go_wp2_with fail
    go_ret
    exact ⟨rfl, rfl⟩
theorem bad_comps {w : World} {P : Option Addr} (h : NoG w P) : Calls Try.prog 31 #[.pointer P] w fun e w' => e = .returned (.slice none 0 0) ∧ Below w.heap.size w w' := by
  have HH := Lib.hid (h.below (alloc_below w (.cells #[.int .u64 0, .int .u64 0] 48)))
  go_enter Try.func31, Try.ntmps31
  go_wp2_with (go_at_call 25; refine (bad_nodes HH.out).mono ?_; rintro e w' ⟨rfl, rfl⟩)
  go_loop [3, 11] (fun v i => v = .slice none 0 0 ∧ i = .int .i64 0) (fun _ _ => 0)
  case atStart => exact ⟨rfl, rfl⟩
  case round =>
    obtain ⟨rfl, rfl⟩ := hrel
    go_wp2_with fail
    go_ret
    exact ⟨rfl, alloc_below _ _⟩
theorem reach1_bad (l Bg Bn : Nat) (P : Option Addr) (n : Int) (J : List N7 → World → Prop) (W : World) (hgr : NoG W P) (hbg : Has W Bg 27 #[.pointer P]) (hbn : Has W Bn 3 #[.int .i64 n]) (h0 : J [] W) :
    CallsIn Fence.wide 3 Try.prog 66 #[.func (.yield l) #[] #[], .pointer (some ⟨Bg, 0, none⟩), .pointer (some ⟨Bn, 0, none⟩)] W fun en W' => (∃ v, en = .returned v) ∧ ∃ ys : List N7, ys = [] ∧ J ys W' := by
  refine callsIn_of_wp Try.func66 rfl trivial ?_ rfl
  simp only [Try.ntmps66, List.size_toArray, List.length_cons, List.length_nil, Nat.reduceAdd, Nat.reduceSub, Array.replicate_succ, Array.replicate_zero, List.push_toArray, List.append_toArray, List.nil_append, List.cons_append]
  have b0 : W.cell? ⟨Bg, 0, none⟩ = some (.pointer P) := hbg.cell 0
  have b1 : W.cell? ⟨Bn, 0, none⟩ = some (.int .i64 n) := hbn.cell 0
  have H0 := Lib.hid h0
  have HG := Lib.hid hgr
  clear hbg hbn h0 hgr
  gi_wp2_with fail
  refine ⟨trivial, ?_⟩
  refine (callsIn_wide.2 (bad_alive HG.out n)).mono ?_
  rintro e w' ⟨rfl, rfl⟩
  gi_wp2_with fail
  refine bodyPost_ret (results_none rfl _ _ _) rfl ?_
  exact ⟨⟨_, rfl⟩, [], rfl, H0.out⟩
theorem bad_comp {w : World} {P : Option Addr} (h : NoG w P) (n : Int) : Calls Try.prog 30 #[.pointer P, .int .i64 n] w (Gives w 3 1 ([] : List Nat).length (natv [])) := by
  refine comp_core P n w (fun ys => ys = []) [] (fun ys h => by subst h; decide +kernel) ?_
  intro W0 hB0 hbg hbn hsz l J W hW hJ hY h0
  have hB : NoG W0 P := by
    rcases h with h | ⟨z, h1, h2⟩
    · exact .inl h
    · exact .inr ⟨z, h1, h2.below hB0⟩
  exact reach1_bad l _ _ P n J W (hB.below hW) (hbg.below hW) (hbn.below hW) h0

set_option maxHeartbeats 2000000 in
theorem none_any (n : Int) (w : World) :
    Calls Try.prog 5 #[.int .i64 n] w (Says w true) := by
  obtain ⟨W0, hW0⟩ : ∃ W0, ((w.alloc (.cells (gcs 0 none 0 0 0 0 0 0) 50)).alloc (.cells #[.pointer none, .pointer (some ⟨w.heap.size, 0, none⟩)] 27)) = W0 := ⟨_, rfl⟩
  have hB0 : Below w.heap.size w W0 := by rw [← hW0]; exact ((Below.refl _ w).alloc (Nat.le_refl _) _).alloc (by simp) _
  have hz : Has W0 w.heap.size 50 (gcs 0 none 0 0 0 0 0 0) := by rw [← hW0]; exact (Has.new _ _ _).below (alloc_below _ _)
  have hl : Has W0 (w.heap.size + 1) 27 #[.pointer none, .pointer (some ⟨w.heap.size, 0, none⟩)] := by
    have := Has.new (w.alloc (.cells (gcs 0 none 0 0 0 0 0 0) 50)) 27 #[.pointer none, .pointer (some ⟨w.heap.size, 0, none⟩)]
    rw [World.size_alloc] at this
    rw [← hW0]; exact this
  have HW := Lib.hid hW0
  have HB0 := Lib.hid hB0
  have HZ := Lib.hid hz
  have HLs := Lib.hid hl
  clear hW0 hB0 hz hl
  go_enter Try.func5, Try.ntmps5
  go_upto_region 2 with fail
  rw [HW.out]
  go_wp2_with fail
  go_loopw [4] (fun i wr => ∃ k : Nat, k ≤ 2 ∧ i = .int .i64 k ∧ Below W0.heap.size W0 wr) (fun i _ => 2 - (intOf i).toNat)
  case atStart => exact ⟨0, by omega, rfl, Below.refl _ _⟩
  case round =>
    obtain ⟨k, hk, rfl, hb⟩ := hrel
    by_cases hlt : k < 2
    · have hp : ∃ P, wr.cell? ⟨w.heap.size + 1, k, none⟩ = some (.pointer P) ∧ NoG wr P := by
        have hl := HLs.out.below hb
        rcases (by omega : k = 0 ∨ k = 1) with rfl | rfl
        · exact ⟨none, hl.cell 0, .inl rfl⟩
        · exact ⟨_, hl.cell 1, .inr ⟨_, rfl, HZ.out.below hb⟩⟩
      obtain ⟨P, hc, hP⟩ := hp
      have hkl : (k : Int) < 2 := by omega
      have HP := Lib.hid hP
      have HB := Lib.hid hb
      clear hP hb
      go_wp2_with fail
      refine (bad_setLink HP.out n true).mono ?_
      rintro e w' ⟨rfl, rfl⟩
      go_wp2_with fail
      refine (bad_setNode HP.out n true).mono ?_
      rintro e w' ⟨rfl, rfl⟩
      go_wp2_with fail
      refine (bad_up HP.out n).mono ?_
      rintro e w' ⟨rfl, rfl⟩
      go_wp2_with fail
      refine (bad_alive HP.out n).mono ?_
      rintro e w' ⟨rfl, rfl⟩
      go_wp2_with fail
      refine (bad_nodes HP.out).mono ?_
      rintro e w' ⟨rfl, rfl⟩
      go_wp2_with fail
      refine (bad_links HP.out).mono ?_
      rintro e w' ⟨rfl, rfl⟩
      go_wp2_with fail
      refine (bad_flags HP.out).mono ?_
      rintro e w' ⟨rfl, rfl⟩
      go_wp2_with fail
      refine (bad_neigh HP.out n).mono ?_
      rintro e w' ⟨rfl, rfl⟩
      go_wp2_with fail
      refine (bad_btw HP.out n n).mono ?_
      rintro e w' ⟨rfl, rfl⟩
      go_wp2_with fail
      refine (bad_comp HP.out n).mono ?_
      rintro e w2 ⟨A2, c2, rfl, _, hb2⟩
      have HB2 := Lib.hid hb2
      clear hb2
      simp only [List.length_nil]
      go_wp2_with fail
      have HP2 := Lib.hid (HP.out.below HB2.out)
      refine (bad_comps HP2.out).mono ?_
      rintro e w3 ⟨rfl, hb3⟩
      have HP3 := Lib.hid (HP2.out.below hb3)
      have HB3 := Lib.hid hb3
      clear hb3
      go_wp2_with fail
      refine (bad_copy HP3.out).mono ?_
      rintro e w' ⟨rfl, rfl⟩
      go_wp2_with fail
      refine (bad_setNode (.inl rfl) n true).mono ?_
      rintro e w' ⟨rfl, rfl⟩
      go_wp2_with fail
      go_roundw
      case rel => exact ⟨k + 1, by omega, by go_num, (HB.out.trans (HB2.out.mono HB.out.size)).trans (HB3.out.mono (Nat.le_trans HB.out.size HB2.out.size))⟩
      case measure => simp [intOf]; omega
    · obtain rfl : k = 2 := by omega
      have HB := Lib.hid hb
      clear hb
      go_wp2_with fail
      refine (awake_any wr).mono ?_
      rintro e w2 ⟨rfl, hb2⟩
      have HB2 := Lib.hid hb2
      clear hb2
      go_wp2_with fail
      go_ret
      exact ⟨rfl, (HB0.out.trans (HB.out.mono HB0.out.size)).trans (HB2.out.mono (Nat.le_trans HB0.out.size HB.out.size))⟩

end Go.Proofs.Ytfmjcjkifjndgaa
