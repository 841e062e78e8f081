/- Routes: the document's Check. -/
import Derived.Test.YthhajknmokomjaaZNcC
import Derived.Test.YthhajknmokomjaaZNlE
namespace Go.Proofs.Ythhajknmokomjaa
open Go.RowKit Go.Maps Go.Shelf
set_option linter.unusedVariables false
set_option linter.unusedSimpArgs false
set_option maxRecDepth 100000

theorem same_flip (x y : NL) : y.same x = x.same y := by
  rw [Bool.eq_iff_iff, NL.same_iff, NL.same_iff]
  exact eq_comm

set_option maxHeartbeats 1000000 in
theorem rcheck_no (x : NL) (h : x.k < 1 ∨ 5 < x.k) (w : World) :
    Calls Try.prog 11 #[.agg x.cs] w fun e w' => e = .returned (.int .i64 (chk x)) ∧ Below w.heap.size w w' := by
  have HX1 : Hid (Has (w.alloc (.cells x.cs 31)) w.heap.size 31 x.cs) := Lib.hid (Has.new _ _ _)
  have HB1 : Hid (Below w.heap.size w (w.alloc (.cells x.cs 31))) := Lib.hid ((Below.refl _ w).alloc (Nat.le_refl _) _)
  have HE : Hid (chk x = 6) := Lib.hid (chk_no h)
  have HH := Lib.hid h
  clear h
  go_enter Try.func11, Try.ntmps11
  go_wp2_with (first
    | (refine wpList_load_row rfl 31 (.tmp 1) rfl w.heap.size rfl 31 x.cs (0, 0) _ HX1.out Try.underlying31 rfl x.fit ?_)
    | (go_at_call 29; refine (ronly_no x HH.out _).mono ?_; rintro e w2 ⟨rfl, hb2⟩; have HB2 : Hid (Below w.heap.size w w2) := Lib.hid (HB1.out.trans (hb2.mono HB1.out.size)); have HO3 : Hid (Has (w2.alloc (.cells zcs 31)) w2.heap.size 31 zcs) := Lib.hid (Has.new _ _ _); clear hb2)
    | (refine wpList_store_row rfl 31 (.tmp 3) (.tmp 10) rfl w2.heap.size x.beg.cs rfl rfl 31 zcs HO3.out x.beg.fit rfl x.beg.one ?_))
  go_ret
  exact ⟨by rw [HE.out]; rfl, setRow_below (HB2.out.alloc HB2.out.size _) HB2.out.size (HB2.out.alloc HB2.out.size _).size⟩

set_option maxHeartbeats 2000000 in
theorem rcheck_yes (x : NL) (k : Nat) (hk : x.k = k) (h1 : 1 ≤ k) (h5 : k ≤ 5) (w : World) :
    Calls Try.prog 11 #[.agg x.cs] w fun e w' => e = .returned (.int .i64 (chk x)) ∧ Below w.heap.size w w' := by
  have HX1 : Hid (Has (w.alloc (.cells x.cs 31)) w.heap.size 31 x.cs) := Lib.hid (Has.new _ _ _)
  have HB1 : Hid (Below w.heap.size w (w.alloc (.cells x.cs 31))) := Lib.hid ((Below.refl _ w).alloc (Nat.le_refl _) _)
  obtain ⟨s, hs⟩ : ∃ s, x.sh k = s := ⟨_, rfl⟩
  have HO : Hid (∀ W, Calls Try.prog 29 #[.agg x.cs] W fun e w' => e = .returned (.tuple #[.agg s.cs, .bool true]) ∧ Below W.heap.size W w') := Lib.hid (fun W => by rw [← hs]; exact ronly_yes x k hk h1 h5 W)
  have HCf : Hid (x.same s = false → chk x = 3) := Lib.hid (by rw [← hs]; exact chk_form hk h1 h5)
  have HCr : Hid (x.same s = true → chk x = if x.far then 2 else if (cl x.pip x.pl == x.pip) = false then 3 else 0) := Lib.hid (by rw [← hs]; exact chk_rest hk h1 h5)
  clear hs hk
  go_enter Try.func11, Try.ntmps11
  go_upto_region 2 with (first
    | (refine wpList_load_row rfl 31 (.tmp 1) rfl w.heap.size rfl 31 x.cs (0, 0) _ HX1.out Try.underlying31 rfl x.fit ?_)
    | (go_at_call 29; refine (HO.out _).mono ?_; rintro e w2 ⟨rfl, hb2⟩; have HX2 := Lib.hid (HX1.out.below hb2); have HB2 : Hid (Below w.heap.size w w2) := Lib.hid (HB1.out.trans (hb2.mono HB1.out.size)); have HO3 : Hid (Has (w2.alloc (.cells zcs 31)) w2.heap.size 31 zcs) := Lib.hid (Has.new _ _ _); clear hb2)
    | (refine wpList_store_row rfl 31 (.tmp 3) (.tmp 10) rfl w2.heap.size s.cs rfl rfl 31 zcs HO3.out s.fit rfl s.one ?_))
  have hx3 := HX2.out.below ((Below.refl _ w2).alloc (Nat.le_refl _) (.cells zcs 31))
  have hlt := HX2.out.lt
  have HX3 : Hid (Has ((w2.alloc (.cells zcs 31)).setRow w2.heap.size s.cs) w.heap.size 31 x.cs) := Lib.hid (hx3.grown (Only.row (h := w2.heap.size) s.cs) (by intro h; injection h with h; omega))
  have HS3 : Hid (Has ((w2.alloc (.cells zcs 31)).setRow w2.heap.size s.cs) w2.heap.size 31 s.cs) := Lib.hid (setRow_heap _ _ _ _ _ _ HO3.out)
  have HB3 : Hid (Below w.heap.size w ((w2.alloc (.cells zcs 31)).setRow w2.heap.size s.cs)) := Lib.hid (setRow_below (HB2.out.alloc HB2.out.size _) HB2.out.size (HB2.out.alloc HB2.out.size _).size)
  clear hx3 HX2 HX1 HB1 HB2 HO HO3 hlt
  generalize ((w2.alloc (.cells zcs 31)).setRow w2.heap.size s.cs) = W3 at *
  generalize w2.heap.size = gO at *
  obtain ⟨bs, hbs⟩ : ∃ b, x.same s = b := ⟨_, rfl⟩
  have hneq := neq_nl s x
  rw [same_flip, hbs] at hneq
  rw [hbs] at HCf HCr
  clear hbs
  cases bs
  · have HE := Lib.hid (HCf.out rfl)
    clear HCf HCr
    simp only [Bool.not_false] at hneq
    go_wp2_with (first
      | (refine wpList_load_row rfl 31 (.tmp 3) rfl gO rfl 31 s.cs (0, 0) _ HS3.out Try.underlying31 rfl s.fit ?_)
      | (refine wpList_load_row rfl 31 (.tmp 1) rfl w.heap.size rfl 31 x.cs (0, 0) _ HX3.out Try.underlying31 rfl x.fit ?_))
    go_ret
    exact ⟨by rw [HE.out]; rfl, HB3.out⟩
  · have HCh := Lib.hid (HCr.out rfl)
    clear HCf HCr
    simp only [Bool.not_true] at hneq
    go_upto_region 6 with (first
      | (refine wpList_load_row rfl 31 (.tmp 3) rfl gO rfl 31 s.cs (0, 0) _ HS3.out Try.underlying31 rfl s.fit ?_)
      | (refine wpList_load_row rfl 31 (.tmp 1) rfl w.heap.size rfl 31 x.cs (0, 0) _ HX3.out Try.underlying31 rfl x.fit ?_))
    have c13 := HX3.out.n13
    have c19 := HX3.out.n19
    have c20 := HX3.out.n20
    have c16 := HX3.out.n16
    have c17 := HX3.out.n17
    clear HS3 hneq
    obtain ⟨b1, hb1⟩ : ∃ b, decide (281474976710655 < x.mac) = b := ⟨_, rfl⟩
    obtain ⟨b2, hb2⟩ : ∃ b, decide (16777215 < x.l1) = b := ⟨_, rfl⟩
    obtain ⟨b3, hb3⟩ : ∃ b, decide (16777215 < x.l2) = b := ⟨_, rfl⟩
    have hfar : x.far = (b1 || b2 || b3 || !vld x.pl) := by unfold NL.far; rw [hb1, hb2, hb3]
    have HFar := Lib.hid hfar
    clear hfar
    cases b1
    case true =>
      have e : x.far = true := by rw [HFar.out]; rfl
      have HE : Hid (chk x = 2) := Lib.hid (by rw [HCh.out, if_pos e])
      clear e
      go_wp2_with fail
      go_ret
      exact ⟨by rw [HE.out]; rfl, HB3.out⟩
    cases b2
    case true =>
      have e : x.far = true := by rw [HFar.out]; rfl
      have HE : Hid (chk x = 2) := Lib.hid (by rw [HCh.out, if_pos e])
      clear e
      go_wp2_with fail
      go_ret
      exact ⟨by rw [HE.out]; rfl, HB3.out⟩
    cases b3
    case true =>
      have e : x.far = true := by rw [HFar.out]; rfl
      have HE : Hid (chk x = 2) := Lib.hid (by rw [HCh.out, if_pos e])
      clear e
      go_wp2_with fail
      go_ret
      exact ⟨by rw [HE.out]; rfl, HB3.out⟩
    by_cases hv : vld x.pl = true
    · have hvv := vld_iff.1 hv
      have hd1 : decide (x.pl < 0) = false := by simp; omega
      have hd2 : decide (32 < x.pl) = false := by simp; omega
      have e : ¬ x.far = true := by rw [HFar.out, hv]; decide
      have HCi := HCh.out
      rw [if_neg e] at HCi
      have HV := Lib.hid hv
      obtain ⟨cp, hcp⟩ : ∃ c, cl x.pip x.pl = c := ⟨_, rfl⟩
      rw [hcp] at HCi
      have HCp := Lib.hid hcp
      clear e hv hvv hcp HFar
      by_cases hc : cp = x.pip
      · have hd : (cp == x.pip) = true := by simp [hc]
        have hll : (x.pl == x.pl) = true := by simp
        have HE : Hid (chk x = 0) := Lib.hid (by rw [HCi, if_neg (by simp [hc])])
        clear HCi hc
        go_wp2_with (go_at_call 30; refine (rclean_yes x.pip x.pl HV.out _).mono ?_; rintro e w4 ⟨rfl, hb4⟩; rw [HCp.out]; have HX4 := Lib.hid (HX3.out.below hb4); have d16 := HX4.out.n16; have d17 := HX4.out.n17; have HB4 : Hid (Below w.heap.size w w4) := Lib.hid (HB3.out.trans (hb4.mono HB3.out.size)); have hlt4 := HX4.out.lt; clear hb4)
        go_ret
        exact ⟨by rw [HE.out]; rfl, HB4.out.alloc HB4.out.size _⟩
      · have hd : (cp == x.pip) = false := by simpa using hc
        have HE : Hid (chk x = 3) := Lib.hid (by rw [HCi, if_pos hd])
        clear HCi hc
        go_wp2_with (go_at_call 30; refine (rclean_yes x.pip x.pl HV.out _).mono ?_; rintro e w4 ⟨rfl, hb4⟩; rw [HCp.out]; have HX4 := Lib.hid (HX3.out.below hb4); have d16 := HX4.out.n16; have d17 := HX4.out.n17; have HB4 : Hid (Below w.heap.size w w4) := Lib.hid (HB3.out.trans (hb4.mono HB3.out.size)); have hlt4 := HX4.out.lt; clear hb4)
        go_ret
        exact ⟨by rw [HE.out]; rfl, HB4.out.alloc HB4.out.size _⟩
    · have hv : vld x.pl = false := by simpa using hv
      have e : x.far = true := by rw [HFar.out, hv]; rfl
      have HE : Hid (chk x = 2) := Lib.hid (by rw [HCh.out, if_pos e])
      by_cases h0 : x.pl < 0
      · have hd1 : decide (x.pl < 0) = true := by simpa using h0
        clear e hv h0 HFar HCh
        go_wp2_with fail
        go_ret
        exact ⟨by rw [HE.out]; rfl, HB3.out⟩
      · have h32 : 32 < x.pl := by
          simp [vld] at hv
          omega
        have hd1 : decide (x.pl < 0) = false := by simpa using h0
        have hd2 : decide (32 < x.pl) = true := by simpa using h32
        clear e hv h0 h32 HFar HCh
        go_wp2_with fail
        go_ret
        exact ⟨by rw [HE.out]; rfl, HB3.out⟩

theorem rcheck_any (x : NL) (w : World) :
    Calls Try.prog 11 #[.agg x.cs] w fun e w' => e = .returned (.int .i64 (chk x)) ∧ Below w.heap.size w w' := by
  by_cases h : x.k < 1 ∨ 5 < x.k
  · exact rcheck_no x h w
  · exact rcheck_yes x x.k.toNat (by omega) (by omega) (by omega) w

end Go.Proofs.Ythhajknmokomjaa
