/- Communities: MobilityOf, LabelOf; Sort of nothing. -/
import Derived.Test.YtofbgpgngplgpaaDoorCmH
namespace Go.Proofs.YtofbgpgngplgpaaDoor
open Go.RowKit
set_option linter.unusedVariables false
set_option maxRecDepth 100000

set_option maxHeartbeats 1000000 in
theorem mobilityOf_any (L : List C8) (hL : L.length ≤ 1000) (hok : ∀ x ∈ L, x.ok) (v : Value) (w : World) (hv : Cms w v L) (hw : GK w) :
    Calls Tryd.prog 16 #[v] w fun e w' => e = .returned (.tuple #[.bool (resM 3 32 L).1, .int .u32 (resM 3 32 L).2.1, .bool (resM 3 32 L).2.2]) ∧ Below w.heap.size w w' := by
  obtain ⟨f1, hf1⟩ : ∃ f, (resM 3 32 L).1 = f := ⟨_, rfl⟩
  obtain ⟨f2, hf2⟩ : ∃ f, (resM 3 32 L).2.1 = f := ⟨_, rfl⟩
  obtain ⟨f3, hf3⟩ : ∃ f, (resM 3 32 L).2.2 = f := ⟨_, rfl⟩
  have hb0 : Below w.heap.size w (w.alloc (.cells #[.int .u64 4294967295] 31)) := (Below.refl _ w).alloc (Nat.le_refl _) _
  have hf := firstM_any L hL hok 3 32 4294967295 rfl (by omega) v _ (hv.below hb0) (hw.keep hb0) w.heap.size (by simp [go_sem]) (by simp)
  rw [hf1, hf2, hf3] at hf
  rw [hf1, hf2, hf3]
  have HF := Lib.hid hf
  have HB := Lib.hid hb0
  clear hf hf1 hf2 hf3 hv hw hok hb0
  go_enter Tryd.func16, Tryd.ntmps16
  go_wp2_with (go_at_call 52; refine (readMarked_any 4294967295 _).mono ?_; rintro e w' ⟨rfl, rfl⟩)
  refine HF.out.mono ?_
  rintro e w1 ⟨rfl, hb1⟩
  have H1 : Hid (Below w.heap.size w w1) := Lib.hid (HB.out.trans (hb1.mono HB.out.size))
  clear hb1 HF
  go_wp2_with fail
  go_quiet (fail)
  go_wp2_with fail
  refine bodyPost_ret (v := .tuple #[.bool f1, .int .u32 f2, .bool f3]) (by simp [results, Tryd.results16, go_sem]) rfl ⟨rfl, ?_⟩
  have h2 := H1.out.alloc H1.out.size (.cells #[.bool f1, .int .u32 f2] 66)
  exact ⟨h2.os, h2.tape, h2.output, h2.size, h2.block⟩

set_option maxHeartbeats 1000000 in
theorem labelOf_any (L : List C8) (hL : L.length ≤ 1000) (hok : ∀ x ∈ L, x.ok) (v : Value) (w : World) (hv : Cms w v L) (hw : GK w) :
    Calls Tryd.prog 17 #[v] w fun e w' => e = .returned (.tuple #[.bool (resM 4 24 L).1, .int .u32 (resM 4 24 L).2.1, .bool (resM 4 24 L).2.2]) ∧ Below w.heap.size w w' := by
  obtain ⟨f1, hf1⟩ : ∃ f, (resM 4 24 L).1 = f := ⟨_, rfl⟩
  obtain ⟨f2, hf2⟩ : ∃ f, (resM 4 24 L).2.1 = f := ⟨_, rfl⟩
  obtain ⟨f3, hf3⟩ : ∃ f, (resM 4 24 L).2.2 = f := ⟨_, rfl⟩
  have hb0 : Below w.heap.size w (w.alloc (.cells #[.int .u64 16777215] 31)) := (Below.refl _ w).alloc (Nat.le_refl _) _
  have hf := firstM_any L hL hok 4 24 16777215 rfl (by omega) v _ (hv.below hb0) (hw.keep hb0) w.heap.size (by simp [go_sem]) (by simp)
  rw [hf1, hf2, hf3] at hf
  rw [hf1, hf2, hf3]
  have HF := Lib.hid hf
  have HB := Lib.hid hb0
  clear hf hf1 hf2 hf3 hv hw hok hb0
  go_enter Tryd.func17, Tryd.ntmps17
  go_wp2_with (go_at_call 52; refine (readMarked_any 16777215 _).mono ?_; rintro e w' ⟨rfl, rfl⟩)
  refine HF.out.mono ?_
  rintro e w1 ⟨rfl, hb1⟩
  have H1 : Hid (Below w.heap.size w w1) := Lib.hid (HB.out.trans (hb1.mono HB.out.size))
  clear hb1 HF
  go_wp2_with fail
  go_quiet (fail)
  go_wp2_with fail
  refine bodyPost_ret (v := .tuple #[.bool f1, .int .u32 f2, .bool f3]) (by simp [results, Tryd.results17, go_sem]) rfl ⟨rfl, ?_⟩
  have h2 := H1.out.alloc H1.out.size (.cells #[.bool f1, .int .u32 f2] 66)
  exact ⟨h2.os, h2.tape, h2.output, h2.size, h2.block⟩

theorem ins0c (fv : Value) (w : World) :
    Calls Tryd.prog 77 #[.slice none 0 0, .int .i64 0, .int .i64 0, fv] w fun e w' => e = .returned (.tuple #[]) ∧ w = w' := by
  go_enter Tryd.func77, Tryd.ntmps77
  go_wp2_with fail
  go_loop [8] (fun i => i = .int .i64 1) (fun i => 0)
  case atStart => rfl
  case round =>
    subst hrel
    go_wp2_with fail
    go_end0
    exact ⟨rfl, rfl⟩
theorem pdq0c (fv : Value) (w : World) :
    Calls Tryd.prog 73 #[.slice none 0 0, .int .i64 0, .int .i64 0, .int .i64 0, fv] w fun e w' => e = .returned (.tuple #[]) ∧ w = w' := by
  go_enter Tryd.func73, Tryd.ntmps73
  go_wp2_with fail
  go_loopw [1, 2, 3, 10, 11] (fun a b l p q wr => a = .int .i64 0 ∧ b = .int .i64 0 ∧ l = .int .i64 0 ∧ p = .bool true ∧ q = .bool true ∧ w = wr) (fun _ _ _ _ _ _ => 0)
  case atStart => exact ⟨rfl, rfl, rfl, rfl, rfl, rfl⟩
  case round =>
    obtain ⟨rfl, rfl, rfl, rfl, rfl, rfl⟩ := hrel
    go_wp2_with fail
    refine (ins0c fv _).mono ?_
    rintro e w1 ⟨rfl, rfl⟩
    go_wp2_with fail
    exact bodyPost_ret (v := .tuple #[]) (by simp [results, Tryd.results73, go_sem]) rfl ⟨rfl, rfl⟩
theorem sort0c (fv : Value) (w : World) :
    Calls Tryd.prog 54 #[.slice none 0 0, fv] w fun e w' => e = .returned (.tuple #[]) ∧ w = w' := by
  go_enter Tryd.func54, Tryd.ntmps54
  go_wp2_with (first | (go_at_call 74; refine (len_0 _).mono ?_; rintro e w' ⟨rfl, rfl⟩) | (go_at_call 73; refine (pdq0c fv _).mono ?_; rintro e w' ⟨rfl, rfl⟩))
  go_end0
  exact ⟨rfl, rfl⟩
theorem compact0c (w : World) :
    Calls Tryd.prog 57 #[.slice none 0 0] w fun e w' => e = .returned (.slice none 0 0) ∧ w = w' := by
  go_enter Tryd.func57, Tryd.ntmps57
  go_wp2_with fail
  go_ret
  exact ⟨rfl, rfl⟩
theorem eql_nil (w : World) (a : Option Addr) (n c : Nat) : (binOp .eql 35 (.slice a n c) (.slice none 0 0)).run Tryd.prog w = .ok (.bool a.isNone) w :=
  Lib.run_eql_slice_nil w 35 24 a n c 0 0 Tryd.underlying35
theorem clone0c (w : World) :
    Calls Tryd.prog 53 #[.slice none 0 0] w fun e w' => e = .returned (.slice none 0 0) ∧ w = w' := by
  have hn := fun w => eql_nil w none 0 0
  go_enter Tryd.func53, Tryd.ntmps53
  go_wp2_with fail
  go_ret
  exact ⟨rfl, rfl⟩
theorem sortnil (w : World) :
    Calls Tryd.prog 19 #[.slice none 0 0] w fun e w' => e = .returned (.slice none 0 0) ∧ w = w' := by
  go_enter Tryd.func19, Tryd.ntmps19
  go_wp2_with (first
    | (go_at_call 53; refine (clone0c _).mono ?_; rintro e w' ⟨rfl, rfl⟩)
    | (go_at_call 54; refine (sort0c _ _).mono ?_; rintro e w' ⟨rfl, rfl⟩)
    | (go_at_call 57; refine (compact0c _).mono ?_; rintro e w' ⟨rfl, rfl⟩))
  go_ret
  exact ⟨rfl, rfl⟩

end Go.Proofs.YtofbgpgngplgpaaDoor
