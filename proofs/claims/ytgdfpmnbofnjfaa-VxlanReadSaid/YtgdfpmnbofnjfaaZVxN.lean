/- Packets that carry frames: the example. -/
import Derived.Test.YtgdfpmnbofnjfaaZVxM
import Derived.Test.YtgdfpmnbofnjfaaZVxF
namespace Go.Proofs.Ytgdfpmnbofnjfaa
open Go.RowKit Go.Shelf
set_option linter.unusedVariables false
set_option linter.unusedSimpArgs false
set_option maxRecDepth 100000

/-- The packet of the example. -/
def vpl : VP := ⟨184483841, 184483842, 16, 50000, 100, 0, frl⟩
def EV : List Int := [69, 0, 0, 58, 0, 0, 0, 0, 16, 17, 148, 179, 10, 255, 0, 1, 10, 255, 0, 2, 195, 80, 18, 181, 0, 38, 0, 0, 8, 0, 0, 0, 0, 0, 100, 0, 255, 255, 255, 255, 255, 255, 2, 0, 0, 0, 0, 1, 136, 181, 0, 0, 0, 0, 0, 0, 0, 7]
theorem vpl_chk : vchk vpl = 0 := by decide
theorem vpl_ty : vpl.ty := ⟨by decide, by decide, by decide, by decide, by decide, by decide, frl_ty⟩
theorem vpl_enc : venc vpl = EV := by decide +kernel
theorem ev_len : EV.length = 58 := rfl
theorem ev_byte : ∀ v ∈ EV, 0 ≤ v ∧ v ≤ 255 := by decide
theorem ev_str {w : World} {b c : Nat} (h : Row w b c EV) (c' : Nat) : (convert 40 9 (.slice (some ⟨b, 20, none⟩) 16 c')).run Try.prog w = .ok (.string ⟨#[195, 80, 18, 181, 0, 38, 0, 0, 8, 0, 0, 0, 0, 0, 100, 0]⟩) w := by
  have hA : Arr w (.slice (some ⟨b, 20, none⟩) 16 c') ((EV.drop 20).take 16) := .inr ⟨_, c', rfl, Sl.at_ (h.part 20 16)⟩
  exact arr_string hA (by decide)
theorem fnv_nil : fnv [] = 2166136261 := rfl
theorem fnv_zero : fnv [0] = 84696351 := by decide +kernel

set_option maxHeartbeats 1000000 in
theorem example8 (w : World) : Calls Try.prog 12 #[] w fun e w' => e = .returned (.agg vpl.cs) ∧ Below w.heap.size w w' := by
  have HZ : Hid (Has (w.alloc (.cells #[.int .u32 0, .int .u32 0, .int .i64 0, .int .i64 0, .int .u32 0, .int .u32 0, .int .u64 0, .int .u64 0, .int .i64 0, .int .i64 0, .int .u64 0, .int .u32 0, .int .u64 0, .int .u32 0, .int .u32 0, .int .u32 0, .int .i64 0, .int .i64 0, .int .i64 0, .int .i64 0, .int .u64 0] 34)) w.heap.size 34 vp0.cs) := Lib.hid (Has.new w _ _)
  go_enter Try.func12, Try.ntmps12
  go_wp2_with (refine wpList_store_row rfl 34 (.tmp 0) (.tmp 2) rfl w.heap.size vpl.cs rfl rfl 34 vp0.cs HZ.out vpl.fit rfl vpl.one ?_)
  exact bodyPost_ret (v := .agg vpl.cs) (results_cell_row rfl _ _ w.heap.size 34 vpl.cs (0, 0) _ rfl (setRow_heap _ _ _ _ _ HZ.out) Try.underlying34 rfl vpl.fit) rfl ⟨rfl, setRow_below ((Below.refl _ w).alloc (Nat.le_refl _) _) (Nat.le_refl _) (by simp)⟩

theorem bytes8 (w : World) : Calls Try.prog 11 #[.agg vpl.cs] w fun e w' => ∃ b c, e = .returned (.tuple #[.slice (some ⟨b, 0, none⟩) 58 c, .int .i64 0]) ∧ Row w' b c EV ∧ w.heap.size ≤ b ∧ Below w.heap.size w w' := by
  have h := vbytes_yes vpl vpl_ty vpl_chk w
  unfold VEnc at h
  rw [vpl_enc, ev_len] at h
  exact h

set_option maxHeartbeats 1000000 in
theorem lives8 (w : World) : Calls Try.prog 9 #[] w fun e w' => e = .returned (.bool true) ∧ Below w.heap.size w w' := by
  have hnil : ∀ W : World, Calls Try.prog 15 #[.slice none 0 0] W fun e w' => e = .returned (.int .u32 2166136261) ∧ W = w' := fun W => hash_arr (.slice none 0 0) [] W (.inl ⟨rfl, rfl⟩) (by decide) (by decide)
  have HNil := Lib.hid hnil
  clear hnil
  obtain ⟨cs, hcs⟩ : ∃ cs, vpl.cs = cs := ⟨_, rfl⟩
  have HEx : Hid (∀ W : World, Calls Try.prog 12 #[] W fun e w' => e = .returned (.agg cs) ∧ Below W.heap.size W w') := Lib.hid (fun W => hcs ▸ example8 W)
  have HBy : Hid (∀ W : World, Calls Try.prog 11 #[.agg cs] W fun e w' => ∃ b c, e = .returned (.tuple #[.slice (some ⟨b, 0, none⟩) 58 c, .int .i64 0]) ∧ Row w' b c EV ∧ W.heap.size ≤ b ∧ Below W.heap.size W w') := Lib.hid (fun W => hcs ▸ bytes8 W)
  clear hcs
  go_enter Try.func9, Try.ntmps9
  go_wp2_with fail
  refine (HEx.out _).mono ?_
  rintro e w1 ⟨rfl, hb⟩
  have HB1 := Lib.hid hb
  clear hb
  go_wp2_with fail
  refine (HBy.out _).mono ?_
  rintro e w2 ⟨b, c, rfl, hrow, hsz, hb⟩
  have HB2 := Lib.hid (HB1.out.trans (hb.mono HB1.out.size))
  have hcap : (36 : Int) ≤ (c : Int) := by
    obtain ⟨_, _, _, _, h4, _⟩ := hrow
    rw [ev_len] at h4
    omega
  have hconv := ev_str hrow
  clear hrow hsz hb HB1
  go_wp2_with (first | (go_at_call 15; refine (HNil.out _).mono ?_; rintro e w3 ⟨rfl, rfl⟩))
  go_ret
  exact ⟨rfl, HB2.out⟩

end Go.Proofs.Ytgdfpmnbofnjfaa
