/- Writers: lengths patched. -/
import Derived.Test.YtbaikpfibojdnaaWrF
namespace Go.Proofs.Ytbaikpfibojdnaa
open Go.RowKit Go.Maps
set_option maxRecDepth 100000
set_option linter.unusedVariables false

/-- The length of what follows a mark, written into it. -/
def WS.patch (s : WS) (m : Int) : Int × WS :=
  if m ∈ s.marks then (0, { s with out := s.out.take m.toNat ++ be ((s.out.length : Int) - (m + 2)) 2 ++ s.out.drop (m.toNat + 2), marks := s.marks.filter (fun k => decide (k ≠ m)) }) else (16, s)

theorem MapIs.drop {w' : World} {b n : Nat} {marks : List Int} (m : Int) (D : DataW Unit) (hh : ∀ k : Int, (Lit.int .i64 k).wf = true → Maps.has D (.int .i64 k) = decide (k ∈ marks))
    (h2 : w'.ownsMap Try.prog 3 unitElem b n (D.del (.int .i64 m))) : MapIs w' b n (marks.filter (fun k => decide (k ≠ m))) := by
  refine ⟨_, h2, fun k hk => ?_⟩
  by_cases hkm : k = m
  · subst hkm
    rw [Maps.has_del_same]
    simp
  · rw [Maps.has_del_other (by simpa using hkm), hh k hk]
    simp [hkm]

theorem zero_unit (w : World) : (zeroValue 92).run Try.prog w = .ok (.agg #[]) w := by kernel_rfl

set_option maxHeartbeats 1000000 in
theorem wpatch (g : Nat) (A : Option Addr) (c b n : Nat) (s : WS) (w : World) (H : Wr w g A c b n s) (m : Int) (hwf : (Lit.int .i64 m).wf = true) :
    Calls Try.prog 23 #[.pointer (some ⟨g, 0, none⟩), .int .i64 m] w (Wrote w g A b n (s.patch m).2 (s.patch m).1) := by
  have HH := Lib.hid H
  have htop : s.out.length ≤ 65536 := Nat.le_trans H.room H.top
  have c2 := H.c2
  have hkey := keyOf_int_mk (P := Try.prog) (k := 3) Try.underlying3 hwf
  have HK := Lib.hid hkey
  obtain ⟨D, hD, hhas⟩ := H.map
  have HD := Lib.hid hD
  have HM := Lib.hid hhas
  have hhm := hhas m hwf
  have hz := zero_unit w
  have HZ := Lib.hid hz
  clear H hkey hD hhas hz
  by_cases hf : m ∈ s.marks
  · have hpos := HH.out.open_ m hf
    have e : Hid (s.patch m = (0, { s with out := s.out.take m.toNat ++ be ((s.out.length : Int) - (m + 2)) 2 ++ s.out.drop (m.toNat + 2), marks := s.marks.filter (fun k => decide (k ≠ m)) })) := Lib.hid (by unfold WS.patch; rw [if_pos hf])
    rw [decide_eq_true hf] at hhm
    have HHM := Lib.hid hhm
    obtain ⟨at_, rfl⟩ : ∃ k : Nat, m = k := ⟨m.toNat, by omega⟩
    obtain ⟨h, rfl⟩ : ∃ h, A = some ⟨h, 0, none⟩ := by
      rcases HH.out.buf with ⟨_, _, h0⟩ | ⟨h, h1, _⟩
      · rw [h0] at hpos; simp at hpos; omega
      · exact ⟨h, h1⟩
    have c1 := HH.out.c1
    have hle : s.out.length ≤ c ∧ c ≤ 9223372036854775807 := by
      obtain ⟨cur, _, _, _, h1, h2⟩ := HH.out.row
      unfold maxLen at h2
      exact ⟨h1, by omega⟩
    have hne := HH.out.ne_
    have hcne : ¬ c = at_ := by omega
    have HNe := Lib.hid hne
    have HP := Lib.hid hf
    have hgl : g < w.heap.size := HH.out.blk.lt
    have hall : Below w.heap.size w (w.alloc (.cells #[] 92)) := (Below.refl _ w).alloc (Nat.le_refl _) _
    have HA := Lib.hid (HH.out.below hall)
    have HTA := Lib.hid (turn_below hall (g :: b :: blkOf (some ⟨h, 0, none⟩)))
    have hbnd : at_ + 2 ≤ s.out.length := by omega
    clear hhm hne hf hall
    go_enter Try.func23, Try.ntmps23
    go_wp2_with (first
      | (go_at_call 57; refine (wvalid_yes _ _ _ _ _ _ _ HH.out).mono ?_; rintro e w' ⟨rfl, rfl⟩)
      | (at_lookup; refine wpList_lookup_own_unit _ rfl _ _ 88 rfl 3 92 int_key Try.underlying88 HZ.out b n D rfl HD.out _ _ rfl HK.out ?_; rw [HHM.out]))
    refine (wput16 h at_ 2 (c - at_) c s.out ((s.out.length : Int) - (at_ + 2)) _ (Nat.le_refl _) hbnd (by omega) (by omega) HA.out.row (by omega)).mono ?_
    rintro e2 w2 ⟨rfl, hrow, ho⟩
    have hw2 := HA.out.wrote ho hrow (by simp [be_length]; omega) (by
      intro x hx
      simp only [List.mem_append] at hx
      rcases hx with (hx | hx) | hx
      · exact HH.out.byte x (List.mem_of_mem_take hx)
      · exact be_byte _ _ x hx
      · exact HH.out.byte x (List.mem_of_mem_drop hx))
    have d2 := hw2.c2
    have hb2 : b ≠ h := by have := HNe.out.2.2; simpa [blkOf] using this
    have hD2 : w2.ownsMap Try.prog 3 unitElem b n D := (HD.out.alloc (.cells #[] 92)).kept ho (by rintro ⟨⟩; exact hb2 rfl)
    have HD2 := Lib.hid hD2
    have HW2 := Lib.hid hw2
    have HTo := Lib.hid (HTA.out.then_ (turn_only ho) (fun x hx => .inl (by simp at hx; simp [hx, blkOf])))
    clear hrow ho hw2 hb2 hD2
    go_wp2_with (at_delete; refine wpList_delete_own _ rfl _ _ 88 3 rfl 92 int_key Try.underlying88 unitElem b n D rfl HD2.out _ _ rfl HK.out ?_)
    intro w3 hown3 hturn3
    have hT3 : Turn [b] w2 w3 := turn_grown hturn3.grown
    have hne3 := HW2.out.ne_
    have hfin : Wr w3 g (some ⟨h, 0, none⟩) c b n { s with out := s.out.take at_ ++ be ((s.out.length : Int) - (at_ + 2)) 2 ++ s.out.drop (at_ + 2), marks := s.marks.filter (fun k => decide (k ≠ (at_ : Int))) } := by
      refine ⟨HW2.out.blk.turn hT3 (by simpa using hne3.1), HW2.out.buf.turn hT3 (fun k hk => by simp; rintro rfl; exact hne3.2.2 hk), MapIs.drop _ D HM.out hown3, HW2.out.cnt, HW2.out.room, HW2.out.top, HW2.out.byte, ?_⟩
      intro k hk
      exact HW2.out.open_ k (List.mem_filter.1 hk).1
    have HF := Lib.hid hfin
    have HTz := Lib.hid (HTo.out.then_ hT3 (fun x hx => .inl (by simp at hx; simp [hx])))
    clear hown3 hturn3 hT3 hne3 hfin
    go_wp2
    go_ret
    rw [e.out]
    exact ⟨_, _, rfl, HF.out, HTz.out, fun x hx => .inl hx⟩
  · have e : Hid (s.patch m = (16, s)) := Lib.hid (by unfold WS.patch; rw [if_neg hf])
    rw [decide_eq_false hf] at hhm
    have HHM := Lib.hid hhm
    clear hhm hf
    go_enter Try.func23, Try.ntmps23
    go_wp2_with (first
      | (go_at_call 57; refine (wvalid_yes _ _ _ _ _ _ _ HH.out).mono ?_; rintro e w' ⟨rfl, rfl⟩)
      | (at_lookup; refine wpList_lookup_own_unit _ rfl _ _ 88 rfl 3 92 int_key Try.underlying88 HZ.out b n D rfl HD.out _ _ rfl HK.out ?_; rw [HHM.out]))
    go_ret
    rw [e.out]
    exact ⟨A, c, rfl, HH.out.below ((Below.refl _ w).alloc (Nat.le_refl _) _), (Turn.refl _ w).alloc _, fun x hx => .inl hx⟩

theorem wmark_nil (w : World) :
    Calls Try.prog 21 #[.pointer none] w fun e w' => e = .returned (.tuple #[.int .i64 0, .int .i64 1]) ∧ w = w' := by
  go_enter Try.func21, Try.ntmps21
  go_wp2_with (first
    | (go_at_call 26; refine (wlen_nil _).mono ?_; rintro e w' ⟨rfl, rfl⟩)
    | (go_at_call 56; refine (wextend_nil _ 2).mono ?_; rintro e w' ⟨rfl, rfl⟩))
  go_ret2
  exact ⟨rfl, rfl⟩

theorem wpatch_nil (w : World) (m : Int) :
    Calls Try.prog 23 #[.pointer none, .int .i64 m] w fun e w' => e = .returned (.int .i64 1) ∧ w = w' := by
  go_enter Try.func23, Try.ntmps23
  go_wp2_with (go_at_call 57; refine (wvalid_no _).mono ?_; rintro e w' ⟨rfl, rfl⟩)
  go_ret
  exact ⟨rfl, rfl⟩

theorem wbytes_nil (w : World) :
    Calls Try.prog 18 #[.pointer none, .slice none 0 0] w fun e w' => e = .returned (.int .i64 1) ∧ w = w' := by
  go_enter Try.func18, Try.ntmps18
  go_wp2_with (first
    | (go_at_call 56; refine (wextend_nil _ 0).mono ?_; rintro e w' ⟨rfl, rfl⟩)
    | (with_reducible refine wpList_copy_nothing rfl (.tmp 14) (.tmp 15) 33 33 rfl 5 Try.underlying33 u8_size none none 0 0 0 0 rfl rfl (by simp) ?_))
  go_ret
  exact ⟨rfl, rfl⟩

theorem wnumber_nil (w : World) (v : Int) (m : Int) :
    Calls Try.prog 82 #[.pointer none, .int .u64 v, .int .i64 m] w fun e w' => e = .returned (.int .i64 1) ∧ w = w' := by
  go_enter Try.func82, Try.ntmps82
  go_wp2_with (first
    | (go_at_call 57; refine (wvalid_no _).mono ?_; rintro e w' ⟨rfl, rfl⟩)
    | (go_at_call 56; refine (wextend_nil _ m).mono ?_; rintro e w' ⟨rfl, rfl⟩)
    | (go_at_call 104; refine (wput_nil v _ 0 0 none rfl).mono ?_; rintro e w' ⟨rfl, rfl⟩))
  go_ret
  exact ⟨rfl, rfl⟩

theorem wU1_nil (w : World) (v : Int) :
    Calls Try.prog 47 #[.pointer none, .int .u64 v] w fun e w' => e = .returned (.int .i64 1) ∧ w = w' := by
  go_enter Try.func47, Try.ntmps47
  go_wp2_with (go_at_call 82; refine (wnumber_nil _ v 1).mono ?_; rintro e w' ⟨rfl, rfl⟩)
  go_ret
  exact ⟨rfl, rfl⟩

theorem wU8_nil (w : World) (v : Int) :
    Calls Try.prog 55 #[.pointer none, .int .u64 v] w fun e w' => e = .returned (.int .i64 1) ∧ w = w' := by
  go_enter Try.func55, Try.ntmps55
  go_wp2_with (go_at_call 82; refine (wnumber_nil _ v 8).mono ?_; rintro e w' ⟨rfl, rfl⟩)
  go_ret
  exact ⟨rfl, rfl⟩

end Go.Proofs.Ytbaikpfibojdnaa
