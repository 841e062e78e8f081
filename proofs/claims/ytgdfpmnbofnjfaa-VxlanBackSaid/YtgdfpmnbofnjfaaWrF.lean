/- Writers: bytes, marks. -/
import Derived.Test.YtgdfpmnbofnjfaaWrE
namespace Go.Proofs.Ytgdfpmnbofnjfaa
open Go.RowKit Go.Maps
set_option maxRecDepth 100000
set_option linter.unusedVariables false

def WS.putB (s : WS) (xs : List Int) : Int × WS :=
  if s.lim - s.out.length < xs.length then (7, s) else (0, { s with out := s.out ++ xs })

theorem u8_size : (Try.prog.info? 5).map (·.size) = some 1 := by kernel_rfl

theorem Only.row {w : World} {h : Nat} (cs : Array Value) : Only w h (w.setRow h cs) :=
  ⟨rfl, rfl, rfl, by simp [World.setRow], fun k _ hk => setRow_other w h k _ (by rintro rfl; exact hk rfl)⟩

set_option maxHeartbeats 1000000 in
theorem wbytes (g : Nat) (A : Option Addr) (c b n : Nat) (s : WS) (w : World) (H : Wr w g A c b n s) (h0 o m c0 : Nat) (xs : List Int) (hm : xs.length = m) (hm2 : m ≤ 1000000) (hx : ∀ v ∈ xs, 0 ≤ v ∧ v ≤ 255) (hsl : Sl w h0 o xs) (hfar : h0 ∉ g :: b :: blkOf A) (hlt0 : h0 < w.heap.size) :
    Calls Try.prog 118 #[.pointer (some ⟨g, 0, none⟩), .slice (some ⟨h0, o, none⟩) m c0] w (Wrote w g A b n (s.putB xs).2 (s.putB xs).1) := by
  have HH := Lib.hid H
  have HS := Lib.hid hsl
  have HM := Lib.hid hm
  have HX := Lib.hid hx
  have HFar := Lib.hid hfar
  clear H hsl hx hfar
  by_cases hf : s.lim - s.out.length < m
  · have e : Hid (s.putB xs = (7, s)) := Lib.hid (by unfold WS.putB; rw [hm, if_pos hf])
    have HF := Lib.hid hf
    clear hf hm
    go_enter Try.func118, Try.ntmps118
    go_wp2_with (first
      | (go_at_call 87; refine (wextend_full _ _ _ _ _ _ _ HH.out m HF.out hm2).mono ?_; rintro e w' ⟨rfl, rfl⟩)
      | (with_reducible refine wpList_copy_nothing rfl (.tmp 14) (.tmp 15) 40 40 rfl 5 Try.underlying40 u8_size none (some ⟨h0, o, none⟩) 0 0 m c0 rfl rfl (by simp) ?_))
    go_ret
    rw [e.out]
    exact ⟨A, c, rfl, HH.out, Turn.refl _ _, fun x hx => .inl hx⟩
  · have e : Hid (s.putB xs = (0, { s with out := s.out ++ xs })) := Lib.hid (by unfold WS.putB; rw [hm, if_neg hf])
    have HF : Hid (m ≤ s.lim - s.out.length) := Lib.hid (by omega)
    clear hf hm
    go_enter Try.func118, Try.ntmps118
    go_wp2_with fail
    refine (wextend_ok _ _ _ _ _ _ _ HH.out m HF.out).mono ?_
    rintro e1 w1 ⟨A2, c2, As, cs, rfl, hw, hs, ht, hn⟩
    have HW := Lib.hid hw
    have HT := Lib.hid ht
    have HN := Lib.hid hn
    have HZ := Lib.hid hs
    clear hw ht hn hs
    by_cases hm0 : m = 0
    · have hx0 : xs = [] := List.eq_nil_of_length_eq_zero (by rw [HM.out]; exact hm0)
      subst hm0
      go_wp2_with (with_reducible refine wpList_copy_nothing rfl (.tmp 14) (.tmp 15) 40 40 rfl 5 Try.underlying40 u8_size As (some ⟨h0, o, none⟩) 0 cs 0 c0 rfl rfl (by simp) ?_)
      go_ret
      rw [e.out, hx0]
      exact ⟨A2, c2, rfl, HW.out, HT.out.mono (fun x hx => .inl (by simp only [List.mem_cons] at hx ⊢; rcases hx with hx | hx; exact .inl hx; exact .inr (.inr hx))), HN.out⟩
    · obtain ⟨h, rfl, rfl⟩ := HZ.out (by omega)
      obtain ⟨cur, hcur, hsz, htk, hle, hcm⟩ := HW.out.row
      have hne : h0 ≠ h := by
        rintro rfl
        rcases HN.out h0 (by simp [blkOf]) with h1 | h1
        · exact HFar.out (by simp [h1])
        · omega
      have hne2 : h0 ∉ g :: blkOf A := fun h1 => HFar.out (by simp only [List.mem_cons] at h1 ⊢; rcases h1 with h1 | h1; exact .inl h1; exact .inr (.inr h1))
      have hsl1 : Sl w1 h0 o xs := fun j hj => (World.cell?_of_block (a := ⟨h0, o + j, none⟩) (HT.out.block h0 hlt0 hne2)).trans (HS.out j hj)
      have hlen : (s.out ++ List.replicate m (0 : Int)).length = s.out.length + m := by simp
      simp only [hlen] at hle htk
      have hrow : Row (w1.setRow h (cur.toList.take s.out.length ++ (u8s xs ++ cur.toList.drop (s.out.length + (u8s xs).length))).toArray) h c2 (s.out ++ xs) := by
        refine ⟨_, setRow_heap w1 h cur _ 5 _ hcur, ?_, ?_, by simpa [HM.out] using hle, hcm⟩
        · simp [HM.out]
          omega
        · have h1 : cur.toList.take s.out.length = u8s s.out := by
            have h2 := congrArg (List.take s.out.length) htk
            rw [List.take_take, Nat.min_eq_left (by omega)] at h2
            rw [h2]
            simp [u8s]
          rw [h1]
          simp only [List.length_append, HM.out]
          rw [← List.append_assoc, List.take_left' (by simp [HM.out])]
          simp
      have hw2 := HW.out.wrote (Only.row _) hrow (by simp [HM.out]) (by
        intro x hx
        rcases List.mem_append.1 hx with hx | hx
        · exact HH.out.byte x hx
        · exact HX.out x hx)
      have HW2 := Lib.hid hw2
      have HT2 := Lib.hid ((HT.out.mono (l' := g :: b :: blkOf A) (fun x hx => .inl (by simp only [List.mem_cons] at hx ⊢; rcases hx with hx | hx; exact .inl hx; exact .inr (.inr hx)))).then_ (turn_only (Only.row (w := w1) (h := h) (cur.toList.take s.out.length ++ (u8s xs ++ cur.toList.drop (s.out.length + (u8s xs).length))).toArray)) (fun x hx => by
        simp only [List.mem_singleton] at hx
        subst hx
        rcases HN.out x (by simp [blkOf]) with h1 | h1
        · exact .inl (by simp [h1])
        · exact .inr h1))
      have HSL := Lib.hid hsl1
      have HC : Hid (w1.heap[h]? = some (.cells cur 5 (0, 0))) := Lib.hid hcur
      have hfit : s.out.length + (u8s xs).length ≤ cur.size := by simp [HM.out]; omega
      have HMin : Hid ((u8s xs).length = Nat.min m m) := Lib.hid (by simp [HM.out])
      have HFit := Lib.hid hfit
      clear hfit
      clear hrow hw2 htk hcur hsl1
      go_wp2_with (with_reducible refine wpList_copy_own rfl (.tmp 14) (.tmp 15) 40 40 rfl 5 Try.underlying40 u8_size h s.out.length m cs ⟨h0, o, none⟩ m c0 rfl rfl cur 5 HC.out (u8s xs) HMin.out HSL.out.at_ HFit.out (u8s_one xs) ?_)
      go_ret
      rw [e.out]
      have hw3 := HW2.out
      have ht3 := HT2.out
      simp only [List.length_map] at hw3 ht3
      exact ⟨_, _, rfl, hw3, ht3, HN.out⟩

/-- Nothing to append. -/
theorem wbytes_none (g : Nat) (A : Option Addr) (c b n : Nat) (s : WS) (w : World) (H : Wr w g A c b n s) :
    Calls Try.prog 118 #[.pointer (some ⟨g, 0, none⟩), .slice none 0 0] w (Wrote w g A b n (s.putB []).2 (s.putB []).1) := by
  have HH := Lib.hid H
  clear H
  have e : Hid (s.putB [] = (0, { s with out := s.out ++ [] })) := Lib.hid (by unfold WS.putB; rw [if_neg (by simp)])
  go_enter Try.func118, Try.ntmps118
  go_wp2_with fail
  refine (wextend_ok _ _ _ _ _ _ _ HH.out 0 (Nat.zero_le _)).mono ?_
  rintro e1 w1 ⟨A2, c2, As, cs, rfl, hw, hs, ht, hn⟩
  have HW := Lib.hid hw
  have HT := Lib.hid ht
  have HN := Lib.hid hn
  clear hw ht hn hs
  go_wp2_with (with_reducible refine wpList_copy_nothing rfl (.tmp 14) (.tmp 15) 40 40 rfl 5 Try.underlying40 u8_size As none 0 cs 0 0 rfl rfl (by simp) ?_)
  go_ret
  rw [e.out]
  exact ⟨A2, c2, rfl, HW.out, HT.out.mono (fun x hx => .inl (by simp only [List.mem_cons] at hx ⊢; rcases hx with hx | hx; exact .inl hx; exact .inr (.inr hx))), HN.out⟩

/-- A mark: two zeros, and their offset among the open ones. -/
def WS.mark (s : WS) : Int × Int × WS :=
  if s.lim - s.out.length < 2 then (0, 7, s) else (s.out.length, 0, { s with out := s.out ++ List.replicate 2 0, marks := s.marks ++ [(s.out.length : Int)] })

/-- A call with two results has ended. -/
def Wrote2 (w : World) (g : Nat) (A : Option Addr) (b : Nat) (s2 : WS) (x r : Int) (e : Ending) (w' : World) : Prop :=
  ∃ A2 c2 n2, e = .returned (.tuple #[.int .i64 x, .int .i64 r]) ∧ Wr w' g A2 c2 b n2 s2 ∧ Turn (g :: b :: blkOf A) w w' ∧ ∀ y ∈ blkOf A2, y ∈ blkOf A ∨ w.heap.size ≤ y

theorem int_key : Keyed Try.prog 3 := int_keyed Try.underlying3

theorem MapIs.add {w w' : World} {b n : Nat} {marks : List Int} (m : Int) (hm : (Lit.int .i64 m).wf = true) (D : DataW Unit) (hD : w.ownsMap Try.prog 3 unitElem b n D) (hh : ∀ k : Int, (Lit.int .i64 k).wf = true → Maps.has D (.int .i64 k) = decide (k ∈ marks))
    (h2 : w'.ownsMap Try.prog 3 unitElem b (n + 1) (D.put (.int .i64 m) (.agg []))) : MapIs w' b (n + 1) (marks ++ [m]) := by
  refine ⟨_, h2, fun k hk => ?_⟩
  by_cases hkm : k = m
  · subst hkm
    rw [Maps.has_put_same hD.isMap (by trivial)]
    simp
  · rw [Maps.has_put_other (by simpa using hkm), hh k hk]
    simp [hkm]

end Go.Proofs.Ytgdfpmnbofnjfaa
