/- Writers: more room; numbers. -/
import Derived.Test.YtgdfpmnbofnjfaaWrC
namespace Go.Proofs.Ytgdfpmnbofnjfaa
open Go.RowKit Go.Maps
set_option maxRecDepth 100000
set_option linter.unusedVariables false

theorem wextend_full (g : Nat) (A : Option Addr) (c b n : Nat) (s : WS) (w : World) (H : Wr w g A c b n s) (k : Nat) (hk : s.lim - s.out.length < k) (hk2 : k ≤ 1000000) :
    Calls Try.prog 87 #[.pointer (some ⟨g, 0, none⟩), .int .i64 k] w fun e w' => e = .returned (.tuple #[.slice none 0 0, .int .i64 7]) ∧ w = w' := by
  have c0 := H.c0
  have c1 := H.c1
  have hr := H.room
  have ht := H.top
  have HH := Lib.hid H
  clear H
  go_enter Try.func87, Try.ntmps87
  go_wp2_with (go_at_call 73; refine (wvalid_yes _ _ _ _ _ _ _ HH.out).mono ?_; rintro e w' ⟨rfl, rfl⟩)
  go_ret2
  exact ⟨rfl, rfl⟩

theorem wextend_nil (w : World) (k : Int) :
    Calls Try.prog 87 #[.pointer none, .int .i64 k] w fun e w' => e = .returned (.tuple #[.slice none 0 0, .int .i64 1]) ∧ w = w' := by
  go_enter Try.func87, Try.ntmps87
  go_wp2_with (go_at_call 73; refine (wvalid_no _).mono ?_; rintro e w' ⟨rfl, rfl⟩)
  go_ret2
  exact ⟨rfl, rfl⟩

/-- The writer with more zeros, and the slice of them. -/
def Ext (w : World) (g : Nat) (A : Option Addr) (b n : Nat) (s : WS) (k : Nat) (e : Ending) (w' : World) : Prop :=
  ∃ A2 c2 As cs, e = .returned (.tuple #[.slice As k cs, .int .i64 0]) ∧ Wr w' g A2 c2 b n { s with out := s.out ++ List.replicate k 0 } ∧
    (0 < k → ∃ h, A2 = some ⟨h, 0, none⟩ ∧ As = some ⟨h, s.out.length, none⟩) ∧ Turn (g :: blkOf A) w w' ∧ ∀ x ∈ blkOf A2, x ∈ blkOf A ∨ w.heap.size ≤ x

theorem own_blk (A : Option Addr) (n c : Nat) : (Value.slice A n c).ownBlock.toList = blkOf A := by cases A <;> rfl

set_option maxHeartbeats 1000000 in
theorem wextend_ok (g : Nat) (A : Option Addr) (c b n : Nat) (s : WS) (w : World) (H : Wr w g A c b n s) (k : Nat) (hk : k ≤ s.lim - s.out.length) :
    Calls Try.prog 87 #[.pointer (some ⟨g, 0, none⟩), .int .i64 k] w (Ext w g A b n s k) := by
  have c0 := H.c0
  have c1 := H.c1
  have hr := H.room
  have ht := H.top
  have HH := Lib.hid H
  obtain ⟨v', w1, hrun, hvec, hturn, hnew⟩ := run_grow w (.slice A s.out.length c) s.out H.buf.vec k (by omega) 40
  obtain ⟨A2, c2, rfl, hbuf⟩ := hvec.buf
  rw [own_blk] at hturn
  have hne := H.ne_
  have hg1 : Has w1 g 109 (wrc s.lim A s.out.length c b) := H.blk.turn hturn hne.2.1
  have d1 : w1.cell? ⟨g, 1, none⟩ = some (.slice A s.out.length c) := hg1.cell 1
  have f1 : w1.frozen? ⟨g, 1, none⟩ = false := hg1.free 1
  have hlen : (s.out ++ List.replicate k 0).length = s.out.length + k := by simp
  rw [hlen] at hrun hnew
  have hcap : s.out.length + k ≤ c2 := by
    rcases hbuf with ⟨_, rfl, h0⟩ | ⟨h, _, cur, _, _, _, h1, _⟩
    · rw [← hlen, h0]; simp
    · rw [← hlen]; exact h1
  have hmax : c2 ≤ 9223372036854775807 := by
    rcases hbuf with ⟨_, rfl, h0⟩ | ⟨h, _, cur, _, _, _, _, h1⟩
    · omega
    · unfold maxLen at h1; omega
  have hblk : blkOf A2 = blkOf A ∨ blkOf A2 = [w.heap.size] := by
    cases A2 <;> cases A <;> simp [Value.ownBlock, blkOf] at hnew ⊢ <;> exact hnew
  have hsome : 0 < k → ∃ h, A2 = some ⟨h, 0, none⟩ := by
    intro h0
    rcases hbuf with ⟨_, _, h1⟩ | ⟨h, h1, _⟩
    · have h2 := congrArg List.length h1
      rw [hlen] at h2
      simp at h2
      omega
    · exact ⟨h, h1⟩
  have hgA2 : g ∉ blkOf A2 := by
    rcases hblk with h1 | h1
    · rw [h1]; exact hne.2.1
    · rw [h1]; have := H.blk.lt; simp; omega
  have hfin : Wr (w1.setCell ⟨g, 1, none⟩ (.slice A2 (s.out.length + k) c2)) g A2 c2 b n { s with out := s.out ++ List.replicate k 0 } ∧ Turn (g :: blkOf A) w (w1.setCell ⟨g, 1, none⟩ (.slice A2 (s.out.length + k) c2)) := by
    have ho : Only w1 g (w1.setCell ⟨g, 1, none⟩ (.slice A2 (s.out.length + k) c2)) := only_set (only_refl w1 g) (.inl rfl) _
    refine ⟨⟨?_, hbuf.turn (turn_only ho) (fun x hx => by simp; rintro rfl; exact hgA2 hx), ?_, ?_, ?_, H.top, ?_, ?_⟩, ?_⟩
    · have h1 := hg1.set_ 1 (.slice A2 (s.out.length + k) c2)
      simpa using h1
    · exact (H.map.kept (hturn.block b H.map.lt hne.2.2)).kept ((turn_only ho).block b (Nat.lt_of_lt_of_le H.map.lt hturn.size) (by simp; exact fun h => hne.1 h.symm))
    · have := H.cnt
      simp
      omega
    · simp
      omega
    · intro v hv
      simp only [List.mem_append, List.mem_replicate] at hv
      rcases hv with hv | ⟨_, rfl⟩
      · exact H.byte v hv
      · omega
    · intro m hm
      have h1 := H.open_ m hm
      simp
      omega
    · exact (hturn.mono (fun x hx => .inl (by simp [hx]))).set_ (.inl (by simp)) _
  have hold : ∀ x ∈ blkOf A2, x ∈ blkOf A ∨ w.heap.size ≤ x := by
    intro x hx
    rcases hblk with h1 | h1
    · exact .inl (h1 ▸ hx)
    · rw [h1] at hx
      simp at hx
      exact .inr (by omega)
  have HF := Lib.hid hfin
  have HO := Lib.hid hold
  have HS := Lib.hid hsome
  have HR := Lib.hid hrun
  clear H hvec hturn hbuf hne hg1 hblk hnew hrun hlen hfin hold hsome hgA2
  go_enter Try.func87, Try.ntmps87
  go_wp2_with (first
    | (go_at_call 73; refine (wvalid_yes _ _ _ _ _ _ _ HH.out).mono ?_; rintro e w' ⟨rfl, rfl⟩)
    | (at_builtin; refine Lib.wpList_append_run _ rfl _ _ _ _ rfl _ _ rfl rfl _ _ HR.out ?_))
  · rename_i h
    subst h
    have hk0 : k = 0 := by omega
    go_ret2
    exact ⟨A2, _, _, _, rfl, HF.out.1, fun h0 => by omega, HF.out.2, HO.out⟩
  · go_ret2
    refine ⟨A2, _, _, _, rfl, HF.out.1, fun h0 => ?_, HF.out.2, HO.out⟩
    obtain ⟨h, rfl⟩ := HS.out h0
    refine ⟨h, rfl, ?_⟩
    simp [Addr.add]
    intro h1
    rw [h1]
    rfl

end Go.Proofs.Ytgdfpmnbofnjfaa
