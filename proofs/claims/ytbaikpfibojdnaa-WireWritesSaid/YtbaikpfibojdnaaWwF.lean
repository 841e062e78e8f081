/- WireWrites: what stands between two calls; light. -/
import Derived.Test.YtbaikpfibojdnaaWwE
namespace Go.Proofs.Ytbaikpfibojdnaa
open Go.RowKit
set_option linter.unusedVariables false
set_option maxRecDepth 100000

/-- The two writers, apart from each other. -/
structure WI (w : World) (g o : Nat) (s1 s2 : WS) (l m : List Nat) (W : World) : Prop where
  a : WrL W l g s1
  b : RwL W m o s2
  la : ∀ k ∈ l, w.heap.size ≤ k
  lb : ∀ k ∈ m, w.heap.size ≤ k
  far : ∀ k ∈ l, k ∉ m
  bel : Below w.heap.size w W

section
variable {w W W' : World} {g o : Nat} {s1 s2 s1' s2' : WS} {l m l' m' : List Nat}
theorem WI.below (H : WI w g o s1 s2 l m W) (hb : Below W.heap.size W W') : WI w g o s1 s2 l m W' :=
  ⟨H.a.below hb, H.b.below hb, H.la, H.lb, H.far, H.bel.trans (hb.mono H.bel.size)⟩
theorem WI.drewN (H : WI w g o s1 s2 l m W) (n : Nat) : WI w g o s1 s2 l m (W.drewN n) := H.below ⟨rfl, rfl, rfl, Nat.le_refl _, fun _ _ => rfl⟩
theorem WI.drew (H : WI w g o s1 s2 l m W) : WI w g o s1 s2 l m W.drew := H.drewN 1
theorem WI.alloc (H : WI w g o s1 s2 l m W) (x : Obj) : WI w g o s1 s2 l m (W.alloc x) := H.below ((Below.refl _ W).alloc (Nat.le_refl _) x)
theorem WI.putA (H : WI w g o s1 s2 l m W) (hw : WrL W' l' g s1') (hn : Next W l W' l') : WI w g o s1' s2 l' m W' := by
  have hb := hn.below H.la H.bel.size
  refine ⟨hw, H.b.turn hn.1 (fun k hk hk2 => H.far k hk2 hk), hb.2, H.lb, fun k hk hk2 => ?_, H.bel.trans hb.1⟩
  rcases hn.2 k hk with h | h
  · exact H.far k h hk2
  · have := H.b.lt k hk2; omega
theorem WI.putB (H : WI w g o s1 s2 l m W) (hw : RwL W' m' o s2') (hn : Next W m W' m') : WI w g o s1 s2' l m' W' := by
  have hb := hn.below H.lb H.bel.size
  refine ⟨H.a.turn hn.1 (fun k hk hk2 => H.far k hk hk2), hw, H.la, hb.2, fun k hk hk2 => ?_, H.bel.trans hb.1⟩
  rcases hn.2 k hk2 with h | h
  · exact H.far k hk h
  · have := H.a.lt k hk; omega
end

/-- The list is not too long, and neither are its bytes. -/
def Light (ks : List ActV) : Prop := (∀ x ∈ ks, x.bs.length ≤ 300) ∧ ks.length ≤ 60

theorem Acts.form {w : World} {v : Value} {ks : List ActV} (h : Acts w v ks) : ∃ A c, v = .slice A ks.length c := by
  rcases h with ⟨rfl, rfl⟩ | ⟨ad, c, h1, h2⟩
  · exact ⟨none, 0, rfl⟩
  · exact ⟨_, c, h1⟩

/-- What light answers. -/
def LightIs (ks : List ActV) (w : World) (e : Ending) (w' : World) : Prop := ∃ b : Bool, e = .returned (.bool b) ∧ (b = true → Light ks) ∧ w = w'

set_option maxHeartbeats 1000000 in
theorem light_any (A : Option Addr) (c : Nat) (ks : List ActV) (w : World) (h : Acts w (.slice A ks.length c) ks) (hm : ks.length ≤ maxLen) :
    Calls Try.prog 11 #[.slice A ks.length c] w (LightIs ks w) := by
  unfold maxLen at hm
  have HK := Lib.hid h
  clear h
  go_enter Try.func11, Try.ntmps11
  go_wp2_with fail
  go_loop [3] (fun i => ∃ k : Nat, k ≤ ks.length ∧ i = .int .i64 k ∧ ∀ x ∈ ks.take k, x.bs.length ≤ 300) (fun i => ks.length - (intOf i).toNat)
  case atStart => exact ⟨0, Nat.zero_le _, rfl, by simp⟩
  case round =>
    obtain ⟨k, hk, rfl, hb⟩ := hrel
    have HB := Lib.hid hb
    clear hb
    by_cases hlt : k < ks.length
    · obtain ⟨b3, o3, rfl, _, hat⟩ := HK.out.at_ (by omega)
      have hact := hat k hlt
      have hsm : ks[k].bs.length ≤ 9223372036854775807 := by
        rcases HK.out with ⟨h0, _⟩ | ⟨ad, c, _, h2⟩
        · cases h0
        · have := (h2 k hlt).ok3.2.2
          unfold maxLen at this
          omega
      obtain ⟨x, hx⟩ : ∃ x, ks[k] = x := ⟨_, rfl⟩
      rw [hx] at hact hsm
      have hk3 := hact.c3
      have HX := Lib.hid hx
      clear hat hact hx
      by_cases hl : x.bs.length ≤ 300
      · have hd : decide ((300 : Int) < (x.bs.length : Int)) = false := by simp; omega
        go_wp2_with fail
        go_round
        case rel =>
          refine ⟨k + 1, by omega, by go_num, fun y hy => ?_⟩
          rw [List.take_succ_eq_append_getElem hlt, List.mem_append, List.mem_singleton] at hy
          rcases hy with hy | hy
          · exact HB.out y hy
          · rw [hy, HX.out]; exact hl
        case measure => simp [intOf]; omega
      · have hd : (300 : Int) < (x.bs.length : Int) := by omega
        go_wp2_with fail
        go_ret
        exact ⟨false, rfl, by simp, rfl⟩
    · have hke : k = ks.length := by omega
      subst hke
      go_wp2_with fail
      go_ret
      refine ⟨_, rfl, fun h => ⟨fun x hx => HB.out x (by rw [List.take_length]; exact hx), ?_⟩, rfl⟩
      simp at h
      omega

end Go.Proofs.Ytbaikpfibojdnaa
