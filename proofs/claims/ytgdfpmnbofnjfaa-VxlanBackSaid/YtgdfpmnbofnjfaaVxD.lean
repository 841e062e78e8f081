/- Packets that carry frames, pure: what is written. -/
import Derived.Test.YtgdfpmnbofnjfaaPkM
import Derived.Test.YtgdfpmnbofnjfaaPkH
import Derived.Test.YtgdfpmnbofnjfaaVxB
namespace Go.Proofs.Ytgdfpmnbofnjfaa
open Go.RowKit Go.Shelf
set_option linter.unusedVariables false
set_option linter.unusedSimpArgs false
set_option maxRecDepth 100000

/-- An IPv4 header. -/
def ghdr (z t p s a b : Int) : List Int := be 17664 2 ++ be z 2 ++ be 0 4 ++ be t 1 ++ be p 1 ++ be s 2 ++ be a 4 ++ be b 4
theorem ghdr_len (z t p s a b : Int) : (ghdr z t p s a b).length = 20 := by simp [ghdr, be_length]
theorem ghdr_byte (z t p s a b : Int) : ∀ v ∈ ghdr z t p s a b, 0 ≤ v ∧ v ≤ 255 := by
  intro v hv
  simp only [ghdr, List.mem_append] at hv
  rcases hv with ((((((h | h) | h) | h) | h) | h) | h) | h <;> exact be_byte _ _ _ h
def ghdrS (z t p a b : Int) : List Int := ghdr z t p (sumP (ghdr z t p 0 a b)) a b
theorem ghdrS_len (z t p a b : Int) : (ghdrS z t p a b).length = 20 := ghdr_len _ _ _ _ _ _
theorem ghdrS_byte (z t p a b : Int) : ∀ v ∈ ghdrS z t p a b, 0 ≤ v ∧ v ≤ 255 := ghdr_byte _ _ _ _ _ _
/-- The headers and the whole of a packet whose frame has k bytes. -/
def vip (x : VP) (k : Nat) : List Int := ghdrS (20 + (16 + (k : Int))) x.t 17 x.a x.b
def vudp (x : VP) (k : Nat) : List Int := be x.n 2 ++ be 4789 2 ++ be (16 + (k : Int)) 2 ++ be 0 2
def vvx (x : VP) : List Int := be 8 1 ++ be x.m 3 ++ be x.v 3 ++ be 0 1
def vencK (x : VP) (k : Nat) (F : List Int) : List Int := (([] ++ vip x k) ++ vudp x k) ++ vvx x ++ F
def venc (x : VP) : List Int := vencK x (fenc x.f).length (fenc x.f)
structure VP.ok (x : VP) : Prop where
  a : 0 ≤ x.a ∧ x.a < 4294967296
  b : 0 ≤ x.b ∧ x.b < 4294967296
  t : 0 ≤ x.t ∧ x.t ≤ 255
  n : 0 ≤ x.n ∧ x.n ≤ 65535
  v : 0 ≤ x.v ∧ x.v ≤ 16777215
  m : 0 ≤ x.m ∧ x.m ≤ 16777215
theorem wi_le' {n m : Int} (h : ¬ wi n m = false) : 0 ≤ n ∧ n ≤ m := by
  unfold wi at h
  simpa using h
theorem vchk_zero {x : VP} (hx : x.ty) (h : vchk x = 0) : x.ok ∧ fchk x.f = 0 := by
  unfold vchk at h
  split at h
  · omega
  rename_i h1
  refine ⟨⟨hx.a, hx.b, wi_le' (fun h => h1 (.inl h)), wi_le' (fun h => h1 (.inr (.inl h))), ⟨hx.v.1, ?_⟩, ⟨hx.m.1, ?_⟩⟩, h⟩
  · by_cases h2 : 16777215 < x.v
    · exact absurd (.inr (.inr (.inl h2))) h1
    · omega
  · by_cases h2 : 16777215 < x.m
    · exact absurd (.inr (.inr (.inr h2))) h1
    · omega
theorem vchk_mk {x : VP} (h : x.ok) : vchk x = fchk x.f := by
  obtain ⟨t0, t1⟩ := h.t
  obtain ⟨n0, n1⟩ := h.n
  obtain ⟨v0, v1⟩ := h.v
  obtain ⟨m0, m1⟩ := h.m
  have e1 : wi x.t 255 = true := by unfold wi; simp; omega
  have e2 : wi x.n 65535 = true := by unfold wi; simp; omega
  unfold vchk
  rw [e1, e2, if_neg (by simp; omega)]

end Go.Proofs.Ytgdfpmnbofnjfaa
