/- Packets that carry frames, pure: a byte of the headers changed. -/
import Derived.Test.YtgdfpmnbofnjfaaVxL
namespace Go.Proofs.Ytgdfpmnbofnjfaa
open Go.RowKit Go.Shelf
set_option linter.unusedVariables false
set_option linter.unusedSimpArgs false
set_option maxRecDepth 100000

theorem be2 {a b : Int} (ha : 0 ≤ a ∧ a ≤ 255) (hb : 0 ≤ b ∧ b ≤ 255) : be (a * 256 + b) 2 = [a, b] := by
  show [(a * 256 + b) / 256 ^ 1 % 256, (a * 256 + b) / 256 ^ 0 % 256] = [a, b]
  have e1 : (256 : Int) ^ 1 = 256 := by decide
  have e0 : (256 : Int) ^ 0 = 1 := by decide
  rw [e1, e0]
  simp only [List.cons.injEq, and_true]
  refine ⟨?_, ?_⟩ <;> omega
theorem be3 {a b c : Int} (ha : 0 ≤ a ∧ a ≤ 255) (hb : 0 ≤ b ∧ b ≤ 255) (hc : 0 ≤ c ∧ c ≤ 255) : be (a * 65536 + b * 256 + c) 3 = [a, b, c] := by
  show [(a * 65536 + b * 256 + c) / 256 ^ 2 % 256, (a * 65536 + b * 256 + c) / 256 ^ 1 % 256, (a * 65536 + b * 256 + c) / 256 ^ 0 % 256] = [a, b, c]
  have e2 : (256 : Int) ^ 2 = 65536 := by decide
  have e1 : (256 : Int) ^ 1 = 256 := by decide
  have e0 : (256 : Int) ^ 0 = 1 := by decide
  rw [e2, e1, e0]
  simp only [List.cons.injEq, and_true]
  refine ⟨?_, ?_, ?_⟩ <;> omega
theorem form2 (v : Int) : ∃ a b : Int, (0 ≤ a ∧ a ≤ 255) ∧ (0 ≤ b ∧ b ≤ 255) ∧ be v 2 = [a, b] := ⟨_, _, be_byte v 2 _ (by simp [be]), be_byte v 2 _ (by simp [be]), rfl⟩
theorem form3 (v : Int) : ∃ a b c : Int, (0 ≤ a ∧ a ≤ 255) ∧ (0 ≤ b ∧ b ≤ 255) ∧ (0 ≤ c ∧ c ≤ 255) ∧ be v 3 = [a, b, c] := ⟨_, _, _, be_byte v 3 _ (by simp [be]), be_byte v 3 _ (by simp [be]), be_byte v 3 _ (by simp [be]), rfl⟩

/-- The headers behind that of IPv4. -/
def L16 (k : Nat) (n m v : List Int) : List Int := n ++ ([18, 181] ++ be (16 + (k : Int)) 2 ++ [0, 0, 8]) ++ m ++ v ++ [0]
theorem venc_split (x : VP) : venc x = vip x (fenc x.f).length ++ (L16 (fenc x.f).length (be x.n 2) (be x.m 3) (be x.v 3) ++ fenc x.f) := by
  have e1 : be 4789 2 = [18, 181] := by decide
  have e2 : be 0 2 = [0, 0] := by decide
  have e3 : be 8 1 = [8] := by decide
  have e4 : be 0 1 = [0] := by decide
  unfold venc vencK vudp vvx L16
  rw [e1, e2, e3, e4]
  simp only [List.nil_append, List.append_assoc, List.cons_append]
theorem vip_len (x : VP) (k : Nat) : (vip x k).length = 20 := ghdrS_len _ _ _ _ _
theorem L16_len {k : Nat} {n m v : List Int} (hn : n.length = 2) (hm : m.length = 3) (hv : v.length = 3) : (L16 k n m v).length = 16 := by
  unfold L16
  simp [be_length, hn, hm, hv]
/-- What of these headers only the frame's length decides. -/
theorem L16_const {k : Nat} {n m v n' m' v' : List Int} (hn : n.length = 2) (hm : m.length = 3) (hv : v.length = 3) (hn' : n'.length = 2) (hm' : m'.length = 3) (hv' : v'.length = 3) (j : Nat) (hj : (2 ≤ j ∧ j ≤ 8) ∨ j = 15) : (L16 k n m v)[j]? = (L16 k n' m' v')[j]? := by
  match n, hn, m, hm, v, hv, n', hn', m', hm', v', hv' with
  | [a, b], _, [c, d, e], _, [f, g, h], _, [a', b'], _, [c', d', e'], _, [f', g', h'], _ =>
    obtain ⟨p, q, _, _, hb⟩ := form2 (16 + (k : Int))
    unfold L16
    rw [hb]
    have : j = 2 ∨ j = 3 ∨ j = 4 ∨ j = 5 ∨ j = 6 ∨ j = 7 ∨ j = 8 ∨ j = 15 := by omega
    rcases this with rfl | rfl | rfl | rfl | rfl | rfl | rfl | rfl <;> rfl

theorem vchange_no {x : VP} (at_ : Nat) (ha : at_ < 20 ∨ (22 ≤ at_ ∧ at_ ≤ 28) ∨ at_ = 35) (hl : at_ < (venc x).length) (u : Int) (h0 : 0 ≤ u) (h1 : u ≤ 255) (hu : u ≠ (venc x)[at_]) : (vread ((venc x).set at_ u)).2.1 ≠ 0 := by
  intro h
  obtain ⟨_, _, _, he, _, _⟩ := vread_ok h
  generalize (vread ((venc x).set at_ u)).1 = y at he
  have hlen : (fenc y.f).length = (fenc x.f).length := by
    have := congrArg List.length he
    rw [List.length_set, venc_len, venc_len] at this
    omega
  obtain ⟨k, hk⟩ : ∃ k, (fenc x.f).length = k := ⟨_, rfl⟩
  have sx := venc_split x
  have sy := venc_split y
  rw [hlen] at sy
  rw [hk] at sx sy
  have hux : (venc x)[at_]? = some (venc x)[at_] := List.getElem?_eq_getElem hl
  by_cases hlt : at_ < 20
  · have h2 : vip y k = (vip x k).set at_ u := by
      have h3 : (venc y).take 20 = ((venc x).set at_ u).take 20 := by rw [he]
      rw [List.take_set, sx, sy, List.take_left' (vip_len _ _), List.take_left' (vip_len _ _)] at h3
      exact h3
    have hi : at_ < (vip x k).length := by rw [vip_len]; exact hlt
    have h4 := ghdrS_other at_ hi u h0 h1 h2
    refine hu (h4.trans ?_)
    have h5 : (venc x)[at_]? = (vip x k)[at_]? := by
      rw [sx, List.getElem?_append_left hi]
    rw [List.getElem?_eq_getElem hi, hux] at h5
    exact (Option.some.inj h5).symm
  · have h2 : (venc y)[at_]? = (venc x)[at_]? := by
      have hat : ∀ z : VP, (vip z k ++ (L16 k (be z.n 2) (be z.m 3) (be z.v 3) ++ fenc z.f))[at_]? = (L16 k (be z.n 2) (be z.m 3) (be z.v 3))[at_ - 20]? := fun z => by
        rw [List.getElem?_append_right (by rw [vip_len]; omega), vip_len, List.getElem?_append_left (by rw [L16_len (be_length _ _) (be_length _ _) (be_length _ _)]; omega)]
      rw [sx, sy, hat, hat]
      exact L16_const (be_length _ _) (be_length _ _) (be_length _ _) (be_length _ _) (be_length _ _) (be_length _ _) _ (by omega)
    rw [he, hux] at h2
    rw [List.getElem?_set_self hl] at h2
    exact hu (Option.some.inj h2)

theorem L16_n {k : Nat} {n m v : List Int} (hn : n.length = 2) (i : Nat) (hi : i < 2) (u : Int) : (L16 k n m v).set i u = L16 k (n.set i u) m v := by
  unfold L16
  rw [List.set_append_left _ _ (by simp; omega), List.set_append_left _ _ (by simp; omega), List.set_append_left _ _ (by simp; omega), List.set_append_left _ _ (by omega)]
theorem L16_m {k : Nat} {n m v : List Int} (hn : n.length = 2) (hm : m.length = 3) (i : Nat) (hi : i < 3) (u : Int) : (L16 k n m v).set (9 + i) u = L16 k n (m.set i u) v := by
  unfold L16
  have e : (n ++ ([18, 181] ++ be (16 + (k : Int)) 2 ++ [0, 0, 8])).length = 9 := by simp [be_length, hn]
  rw [List.set_append_left _ _ (by simp [be_length, hn, hm]; omega), List.set_append_left _ _ (by simp [be_length, hn, hm]; omega), List.set_append_right _ _ (by omega), e, Nat.add_sub_cancel_left]
theorem L16_v {k : Nat} {n m v : List Int} (hn : n.length = 2) (hm : m.length = 3) (hv : v.length = 3) (i : Nat) (hi : i < 3) (u : Int) : (L16 k n m v).set (12 + i) u = L16 k n m (v.set i u) := by
  unfold L16
  have e : (n ++ ([18, 181] ++ be (16 + (k : Int)) 2 ++ [0, 0, 8]) ++ m).length = 12 := by simp [be_length, hn, hm]
  rw [List.set_append_left _ _ (by simp [be_length, hn, hm, hv]; omega), List.set_append_right _ _ (by omega), e, Nat.add_sub_cancel_left]
theorem be2_set {v : Int} (i : Nat) (hi : i < 2) (u : Int) (h0 : 0 ≤ u) (h1 : u ≤ 255) : ∃ n : Int, (0 ≤ n ∧ n ≤ 65535) ∧ be n 2 = (be v 2).set i u := by
  obtain ⟨a, b, ha, hb, e⟩ := form2 v
  rw [e]
  have : i = 0 ∨ i = 1 := by omega
  rcases this with rfl | rfl
  · exact ⟨u * 256 + b, by omega, be2 ⟨h0, h1⟩ hb⟩
  · exact ⟨a * 256 + u, by omega, be2 ha ⟨h0, h1⟩⟩
theorem be3_set {v : Int} (i : Nat) (hi : i < 3) (u : Int) (h0 : 0 ≤ u) (h1 : u ≤ 255) : ∃ n : Int, (0 ≤ n ∧ n ≤ 16777215) ∧ be n 3 = (be v 3).set i u := by
  obtain ⟨a, b, c, ha, hb, hc, e⟩ := form3 v
  rw [e]
  have : i = 0 ∨ i = 1 ∨ i = 2 := by omega
  rcases this with rfl | rfl | rfl
  · exact ⟨u * 65536 + b * 256 + c, by omega, be3 ⟨h0, h1⟩ hb hc⟩
  · exact ⟨a * 65536 + u * 256 + c, by omega, be3 ha ⟨h0, h1⟩ hc⟩
  · exact ⟨a * 65536 + b * 256 + u, by omega, be3 ha hb ⟨h0, h1⟩⟩
theorem wf_small {n : Int} (h : 0 ≤ n ∧ n ≤ 65535) : (Lit.int .i64 n).wf = true := has_wf (show IntKind.i64.has n from ⟨by show (-9223372036854775808 : Int) ≤ n; omega, by show n ≤ (9223372036854775807 : Int); omega⟩)

theorem vchange_yes {x : VP} (hx : x.ty) (hc : vchk x = 0) (at_ : Nat) (ha : at_ = 20 ∨ at_ = 21 ∨ (29 ≤ at_ ∧ at_ ≤ 34)) (hl : at_ < (venc x).length) (u : Int) (h0 : 0 ≤ u) (h1 : u ≤ 255) (hu : u ≠ (venc x)[at_]) :
    ∃ y : VP, y.ty ∧ vchk y = 0 ∧ venc y = (venc x).set at_ u ∧ y ≠ x := by
  obtain ⟨hok, hf⟩ := vchk_zero hx hc
  have sx := venc_split x
  have hset : ∀ (y : VP), y.f = x.f → vip y (fenc x.f).length = vip x (fenc x.f).length → ∀ j, at_ = 20 + j → (L16 (fenc x.f).length (be x.n 2) (be x.m 3) (be x.v 3)).set j u = L16 (fenc x.f).length (be y.n 2) (be y.m 3) (be y.v 3) → j < 16 → venc y = (venc x).set at_ u := by
    intro y hyf hyv j hj hL hj16
    rw [sx, venc_split y, hyf, hyv, hj, List.set_append_right _ _ (by rw [vip_len]; omega), vip_len, Nat.add_sub_cancel_left, List.set_append_left _ _ (by rw [L16_len (be_length _ _) (be_length _ _) (be_length _ _)]; omega), hL]
  have hne : ∀ y : VP, venc y = (venc x).set at_ u → y ≠ x := by
    rintro y hy rfl
    have h2 := congrArg (fun l => l[at_]?) hy
    simp only [List.getElem?_set_self hl, List.getElem?_eq_getElem hl] at h2
    exact hu (Option.some.inj h2).symm
  by_cases hn : at_ ≤ 21
  · obtain ⟨n, hn0, hn1⟩ := be2_set (v := x.n) (at_ - 20) (by omega) u h0 h1
    have hy : venc ⟨x.a, x.b, x.t, n, x.v, x.m, x.f⟩ = (venc x).set at_ u := hset ⟨x.a, x.b, x.t, n, x.v, x.m, x.f⟩ rfl rfl (at_ - 20) (by omega) (by rw [L16_n (be_length _ _) _ (by omega), ← hn1]) (by omega)
    exact ⟨⟨x.a, x.b, x.t, n, x.v, x.m, x.f⟩, ⟨hx.a, hx.b, hx.t, wf_small hn0, hx.v, hx.m, hx.f⟩, by rw [vchk_mk (x := ⟨x.a, x.b, x.t, n, x.v, x.m, x.f⟩) ⟨hok.a, hok.b, hok.t, hn0, hok.v, hok.m⟩]; exact hf, hy, hne _ hy⟩
  by_cases hm : at_ ≤ 31
  · obtain ⟨m, hm0, hm1⟩ := be3_set (v := x.m) (at_ - 29) (by omega) u h0 h1
    have hy : venc ⟨x.a, x.b, x.t, x.n, x.v, m, x.f⟩ = (venc x).set at_ u := hset ⟨x.a, x.b, x.t, x.n, x.v, m, x.f⟩ rfl rfl (9 + (at_ - 29)) (by omega) (by rw [L16_m (be_length _ _) (be_length _ _) _ (by omega), ← hm1]) (by omega)
    exact ⟨⟨x.a, x.b, x.t, x.n, x.v, m, x.f⟩, ⟨hx.a, hx.b, hx.t, hx.n, hx.v, by show 0 ≤ m ∧ m < 4294967296; omega, hx.f⟩, by rw [vchk_mk (x := ⟨x.a, x.b, x.t, x.n, x.v, m, x.f⟩) ⟨hok.a, hok.b, hok.t, hok.n, hok.v, hm0⟩]; exact hf, hy, hne _ hy⟩
  · obtain ⟨v, hv0, hv1⟩ := be3_set (v := x.v) (at_ - 32) (by omega) u h0 h1
    have hy : venc ⟨x.a, x.b, x.t, x.n, v, x.m, x.f⟩ = (venc x).set at_ u := hset ⟨x.a, x.b, x.t, x.n, v, x.m, x.f⟩ rfl rfl (12 + (at_ - 32)) (by omega) (by rw [L16_v (be_length _ _) (be_length _ _) (be_length _ _) _ (by omega), ← hv1]) (by omega)
    exact ⟨⟨x.a, x.b, x.t, x.n, v, x.m, x.f⟩, ⟨hx.a, hx.b, hx.t, hx.n, by show 0 ≤ v ∧ v < 4294967296; omega, hx.m, hx.f⟩, by rw [vchk_mk (x := ⟨x.a, x.b, x.t, x.n, v, x.m, x.f⟩) ⟨hok.a, hok.b, hok.t, hok.n, hv0, hok.m⟩]; exact hf, hy, hne _ hy⟩

end Go.Proofs.Ytgdfpmnbofnjfaa
