/- Packets that carry frames, pure: what is read of an encoded packet; a byte changed. -/
import Derived.Test.YtgdfpmnbofnjfaaVxD
namespace Go.Proofs.Ytgdfpmnbofnjfaa
open Go.RowKit Go.Shelf
set_option linter.unusedVariables false
set_option linter.unusedSimpArgs false
set_option maxRecDepth 100000

/-- The packet that the headers say. -/
def vdec (bs : List Int) (f : FR) : VP := ⟨nm bs 12 4, nm bs 16 4, nm bs 8 1, nm bs 20 2, nm bs 32 3, nm bs 29 3, f⟩
/-- What Read answers. -/
def vread (bs : List Int) : VP × Int × Int :=
  if bs.length < 36 then (vp0, 4, bs.length)
  else if nm bs 9 1 ≠ 17 then (vp0, 6, 9)
  else if nm bs 22 2 ≠ 4789 then (vp0, 6, 22)
  else if (fread (bs.drop 36)).2.1 ≠ 0 then (vp0, (fread (bs.drop 36)).2.1, (fread (bs.drop 36)).2.2 + 36)
  else if vchk (vdec bs (fread (bs.drop 36)).1) = 0 ∧ venc (vdec bs (fread (bs.drop 36)).1) = bs then (vdec bs (fread (bs.drop 36)).1, 0, 0) else (vp0, 3, 0)

def segV (x : VP) (k : Nat) (s : Int) : List (Int × Nat) := [(17664, 2), (20 + (16 + (k : Int)), 2), (0, 4), (x.t, 1), (17, 1), (s, 2), (x.a, 4), (x.b, 4), (x.n, 2), (4789, 2), (16 + (k : Int), 2), (0, 2), (8, 1), (x.m, 3), (x.v, 3), (0, 1)]
def vsum (x : VP) (k : Nat) : Int := sumP (ghdr (20 + (16 + (k : Int))) x.t 17 0 x.a x.b)
theorem venc_seg (x : VP) (k : Nat) (F : List Int) : vencK x k F = flat (segV x k (vsum x k)) ++ F := by
  unfold vencK vip vudp vvx ghdrS ghdr segV vsum ghdr
  simp only [flat, List.nil_append, List.append_nil, List.append_assoc]
theorem vsum_le (x : VP) (k : Nat) : 0 ≤ vsum x k ∧ vsum x k ≤ 65535 := sumP_le _ (ghdr_byte _ _ _ _ _ _)
theorem segV_len (x : VP) (k : Nat) (s : Int) : (flat (segV x k s)).length = 36 := by rw [flat_len]; rfl
theorem vencK_len (x : VP) (k : Nat) (F : List Int) : (vencK x k F).length = 36 + F.length := by rw [venc_seg, List.length_append, segV_len]
theorem venc_len (x : VP) : (venc x).length = 36 + (fenc x.f).length := vencK_len _ _ _
theorem fenc_len (x : FR) : (fenc x).length ≤ 50 := by
  unfold fenc fbody
  split
  · simp [bodyA, be_length]
  split
  · have := bodyH_len x
    simp only [List.length_append, be_length]
    omega
  · simp [be_length]
theorem flat_byte : ∀ (l : List (Int × Nat)), ∀ v ∈ flat l, 0 ≤ v ∧ v ≤ 255
  | [], v, h => by simp [flat] at h
  | (a, k) :: r, v, h => by
    rw [flat, List.mem_append] at h
    rcases h with h | h
    · exact be_byte _ _ _ h
    · exact flat_byte r v h
theorem venc_byte (x : VP) : ∀ v ∈ venc x, 0 ≤ v ∧ v ≤ 255 := by
  intro v hv
  unfold venc at hv
  rw [venc_seg, List.mem_append] at hv
  rcases hv with h | h
  · exact flat_byte _ _ h
  · exact fenc_byte _ _ h
theorem nm_app {A F : List Int} {p m : Nat} (h : p + m ≤ A.length) : nm (A ++ F) p m = nm A p m := by
  unfold nm
  rw [List.drop_append_of_le_length (by omega), List.take_append_of_le_length (by simp; omega)]
theorem vdrop (x : VP) : (venc x).drop 36 = fenc x.f := by
  unfold venc
  rw [venc_seg, List.drop_left' (segV_len _ _ _)]

/-- **What is read of an encoded packet is that packet.** -/
theorem vread_enc {x : VP} (hx : x.ty) (hc : vchk x = 0) : vread (venc x) = (x, 0, 0) := by
  obtain ⟨⟨⟨ha0, ha1⟩, ⟨hb0, hb1⟩, ⟨ht0, ht1⟩, ⟨hn0, hn1⟩, ⟨hv0, hv1⟩, ⟨hm0, hm1⟩⟩, hf⟩ := vchk_zero hx hc
  have hl := venc_len x
  have hfr := fread_enc hx.f hf
  obtain ⟨k, hk⟩ : ∃ k, (fenc x.f).length = k := ⟨_, rfl⟩
  obtain ⟨s, hs⟩ : ∃ s, vsum x k = s := ⟨_, rfl⟩
  have hE : venc x = flat (segV x k s) ++ fenc x.f := by unfold venc; rw [hk, venc_seg, hs]
  have hat : ∀ p m, p + m ≤ 36 → nm (venc x) p m = nm (flat (segV x k s)) p m := fun p m h => by rw [hE]; exact nm_app (by rw [segV_len]; exact h)
  have e1 : nm (venc x) 9 1 = 17 := by rw [hat _ _ (by omega)]; exact nm_seg [(17664, 2), (20 + (16 + (k : Int)), 2), (0, 4), (x.t, 1)] 17 1 [(s, 2), (x.a, 4), (x.b, 4), (x.n, 2), (4789, 2), (16 + (k : Int), 2), (0, 2), (8, 1), (x.m, 3), (x.v, 3), (0, 1)] (by omega) (by omega)
  have e2 : nm (venc x) 22 2 = 4789 := by rw [hat _ _ (by omega)]; exact nm_seg [(17664, 2), (20 + (16 + (k : Int)), 2), (0, 4), (x.t, 1), (17, 1), (s, 2), (x.a, 4), (x.b, 4), (x.n, 2)] 4789 2 [(16 + (k : Int), 2), (0, 2), (8, 1), (x.m, 3), (x.v, 3), (0, 1)] (by omega) (by omega)
  have e3 : nm (venc x) 12 4 = x.a := by rw [hat _ _ (by omega)]; exact nm_seg [(17664, 2), (20 + (16 + (k : Int)), 2), (0, 4), (x.t, 1), (17, 1), (s, 2)] x.a 4 [(x.b, 4), (x.n, 2), (4789, 2), (16 + (k : Int), 2), (0, 2), (8, 1), (x.m, 3), (x.v, 3), (0, 1)] (by omega) (by omega)
  have e4 : nm (venc x) 16 4 = x.b := by rw [hat _ _ (by omega)]; exact nm_seg [(17664, 2), (20 + (16 + (k : Int)), 2), (0, 4), (x.t, 1), (17, 1), (s, 2), (x.a, 4)] x.b 4 [(x.n, 2), (4789, 2), (16 + (k : Int), 2), (0, 2), (8, 1), (x.m, 3), (x.v, 3), (0, 1)] (by omega) (by omega)
  have e5 : nm (venc x) 8 1 = x.t := by rw [hat _ _ (by omega)]; exact nm_seg [(17664, 2), (20 + (16 + (k : Int)), 2), (0, 4)] x.t 1 [(17, 1), (s, 2), (x.a, 4), (x.b, 4), (x.n, 2), (4789, 2), (16 + (k : Int), 2), (0, 2), (8, 1), (x.m, 3), (x.v, 3), (0, 1)] (by omega) (by omega)
  have e6 : nm (venc x) 20 2 = x.n := by rw [hat _ _ (by omega)]; exact nm_seg [(17664, 2), (20 + (16 + (k : Int)), 2), (0, 4), (x.t, 1), (17, 1), (s, 2), (x.a, 4), (x.b, 4)] x.n 2 [(4789, 2), (16 + (k : Int), 2), (0, 2), (8, 1), (x.m, 3), (x.v, 3), (0, 1)] (by omega) (by omega)
  have e7 : nm (venc x) 32 3 = x.v := by rw [hat _ _ (by omega)]; exact nm_seg [(17664, 2), (20 + (16 + (k : Int)), 2), (0, 4), (x.t, 1), (17, 1), (s, 2), (x.a, 4), (x.b, 4), (x.n, 2), (4789, 2), (16 + (k : Int), 2), (0, 2), (8, 1), (x.m, 3)] x.v 3 [(0, 1)] (by omega) (by omega)
  have e8 : nm (venc x) 29 3 = x.m := by rw [hat _ _ (by omega)]; exact nm_seg [(17664, 2), (20 + (16 + (k : Int)), 2), (0, 4), (x.t, 1), (17, 1), (s, 2), (x.a, 4), (x.b, 4), (x.n, 2), (4789, 2), (16 + (k : Int), 2), (0, 2), (8, 1)] x.m 3 [(x.v, 3), (0, 1)] (by omega) (by omega)
  have hd : vdec (venc x) x.f = x := by unfold vdec; rw [e3, e4, e5, e6, e7, e8]
  unfold vread
  rw [if_neg (by omega), e1, if_neg (by decide), e2, if_neg (by decide), vdrop, hfr]
  dsimp only
  rw [hd, if_neg (by decide), if_pos ⟨hc, rfl⟩]

theorem vread_ok {bs : List Int} (h : (vread bs).2.1 = 0) : 36 ≤ bs.length ∧ (fread (bs.drop 36)).2.1 = 0 ∧ vchk (vread bs).1 = 0 ∧ venc (vread bs).1 = bs ∧ (vread bs).2.2 = 0 ∧ (vread bs).1 = vdec bs (fread (bs.drop 36)).1 := by
  unfold vread at h ⊢
  by_cases h1 : bs.length < 36
  · rw [if_pos h1] at h; simp at h
  rw [if_neg h1] at h ⊢
  by_cases h2 : nm bs 9 1 ≠ 17
  · rw [if_pos h2] at h; simp at h
  rw [if_neg h2] at h ⊢
  by_cases h3 : nm bs 22 2 ≠ 4789
  · rw [if_pos h3] at h; simp at h
  rw [if_neg h3] at h ⊢
  by_cases h4 : (fread (bs.drop 36)).2.1 ≠ 0
  · rw [if_pos h4] at h; exact absurd h h4
  rw [if_neg h4] at h ⊢
  by_cases h5 : vchk (vdec bs (fread (bs.drop 36)).1) = 0 ∧ venc (vdec bs (fread (bs.drop 36)).1) = bs
  · rw [if_pos h5]; exact ⟨by omega, by simpa using h4, h5.1, h5.2, rfl, rfl⟩
  · rw [if_neg h5] at h; simp at h
theorem vread_bad {bs : List Int} (h : (vread bs).2.1 ≠ 0) : (vread bs).1 = vp0 ∧ 0 ≤ (vread bs).2.2 ∧ (vread bs).2.2 ≤ bs.length := by
  unfold vread at h ⊢
  by_cases h1 : bs.length < 36
  · rw [if_pos h1]; exact ⟨rfl, by simp, Int.le_refl _⟩
  rw [if_neg h1] at h ⊢
  by_cases h2 : nm bs 9 1 ≠ 17
  · rw [if_pos h2]; exact ⟨rfl, by simp, by simp; omega⟩
  rw [if_neg h2] at h ⊢
  by_cases h3 : nm bs 22 2 ≠ 4789
  · rw [if_pos h3]; exact ⟨rfl, by simp, by simp; omega⟩
  rw [if_neg h3] at h ⊢
  by_cases h4 : (fread (bs.drop 36)).2.1 ≠ 0
  · rw [if_pos h4]
    obtain ⟨_, h5, h6⟩ := fread_bad h4
    have : (bs.drop 36).length = bs.length - 36 := List.length_drop
    exact ⟨rfl, by show 0 ≤ (fread (bs.drop 36)).2.2 + 36; omega, by show (fread (bs.drop 36)).2.2 + 36 ≤ _; omega⟩
  rw [if_neg h4] at h ⊢
  by_cases h5 : vchk (vdec bs (fread (bs.drop 36)).1) = 0 ∧ venc (vdec bs (fread (bs.drop 36)).1) = bs
  · rw [if_pos h5] at h; simp at h
  · rw [if_neg h5]; exact ⟨rfl, by simp, by simp⟩
theorem fread_ty {bs : List Int} (hby : ∀ v ∈ bs, 0 ≤ v ∧ v ≤ 255) (h : (fread bs).2.1 = 0) : (fread bs).1.ty := by
  rw [(fread_ok h).2.2.2.2.2]
  exact dcP_ty hby
theorem vdec_ty {bs : List Int} (hby : ∀ v ∈ bs, 0 ≤ v ∧ v ≤ 255) {f : FR} (hf : f.ty) : (vdec bs f).ty :=
  ⟨nm_u32 hby _ _ (by decide), nm_u32 hby _ _ (by decide), nm_i64 hby _ _ (by decide), nm_i64 hby _ _ (by decide), nm_u32 hby _ _ (by decide), nm_u32 hby _ _ (by decide), hf⟩
theorem vread_ty {bs : List Int} (hby : ∀ v ∈ bs, 0 ≤ v ∧ v ≤ 255) (h : (vread bs).2.1 = 0) : (vread bs).1.ty := by
  obtain ⟨_, h2, _, _, _, h6⟩ := vread_ok h
  rw [h6]
  exact vdec_ty hby (fread_ty (fun v hv => hby v (List.mem_of_mem_drop hv)) h2)

/-- The sum of a header. -/
theorem ghdr_sum (z t p s a b : Int) (h0 : 0 ≤ s) (h1 : s ≤ 65535) : wsum (ghdr z t p s a b) = s + wsum (ghdr z t p 0 a b) := by
  have key : ∀ (a b c : Int) (p q s : Int) (r : List Int), wsum ((be a 2 ++ be b 2 ++ be c 4 ++ be p 1 ++ be q 1 ++ be s 2) ++ r) = wsum (be a 2 ++ be b 2 ++ be c 4 ++ be p 1 ++ be q 1) + wsum (be s 2 ++ r) := by
    intro a b c p q s r
    simp only [be, List.cons_append, List.nil_append, List.append_assoc, wsum]
    omega
  have e : ∀ s, ghdr z t p s a b = (be 17664 2 ++ be z 2 ++ be 0 4 ++ be t 1 ++ be p 1 ++ be s 2) ++ (be a 4 ++ be b 4) := fun s => by
    unfold ghdr
    simp only [List.append_assoc]
  rw [e s, e 0, key, key, wsum_flat2 s _ h0 (by omega), wsum_flat2 0 _ (by omega) (by omega)]
  omega
theorem ghdr_pos (z t p a b : Int) : 0 < wsum (ghdr z t p 0 a b) := by
  have hb := ghdr_byte z t p 0 a b
  have e : ghdr z t p 0 a b = be 17664 2 ++ (be z 2 ++ be 0 4 ++ be t 1 ++ be p 1 ++ be 0 2 ++ be a 4 ++ be b 4) := by
    unfold ghdr
    simp only [List.append_assoc]
  rw [e] at hb ⊢
  rw [wsum_flat2 17664 _ (by omega) (by omega)]
  have := wsum_pos (l := be z 2 ++ be 0 4 ++ be t 1 ++ be p 1 ++ be 0 2 ++ be a 4 ++ be b 4) (fun v hv => (hb v (List.mem_append.2 (.inr hv))).1)
  omega
theorem ghdrS_wsum (z t p a b : Int) : ∃ m, 0 < m ∧ wsum (ghdrS z t p a b) = 65535 * m := by
  have h1 := sumP_le (ghdr z t p 0 a b) (ghdr_byte _ _ _ _ _ _)
  have h2 := sumP_ocs (ghdr_byte z t p 0 a b)
  have h3 := ghdr_pos z t p a b
  unfold ghdrS
  rw [ghdr_sum _ _ _ _ _ _ h1.1 h1.2, h2]
  unfold ocs
  rw [if_neg (by omega)]
  refine ⟨(wsum (ghdr z t p 0 a b) - 1) / 65535 + 1, by omega, by omega⟩
/-- A header with one byte changed is none. -/
theorem ghdrS_other {z t p a b z' t' p' a' b' : Int} (i : Nat) (hi : i < (ghdrS z t p a b).length) (v : Int) (h0 : 0 ≤ v) (h1 : v ≤ 255) (hy : ghdrS z' t' p' a' b' = (ghdrS z t p a b).set i v) : v = (ghdrS z t p a b)[i] := by
  obtain ⟨m, hm0, hm⟩ := ghdrS_wsum z t p a b
  obtain ⟨k, hk0, hk⟩ := ghdrS_wsum z' t' p' a' b'
  rw [hy, wsum_set _ _ _ hi, hm] at hk
  have hb := ghdrS_byte z t p a b _ (List.getElem_mem hi)
  unfold wt at hk
  split at hk <;> omega

end Go.Proofs.Ytgdfpmnbofnjfaa
