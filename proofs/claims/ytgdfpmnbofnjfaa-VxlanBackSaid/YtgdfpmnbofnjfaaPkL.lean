/- Packets, pure: what is read of an encoded frame. -/
import Derived.Test.YtgdfpmnbofnjfaaPkW
namespace Go.Proofs.Ytgdfpmnbofnjfaa
open Go.RowKit Go.Shelf
set_option linter.unusedVariables false
set_option linter.unusedSimpArgs false
set_option maxRecDepth 100000

/-- Numbers, one behind the other. -/
def flat : List (Int × Nat) → List Int
  | [] => []
  | (v, k) :: r => be v k ++ flat r
def tot : List (Int × Nat) → Nat
  | [] => 0
  | (_, k) :: r => k + tot r
theorem flat_len : ∀ l : List (Int × Nat), (flat l).length = tot l
  | [] => rfl
  | (v, k) :: r => by rw [flat, tot, List.length_append, be_length, flat_len r]
theorem flat_app : ∀ (a b : List (Int × Nat)), flat (a ++ b) = flat a ++ flat b
  | [], b => rfl
  | (v, k) :: r, b => by rw [List.cons_append, flat, flat, flat_app r b, List.append_assoc]
theorem nm_seg (a : List (Int × Nat)) (v : Int) (k : Nat) (b : List (Int × Nat)) (h0 : 0 ≤ v) (h1 : v < 256 ^ k) : nm (flat (a ++ (v, k) :: b)) (tot a) k = v := by
  unfold nm
  rw [flat_app, List.drop_left' (flat_len a), flat, List.take_left' (be_length v k)]
  exact num_be_fit v k h0 h1
theorem part_seg (a b c : List (Int × Nat)) : ((flat (a ++ (b ++ c))).drop (tot a)).take (tot b) = flat b := by
  rw [flat_app, flat_app, List.drop_left' (flat_len a), List.take_left' (flat_len b)]

def segD (x : FR) : List (Int × Nat) := [(x.d, 6), (x.s, 6), (34997, 2), (x.da, 8)]
def segA (x : FR) : List (Int × Nat) := [(x.d, 6), (x.s, 6), (2054, 2), (4429186564, 6), (x.op, 2), (x.sm, 6), (x.si, 4), (x.tm, 6), (x.ti, 4), (x.da, 8)]
def segH (x : FR) (sm : Int) : List (Int × Nat) := [(17664, 2), (hsz x, 2), (0, 4), (x.tl, 1), (x.pr, 1), (sm, 2), (x.hs, 4), (x.hd, 4)]
def segF (x : FR) (sm : Int) : List (Int × Nat) := [(x.d, 6), (x.s, 6), (2048, 2)] ++ (segH x sm ++ [(x.da, 8)])
def segT (x : FR) (sm : Int) : List (Int × Nat) := [(x.d, 6), (x.s, 6), (2048, 2)] ++ (segH x sm ++ [(x.sp, 2), (x.dp, 2), (16, 2), (0, 2), (x.da, 8)])
theorem hdr_seg (x : FR) (sm : Int) : hdr x sm = flat (segH x sm) := by
  simp only [hdr, segH, flat, List.append_nil, List.append_assoc]
theorem enc_d {x : FR} (hk : x.k = 0) : fenc x = flat (segD x) := by
  simp only [fenc, fbody, fcode, hk, segD, flat, List.append_nil, List.append_assoc]
  rfl
theorem enc_a {x : FR} (hk : x.k = 1) : fenc x = flat (segA x) := by
  have h : ([0, 1, 8, 0, 6, 4] : List Int) = be 4429186564 6 := by decide
  unfold fenc fbody fcode
  rw [if_pos hk, if_pos hk]
  simp only [bodyA, segA, flat, List.append_nil, List.append_assoc, h]
theorem enc_t {x : FR} (hk : x.k = 2) (hp : pd x.pr = true) : fenc x = flat (segT x (sumP (hdr x 0))) := by
  unfold fenc fbody fcode bodyH hdrS
  rw [if_neg (by omega), if_pos hk, if_neg (by omega), if_pos hk, if_pos hp, hdr_seg x (sumP (hdr x 0)), segT, flat_app, flat_app]
  simp only [flat, List.append_nil, List.append_assoc]
theorem enc_f {x : FR} (hk : x.k = 2) (hp : pd x.pr = false) : fenc x = flat (segF x (sumP (hdr x 0))) := by
  unfold fenc fbody fcode bodyH hdrS
  rw [if_neg (by omega), if_pos hk, if_neg (by omega), if_pos hk, if_neg (by rw [hp]; decide), hdr_seg x (sumP (hdr x 0)), segF, flat_app, flat_app]
  simp only [flat, List.append_nil, List.append_assoc]

theorem sameA_zero {x : FR} (h : x.sameA fr0 = true) : x.op = 0 ∧ x.sm = 0 ∧ x.si = 0 ∧ x.tm = 0 ∧ x.ti = 0 := by
  simpa [FR.sameA, fr0, and_assoc] using h
theorem sameH_zero {x : FR} (h : x.sameH fr0 = true) : x.hs = 0 ∧ x.hd = 0 ∧ x.tl = 0 ∧ x.pr = 0 ∧ x.sp = 0 ∧ x.dp = 0 := by
  simpa [FR.sameH, fr0, and_assoc] using h
theorem perr_zero {x : FR} (h : perr x = 0) : (x.k ≠ 1 → x.sameA fr0 = true) ∧ (x.k ≠ 2 → x.sameH fr0 = true) := by
  have hk := perr_k h
  unfold perr at h
  rw [if_neg (by omega)] at h
  split at h
  · omega
  rename_i h2
  refine ⟨fun h1 => ?_, fun h1 => ?_⟩
  · cases h3 : x.sameA fr0
    · exact absurd (.inl ⟨h1, h3⟩) h2
    · rfl
  · cases h3 : x.sameH fr0
    · exact absurd (.inr ⟨h1, h3⟩) h2
    · rfl

/-- **What is read of an encoded frame is that frame.** -/
theorem fread_enc {x : FR} (hx : x.ty) (hc : fchk x = 0) : fread (fenc x) = (x, 0, 0) := by
  obtain ⟨hs1, hd1, _, hpe, h1, h2⟩ := fchk_zero hc
  obtain ⟨hzA, hzH⟩ := perr_zero hpe
  have hs0 := hx.s.1
  have hd0 := hx.d.1
  obtain ⟨hda0, hda1⟩ := hx.da
  have key : szP (fenc x) = (((fenc x).length : Int), 0, 0) ∧ dcP (fenc x) = x := by
    rcases perr_k hpe with hk | hk | hk
    · have hE := enc_d hk
      have hl : (fenc x).length = 22 := by rw [hE, flat_len]; rfl
      have hcod : cod (fenc x) = 34997 := by rw [hE]; exact nm_seg [(x.d, 6), (x.s, 6)] 34997 2 [(x.da, 8)] (by omega) (by omega)
      refine ⟨by unfold szP; rw [if_neg (by omega), if_pos hcod, hl]; rfl, ?_⟩
      have e1 : nm (fenc x) 0 6 = x.d := by rw [hE]; exact nm_seg [] x.d 6 [(x.s, 6), (34997, 2), (x.da, 8)] (by omega) (by omega)
      have e2 : nm (fenc x) 6 6 = x.s := by rw [hE]; exact nm_seg [(x.d, 6)] x.s 6 [(34997, 2), (x.da, 8)] (by omega) (by omega)
      have e3 : nm (fenc x) 14 8 = x.da := by rw [hE]; exact nm_seg [(x.d, 6), (x.s, 6), (34997, 2)] x.da 8 [] (by omega) (by omega)
      obtain ⟨z1, z2, z3, z4, z5⟩ := sameA_zero (hzA (by omega))
      obtain ⟨z6, z7, z8, z9, z10, z11⟩ := sameH_zero (hzH (by omega))
      unfold dcP
      rw [if_neg (by omega), if_neg (by omega)]
      unfold dDF
      rw [e1, e2, e3]
      cases x
      simp_all
    · have hE := enc_a hk
      have hl : (fenc x).length = 50 := by rw [hE, flat_len]; rfl
      obtain ⟨⟨hop0, hop1⟩, ⟨hsm0, hsm1⟩, ⟨hsi0, hsi1⟩, ⟨htm0, htm1⟩, ⟨hti0, hti1⟩⟩ := hx.okA (h1 hk)
      have hcod : cod (fenc x) = 2054 := by rw [hE]; exact nm_seg [(x.d, 6), (x.s, 6)] 2054 2 [(4429186564, 6), (x.op, 2), (x.sm, 6), (x.si, 4), (x.tm, 6), (x.ti, 4), (x.da, 8)] (by omega) (by omega)
      refine ⟨by unfold szP; rw [if_neg (by omega), if_neg (by omega), if_pos hcod, hl]; rfl, ?_⟩
      have e1 : nm (fenc x) 0 6 = x.d := by rw [hE]; exact nm_seg [] x.d 6 [(x.s, 6), (2054, 2), (4429186564, 6), (x.op, 2), (x.sm, 6), (x.si, 4), (x.tm, 6), (x.ti, 4), (x.da, 8)] (by omega) (by omega)
      have e2 : nm (fenc x) 6 6 = x.s := by rw [hE]; exact nm_seg [(x.d, 6)] x.s 6 [(2054, 2), (4429186564, 6), (x.op, 2), (x.sm, 6), (x.si, 4), (x.tm, 6), (x.ti, 4), (x.da, 8)] (by omega) (by omega)
      have e3 : nm (fenc x) 20 2 = x.op := by rw [hE]; exact nm_seg [(x.d, 6), (x.s, 6), (2054, 2), (4429186564, 6)] x.op 2 [(x.sm, 6), (x.si, 4), (x.tm, 6), (x.ti, 4), (x.da, 8)] (by omega) (by omega)
      have e4 : nm (fenc x) 22 6 = x.sm := by rw [hE]; exact nm_seg [(x.d, 6), (x.s, 6), (2054, 2), (4429186564, 6), (x.op, 2)] x.sm 6 [(x.si, 4), (x.tm, 6), (x.ti, 4), (x.da, 8)] (by omega) (by omega)
      have e5 : nm (fenc x) 28 4 = x.si := by rw [hE]; exact nm_seg [(x.d, 6), (x.s, 6), (2054, 2), (4429186564, 6), (x.op, 2), (x.sm, 6)] x.si 4 [(x.tm, 6), (x.ti, 4), (x.da, 8)] (by omega) (by omega)
      have e6 : nm (fenc x) 32 6 = x.tm := by rw [hE]; exact nm_seg [(x.d, 6), (x.s, 6), (2054, 2), (4429186564, 6), (x.op, 2), (x.sm, 6), (x.si, 4)] x.tm 6 [(x.ti, 4), (x.da, 8)] (by omega) (by omega)
      have e7 : nm (fenc x) 38 4 = x.ti := by rw [hE]; exact nm_seg [(x.d, 6), (x.s, 6), (2054, 2), (4429186564, 6), (x.op, 2), (x.sm, 6), (x.si, 4), (x.tm, 6)] x.ti 4 [(x.da, 8)] (by omega) (by omega)
      have e8 : nm (fenc x) 42 8 = x.da := by rw [hE]; exact nm_seg [(x.d, 6), (x.s, 6), (2054, 2), (4429186564, 6), (x.op, 2), (x.sm, 6), (x.si, 4), (x.tm, 6), (x.ti, 4)] x.da 8 [] (by omega) (by omega)
      obtain ⟨z6, z7, z8, z9, z10, z11⟩ := sameH_zero (hzH (by omega))
      unfold dcP
      rw [if_pos hcod]
      unfold dAF
      rw [e1, e2, e3, e4, e5, e6, e7, e8]
      cases x
      simp_all
    · obtain ⟨⟨hhs0, hhs1⟩, ⟨hhd0, hhd1⟩, ⟨htl0, htl1⟩, ⟨hpr0, hpr1⟩, ⟨hsp0, hsp1⟩, ⟨hdp0, hdp1⟩⟩ := hx.okH (h2 hk)
      have hz := (ackH_zero (h2 hk)).2
      obtain ⟨z1, z2, z3, z4, z5⟩ := sameA_zero (hzA (by omega))
      have hsm := sumP_le (hdr x 0) (hdr_byte x 0)
      cases hp : pd x.pr
      · have hE := enc_f hk hp
        obtain ⟨sm, hsme⟩ : ∃ sm, sumP (hdr x 0) = sm := ⟨_, rfl⟩
        rw [hsme] at hE
        have hl : (fenc x).length = 42 := by rw [hE, flat_len]; rfl
        have hcod : cod (fenc x) = 2048 := by rw [hE]; exact nm_seg [(x.d, 6), (x.s, 6)] 2048 2 (segH x sm ++ [(x.da, 8)]) (by omega) (by omega)
        have e1 : nm (fenc x) 0 6 = x.d := by rw [hE]; exact nm_seg [] x.d 6 ([(x.s, 6), (2048, 2)] ++ (segH x sm ++ [(x.da, 8)])) (by omega) (by omega)
        have e2 : nm (fenc x) 6 6 = x.s := by rw [hE]; exact nm_seg [(x.d, 6)] x.s 6 ([(2048, 2)] ++ (segH x sm ++ [(x.da, 8)])) (by omega) (by omega)
        have e3 : nm (fenc x) 22 1 = x.tl := by rw [hE]; exact nm_seg [(x.d, 6), (x.s, 6), (2048, 2), (17664, 2), (hsz x, 2), (0, 4)] x.tl 1 [(x.pr, 1), (sm, 2), (x.hs, 4), (x.hd, 4), (x.da, 8)] (by omega) (by omega)
        have e4 : nm (fenc x) 23 1 = x.pr := by rw [hE]; exact nm_seg [(x.d, 6), (x.s, 6), (2048, 2), (17664, 2), (hsz x, 2), (0, 4), (x.tl, 1)] x.pr 1 [(sm, 2), (x.hs, 4), (x.hd, 4), (x.da, 8)] (by omega) (by omega)
        have e5 : nm (fenc x) 26 4 = x.hs := by rw [hE]; exact nm_seg [(x.d, 6), (x.s, 6), (2048, 2), (17664, 2), (hsz x, 2), (0, 4), (x.tl, 1), (x.pr, 1), (sm, 2)] x.hs 4 [(x.hd, 4), (x.da, 8)] (by omega) (by omega)
        have e6 : nm (fenc x) 30 4 = x.hd := by rw [hE]; exact nm_seg [(x.d, 6), (x.s, 6), (2048, 2), (17664, 2), (hsz x, 2), (0, 4), (x.tl, 1), (x.pr, 1), (sm, 2), (x.hs, 4)] x.hd 4 [(x.da, 8)] (by omega) (by omega)
        have e7 : nm (fenc x) 34 8 = x.da := by rw [hE]; exact nm_seg [(x.d, 6), (x.s, 6), (2048, 2), (17664, 2), (hsz x, 2), (0, 4), (x.tl, 1), (x.pr, 1), (sm, 2), (x.hs, 4), (x.hd, 4)] x.da 8 [] (by omega) (by omega)
        obtain ⟨z10, z11⟩ := hz hp
        refine ⟨by unfold szP; rw [if_neg (by omega), if_neg (by omega), if_neg (by omega), if_pos hcod, if_neg (by omega), e4, hp, hl]; rfl, ?_⟩
        unfold dcP
        rw [if_neg (by omega), if_pos hcod, e4, if_neg (by rw [hp]; decide)]
        unfold dHfF
        rw [e1, e2, e3, e4, e5, e6, e7]
        cases x
        simp_all
      · have hE := enc_t hk hp
        obtain ⟨sm, hsme⟩ : ∃ sm, sumP (hdr x 0) = sm := ⟨_, rfl⟩
        rw [hsme] at hE
        have hl : (fenc x).length = 50 := by rw [hE, flat_len]; rfl
        have hcod : cod (fenc x) = 2048 := by rw [hE]; exact nm_seg [(x.d, 6), (x.s, 6)] 2048 2 (segH x sm ++ [(x.sp, 2), (x.dp, 2), (16, 2), (0, 2), (x.da, 8)]) (by omega) (by omega)
        have e1 : nm (fenc x) 0 6 = x.d := by rw [hE]; exact nm_seg [] x.d 6 ([(x.s, 6), (2048, 2)] ++ (segH x sm ++ [(x.sp, 2), (x.dp, 2), (16, 2), (0, 2), (x.da, 8)])) (by omega) (by omega)
        have e2 : nm (fenc x) 6 6 = x.s := by rw [hE]; exact nm_seg [(x.d, 6)] x.s 6 ([(2048, 2)] ++ (segH x sm ++ [(x.sp, 2), (x.dp, 2), (16, 2), (0, 2), (x.da, 8)])) (by omega) (by omega)
        have e3 : nm (fenc x) 22 1 = x.tl := by rw [hE]; exact nm_seg [(x.d, 6), (x.s, 6), (2048, 2), (17664, 2), (hsz x, 2), (0, 4)] x.tl 1 [(x.pr, 1), (sm, 2), (x.hs, 4), (x.hd, 4), (x.sp, 2), (x.dp, 2), (16, 2), (0, 2), (x.da, 8)] (by omega) (by omega)
        have e4 : nm (fenc x) 23 1 = x.pr := by rw [hE]; exact nm_seg [(x.d, 6), (x.s, 6), (2048, 2), (17664, 2), (hsz x, 2), (0, 4), (x.tl, 1)] x.pr 1 [(sm, 2), (x.hs, 4), (x.hd, 4), (x.sp, 2), (x.dp, 2), (16, 2), (0, 2), (x.da, 8)] (by omega) (by omega)
        have e5 : nm (fenc x) 26 4 = x.hs := by rw [hE]; exact nm_seg [(x.d, 6), (x.s, 6), (2048, 2), (17664, 2), (hsz x, 2), (0, 4), (x.tl, 1), (x.pr, 1), (sm, 2)] x.hs 4 [(x.hd, 4), (x.sp, 2), (x.dp, 2), (16, 2), (0, 2), (x.da, 8)] (by omega) (by omega)
        have e6 : nm (fenc x) 30 4 = x.hd := by rw [hE]; exact nm_seg [(x.d, 6), (x.s, 6), (2048, 2), (17664, 2), (hsz x, 2), (0, 4), (x.tl, 1), (x.pr, 1), (sm, 2), (x.hs, 4)] x.hd 4 [(x.sp, 2), (x.dp, 2), (16, 2), (0, 2), (x.da, 8)] (by omega) (by omega)
        have e8 : nm (fenc x) 34 2 = x.sp := by rw [hE]; exact nm_seg [(x.d, 6), (x.s, 6), (2048, 2), (17664, 2), (hsz x, 2), (0, 4), (x.tl, 1), (x.pr, 1), (sm, 2), (x.hs, 4), (x.hd, 4)] x.sp 2 [(x.dp, 2), (16, 2), (0, 2), (x.da, 8)] (by omega) (by omega)
        have e9 : nm (fenc x) 36 2 = x.dp := by rw [hE]; exact nm_seg [(x.d, 6), (x.s, 6), (2048, 2), (17664, 2), (hsz x, 2), (0, 4), (x.tl, 1), (x.pr, 1), (sm, 2), (x.hs, 4), (x.hd, 4), (x.sp, 2)] x.dp 2 [(16, 2), (0, 2), (x.da, 8)] (by omega) (by omega)
        have e7 : nm (fenc x) 42 8 = x.da := by rw [hE]; exact nm_seg [(x.d, 6), (x.s, 6), (2048, 2), (17664, 2), (hsz x, 2), (0, 4), (x.tl, 1), (x.pr, 1), (sm, 2), (x.hs, 4), (x.hd, 4), (x.sp, 2), (x.dp, 2), (16, 2), (0, 2)] x.da 8 [] (by omega) (by omega)
        refine ⟨by unfold szP; rw [if_neg (by omega), if_neg (by omega), if_neg (by omega), if_pos hcod, if_neg (by omega), e4, hp, hl]; rfl, ?_⟩
        unfold dcP
        rw [if_neg (by omega), if_pos hcod, e4, if_pos hp]
        unfold dHtF
        rw [e1, e2, e3, e4, e5, e6, e7, e8, e9]
        cases x
        simp_all
  obtain ⟨k1, k2⟩ := key
  unfold fread
  rw [k1, k2]
  simp [hc]

end Go.Proofs.Ytgdfpmnbofnjfaa
