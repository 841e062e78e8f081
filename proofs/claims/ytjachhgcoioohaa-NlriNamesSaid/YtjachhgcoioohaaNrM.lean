/- NlriOnly: the walk. -/
import Derived.Test.YtjachhgcoioohaaNrL
import Derived.Test.YtjachhgcoioohaaNoC
import Derived.Deep.DeepCutAuto
namespace Go.Proofs.Ytjachhgcoioohaa
open Go.RowKit Go.Maps Go.Shelf
set_option linter.unusedVariables false
set_option linter.unusedSimpArgs false
set_option maxRecDepth 100000

theorem own_bel {w w' W : World} {B base size n : Nat} {e : TypeId} {v : Value} {xs : List Value} (h : w.ownsRow base e size v n xs) (hb : Below B W w) (hg : w.grownBy w' v.ownBlock) (hB : B ≤ w.heap.size) (hbase : B ≤ base) : Below B W w' :=
  hb.grown hg hB (fun g hg => by
    rcases h.2 with ⟨h9, _⟩ | ⟨g', cap', cur', h9, h10, _⟩
    · rw [h9] at hg; cases hg
    · have hgg : g' = g := by rw [h9] at hg; simpa [Value.ownBlock] using hg
      rw [← hgg]
      exact Nat.le_trans hbase h10)

theorem own_cap {W : World} {base size k n c : Nat} {e : TypeId} {A : Option Addr} {xs : List Value} (h : W.ownsRow base e size (.slice A n c) k xs) : k ≤ c := by
  rcases h.2 with ⟨_, rfl⟩ | ⟨g, cap, cur, h1, _, _, h4, _⟩
  · omega
  · injection h1 with _ _ h3
    omega

theorem below_drewN {B : Nat} {w W : World} (h : Below B w W) (n : Nat) : Below B w (W.drewN n) := ⟨h.os, h.tape, h.output, h.size, h.block⟩
theorem Arr.drewN {w : World} {v : Value} {xs : List Int} (h : Arr w v xs) (n : Nat) : Arr (w.drewN n) v xs := h

theorem only_long (A : Option Addr) (n c : Nat) (i : Int) (h : 400 < n) (hb : n ≤ 9223372036854775807) (w : World) :
    Calls Try.prog 7 #[.slice A n c, .int .i64 i] w (Fin4 w) := by
  go_enter Try.func7, Try.ntmps7
  go_wp2_with fail
  refine (lives4 _).mono ?_
  rintro en w1 ⟨rfl, hb1⟩
  go_wp2_with fail
  go_ret
  exact ⟨rfl, hb1⟩

set_option maxHeartbeats 2000000 in
theorem only_fault (A : Option Addr) (bs : List Int) (c : Nat) (i : Int) (hm : bs.length ≤ 400) (hc : bs.length ≤ c) (hcm : c ≤ 9223372036854775807) (hby : ∀ v ∈ bs, 0 ≤ v ∧ v ≤ 255) (w : World) (ha : Arr w (.slice A bs.length c) bs) (hf : (readP bs).2.1 ≠ 0) :
    Calls Try.prog 7 #[.slice A bs.length c, .int .i64 i] w (Fin4 w) := by
  obtain ⟨e1, e2, e3⟩ := readP_fault hf
  obtain ⟨ef, hef⟩ : ∃ ef, (readP bs).2.1 = ef := ⟨_, rfl⟩
  obtain ⟨ea, hea⟩ : ∃ ea, (readP bs).2.2 = ea := ⟨_, rfl⟩
  have HE := Lib.hid (And.intro hef (And.intro hea e1))
  rw [hef] at hf
  rw [hea] at e2 e3
  have hf' : (ef != 0) = true := by simpa using hf
  have HBy := Lib.hid hby
  have HA := Lib.hid ha
  clear hef hea e1 hf hby ha
  go_enter Try.func7, Try.ntmps7
  go_wp2_with fail
  refine (lives4 _).mono ?_
  rintro en w1 ⟨rfl, hb1⟩
  go_wp2_with fail
  refine (read_arr _ bs _ (HA.out.below hb1) ⟨A, bs.length, c, rfl, hc, hcm⟩ (by omega) HBy.out).mono ?_
  rintro en w2 ⟨v, rfl, hown, hb2⟩
  rw [HE.out.1, HE.out.2.1]
  rw [HE.out.2.2] at hown
  obtain ⟨A5, c5, rfl⟩ := own_form hown
  have HB2 : Hid (Below w.heap.size w w2) := Lib.hid (hb1.trans (hb2.mono hb1.size))
  clear hown hb1 hb2
  go_wp2_with fail
  go_ret
  exact ⟨rfl, (HB2.out.alloc HB2.out.size _)⟩

set_option maxHeartbeats 4000000 in
theorem only_ok (A : Option Addr) (bs : List Int) (c : Nat) (i : Int) (hm : bs.length ≤ 400) (hc : bs.length ≤ c) (hcm : c ≤ 9223372036854775807) (hby : ∀ v ∈ bs, 0 ≤ v ∧ v ≤ 255) (w : World) (ha : Arr w (.slice A bs.length c) bs) (hf : (readP bs).2.1 = 0) :
    Calls Try.prog 7 #[.slice A bs.length c, .int .i64 i] w (Fin4 w) := by
  obtain ⟨hback, hz⟩ := readP_back hf
  obtain ⟨L, hL⟩ : ∃ L, (readP bs).1 = L := ⟨_, rfl⟩
  have hty := readP_ty hby
  have hck := readP_chk bs
  rw [hL] at hback hty hck
  have hLl := encs_len_le L
  rw [hback] at hLl
  have HE := Lib.hid (And.intro hf (And.intro hz hL))
  have HL : Hid (∀ x ∈ L, x.ty ∧ chk x = 0) := Lib.hid (fun x hx => ⟨hty x hx, hck x hx⟩)
  have HBk := Lib.hid hback
  have HBy := Lib.hid hby
  have HA := Lib.hid ha
  obtain ⟨m, hmi⟩ : ∃ m : Nat, i % ((bs.length : Int) + 1) = m := ⟨(i % ((bs.length : Int) + 1)).toNat, by have := Int.emod_nonneg i (show (bs.length : Int) + 1 ≠ 0 by omega); omega⟩
  have hml : m ≤ bs.length := by have := Int.emod_lt_of_pos i (show 0 < (bs.length : Int) + 1 by omega); omega
  have HM := Lib.hid hmi
  clear hf hz hL hty hck hback hby ha hmi
  go_enter Try.func7, Try.ntmps7
  go_wp2_with fail
  refine (lives4 _).mono ?_
  rintro en w1 ⟨rfl, hb1⟩
  go_wp2_with fail
  refine (read_arr _ bs _ (HA.out.below hb1) ⟨A, bs.length, c, rfl, hc, hcm⟩ (by omega) HBy.out).mono ?_
  rintro en w2 ⟨v, rfl, hown, hb2⟩
  rw [HE.out.1, HE.out.2.1]
  rw [HE.out.2.2] at hown
  obtain ⟨A5, c5, rfl⟩ := own_form hown
  have HN2 : Hid (Nls w2 (.slice A5 L.length c5) L) := Lib.hid (own_nls hown)
  have hc5 := own_cap hown
  have HB2 : Hid (Below w.heap.size w w2) := Lib.hid (hb1.trans (hb2.mono hb1.size))
  clear hown hb1 hb2
  go_wp2_with fail
  refine (pick_any i _ (by omega) (by omega) _).mono ?_
  rintro en w3 ⟨rfl, rfl⟩
  rw [HM.out]
  have HN3 : Hid (Nls (w2.alloc (.cells #[.int .i64 0, .int .i64 0] 40)) (.slice A5 L.length c5) L) := Lib.hid (HN2.out.below ((Below.refl _ w2).alloc (Nat.le_refl _) _))
  have HB3 : Hid (Below w.heap.size w (w2.alloc (.cells #[.int .i64 0, .int .i64 0] 40))) := Lib.hid (HB2.out.alloc HB2.out.size _)
  clear HN2 HB2
  obtain ⟨W3, hW3⟩ : ∃ W3, w2.alloc (.cells #[.int .i64 0, .int .i64 0] 40) = W3 := ⟨_, rfl⟩
  rw [hW3] at HN3 HB3 ⊢
  clear hW3
  go_wp2_with fail
  go_loopw [7, 8, 9, 10] (fun a s ins iv wr => ∃ (k st : Nat) (b : Bool) (A7 : Option Addr) (c7 : Nat), k ≤ L.length ∧ a = .slice A7 (encs (L.take k)).length c7 ∧ s = .int .i64 st ∧ ins = .bool b ∧ iv = .int .i64 k ∧ CutAt L m k st b ∧ wr.ownsRow W3.heap.size 5 1 (.slice A7 (encs (L.take k)).length c7) (encs (L.take k)).length (u8s (encs (L.take k))) ∧ Below W3.heap.size W3 wr) (fun _ _ _ iv _ => L.length - (intOf iv).toNat)
  case atStart => exact ⟨0, 0, false, none, 0, Nat.zero_le _, rfl, rfl, rfl, rfl, CutAt.start L m, World.ownsRow_nil _ _ _ _, Below.refl _ _⟩
  case round =>
    obtain ⟨k, st, b, A7, c7, hk, rfl, rfl, rfl, rfl, hcut, hown, hbw⟩ := hrel
    have hel : (encs (L.take k)).length ≤ bs.length := by
      have := congrArg List.length (encs_split L k)
      rw [List.length_append, HBk.out] at this
      omega
    have HCut := Lib.hid hcut
    have HOwn := Lib.hid hown
    have HBw := Lib.hid hbw
    clear hcut hown hbw
    by_cases hlt : k < L.length
    · obtain ⟨b5, o5, c5', h5, hr5⟩ : ∃ b o c, (Value.slice A5 L.length c5) = .slice (some ⟨b, o, none⟩) L.length c ∧ W3.rangeAt b o (flatN L) := by
        rcases HN3.out with ⟨_, h1⟩ | h1
        · rw [h1] at hlt; simp at hlt
        · exact h1
      injection h5 with h5 _ h6
      subst h5 h6
      have HX : Hid (wr.rangeAt b5 (o5 + k * 21) L[k].l) := Lib.hid (range_below (range_at hr5 k hlt) HBw.out)
      have htk := encs_take L k hlt
      have HTk := Lib.hid htk
      have hnext : (encs (L.take (k + 1))).length ≤ bs.length := by
        have := congrArg List.length (encs_split L (k + 1))
        rw [List.length_append, HBk.out] at this
        omega
      rw [htk, List.length_append] at hnext
      obtain ⟨hxt, hxc⟩ := HL.out _ (List.getElem_mem hlt)
      obtain ⟨x, hx⟩ : ∃ x, L[k] = x := ⟨_, rfl⟩
      have HXe := Lib.hid hx
      rw [hx] at HX hxt hxc hnext
      have HTy := Lib.hid (And.intro hxt hxc)
      obtain ⟨P, hP⟩ : ∃ P, encs (L.take k) = P := ⟨_, rfl⟩
      have HP := Lib.hid hP
      rw [hP] at HOwn hel hnext ⊢
      have hel1 := enc_len x
      obtain ⟨E, hE⟩ : ∃ E, (enc x).length = E := ⟨_, rfl⟩
      have HEl := Lib.hid hE
      rw [hE] at hnext
      clear hr5 htk hx hP hxt hxc hel1 hE
      obtain ⟨i0, hi0, hz0, hz1, hz2⟩ := info_parts info_u8
      have HN : Hid ((encs (L.take (k + 1))).length = P.length + E ∧ u8s (encs (L.take (k + 1))) = u8s P ++ u8s (enc x)) := Lib.hid (by rw [HTk.out, HP.out, HXe.out, List.length_append, HEl.out]; exact ⟨rfl, by simp [u8s]⟩)
      by_cases hin : P.length < m ∧ m < P.length + E
      · obtain ⟨hin1, hin2⟩ := hin
        go_wp2_with (first
          | (refine wpList_load_mid rfl 36 (.tmp 57) rfl b5 (o5 + k * 21) rfl x.l _ HX.out Try.underlying36 rfl (nl_fit_l x) ?_)
          | (go_at_call 10; refine (bytes_yes x HTy.out.1 HTy.out.2 _).mono ?_; rintro en w9 ⟨b9, c9, rfl, hrow9, hsz9, hb9⟩; have HOw9 := Lib.hid (own_keep HOwn.out hb9); have HB9 : Hid (Below W3.heap.size W3 w9) := Lib.hid (HBw.out.trans (hb9.mono HBw.out.size)); have HR9 := Lib.hid hrow9; rw [HEl.out]; clear hrow9 hsz9 hb9)
          | (at_builtin; refine wpList_append_own _ rfl _ _ 23 rfl W3.heap.size 5 i0 (.int .u8 0) 1 1 Try.underlying23 hi0 hz0 hz1 hz2 rfl (by decide) _ _ _ rfl HOw9.out ⟨b9, 0, none⟩ E c9 (u8s (enc x)) rfl (by simp [HEl.out]) (Sl.at_ HR9.out.all) (u8s_one _) (by unfold maxLen; omega) (by omega) HB9.out.size ?_; intro v8 w10 hown8 hgrow8 hnil8; obtain ⟨A8, c8, rfl⟩ := own_form hown8; have HO8 := Lib.hid hown8; have HB10 : Hid (Below W3.heap.size W3 w10) := Lib.hid (own_bel HOw9.out HB9.out hgrow8 HB9.out.size (Nat.le_refl _)); clear hown8 hgrow8 hnil8))
        go_roundw
        case rel =>
          refine ⟨k + 1, P.length, true, A8, c8, by omega, by rw [HN.out.1], rfl, rfl, by go_num, by have h8 := HCut.out.hit hlt (by rw [HP.out]; exact hin1) (by rw [HP.out, HXe.out, HEl.out]; exact hin2); rw [HP.out] at h8; exact h8, ?_, HB10.out⟩
          have h9 := HO8.out
          rw [HN.out.1, HN.out.2]
          exact h9
        case measure => simp [intOf]; omega
      · have HCm : Hid (CutAt L m (k + 1) st b) := Lib.hid (HCut.out.miss hlt (by rw [HP.out, HXe.out, HEl.out]; exact hin))
        by_cases hin1 : P.length < m
        · have hin2 : ¬ m < P.length + E := fun h => hin ⟨hin1, h⟩
          go_wp2_with (first
            | (refine wpList_load_mid rfl 36 (.tmp 57) rfl b5 (o5 + k * 21) rfl x.l _ HX.out Try.underlying36 rfl (nl_fit_l x) ?_)
            | (go_at_call 10; refine (bytes_yes x HTy.out.1 HTy.out.2 _).mono ?_; rintro en w9 ⟨b9, c9, rfl, hrow9, hsz9, hb9⟩; have HOw9 := Lib.hid (own_keep HOwn.out hb9); have HB9 : Hid (Below W3.heap.size W3 w9) := Lib.hid (HBw.out.trans (hb9.mono HBw.out.size)); have HR9 := Lib.hid hrow9; rw [HEl.out]; clear hrow9 hsz9 hb9)
            | (at_builtin; refine wpList_append_own _ rfl _ _ 23 rfl W3.heap.size 5 i0 (.int .u8 0) 1 1 Try.underlying23 hi0 hz0 hz1 hz2 rfl (by decide) _ _ _ rfl HOw9.out ⟨b9, 0, none⟩ E c9 (u8s (enc x)) rfl (by simp [HEl.out]) (Sl.at_ HR9.out.all) (u8s_one _) (by unfold maxLen; omega) (by omega) HB9.out.size ?_; intro v8 w10 hown8 hgrow8 hnil8; obtain ⟨A8, c8, rfl⟩ := own_form hown8; have HO8 := Lib.hid hown8; have HB10 : Hid (Below W3.heap.size W3 w10) := Lib.hid (own_bel HOw9.out HB9.out hgrow8 HB9.out.size (Nat.le_refl _)); clear hown8 hgrow8 hnil8))
          go_roundw
          case rel =>
            refine ⟨k + 1, st, b, A8, c8, by omega, by rw [HN.out.1], rfl, rfl, by go_num, HCm.out, ?_, HB10.out⟩
            have h9 := HO8.out
            rw [HN.out.1, HN.out.2]
            exact h9
          case measure => simp [intOf]; omega
        · go_wp2_with (first
            | (refine wpList_load_mid rfl 36 (.tmp 57) rfl b5 (o5 + k * 21) rfl x.l _ HX.out Try.underlying36 rfl (nl_fit_l x) ?_)
            | (go_at_call 10; refine (bytes_yes x HTy.out.1 HTy.out.2 _).mono ?_; rintro en w9 ⟨b9, c9, rfl, hrow9, hsz9, hb9⟩; have HOw9 := Lib.hid (own_keep HOwn.out hb9); have HB9 : Hid (Below W3.heap.size W3 w9) := Lib.hid (HBw.out.trans (hb9.mono HBw.out.size)); have HR9 := Lib.hid hrow9; rw [HEl.out]; clear hrow9 hsz9 hb9)
            | (at_builtin; refine wpList_append_own _ rfl _ _ 23 rfl W3.heap.size 5 i0 (.int .u8 0) 1 1 Try.underlying23 hi0 hz0 hz1 hz2 rfl (by decide) _ _ _ rfl HOw9.out ⟨b9, 0, none⟩ E c9 (u8s (enc x)) rfl (by simp [HEl.out]) (Sl.at_ HR9.out.all) (u8s_one _) (by unfold maxLen; omega) (by omega) HB9.out.size ?_; intro v8 w10 hown8 hgrow8 hnil8; obtain ⟨A8, c8, rfl⟩ := own_form hown8; have HO8 := Lib.hid hown8; have HB10 : Hid (Below W3.heap.size W3 w10) := Lib.hid (own_bel HOw9.out HB9.out hgrow8 HB9.out.size (Nat.le_refl _)); clear hown8 hgrow8 hnil8))
          go_roundw
          case rel =>
            refine ⟨k + 1, st, b, A8, c8, by omega, by rw [HN.out.1], rfl, rfl, by go_num, HCm.out, ?_, HB10.out⟩
            have h9 := HO8.out
            rw [HN.out.1, HN.out.2]
            exact h9
          case measure => simp [intOf]; omega
    · have hke : k = L.length := by omega
      subst hke
      rw [List.take_length, HBk.out] at HOwn hel ⊢
      have HWb : Hid (Below w.heap.size w wr) := Lib.hid (HB3.out.trans (HBw.out.mono HB3.out.size))
      have HNw : Hid (Nls wr (.slice A5 L.length c5) L) := Lib.hid (HN3.out.below HBw.out)
      have HAll : Hid (Arr wr (.slice A7 bs.length c7) bs) := Lib.hid (by
        rcases HOwn.out.2 with ⟨h1, h2⟩ | ⟨g, cap, cur, h1, h2, h3, h4, h5, h6, h7⟩
        · rw [h1]
          exact .inl ⟨rfl, List.eq_nil_of_length_eq_zero h2⟩
        · rw [h1]
          refine .inr ⟨_, cap, rfl, fun j u hu => ?_⟩
          have hh : Has wr g 5 cur := h3
          rw [Addr.add_mid, Nat.zero_add, hh.cell j, ← Array.getElem?_toList]
          rw [← h7, List.getElem?_take] at hu
          split at hu
          · exact hu
          · cases hu)
      have HAw : Hid (Arr wr (.slice A bs.length c) bs) := Lib.hid (HA.out.below HWb.out)
      have HTk : Hid (Arr wr (.slice A m c) (bs.take m)) := Lib.hid (HAw.out.take m hml)
      have hdone := HCut.out.done HL.out (by rw [HBk.out]; exact hml)
      rw [HBk.out] at hdone
      have hmc : m ≤ c := by omega
      have HBt : Hid (∀ v ∈ bs.take m, 0 ≤ v ∧ v ≤ 255) := Lib.hid (fun v hv => HBy.out v (List.mem_of_mem_take hv))
      have hlt9 : (bs.take m).length ≤ 4000 := by simp; omega
      have HC := Lib.hid (show ∃ A0 n0 c0, (Value.slice A m c) = .slice A0 n0 c0 ∧ n0 ≤ c0 ∧ c0 ≤ 9223372036854775807 from ⟨A, m, c, rfl, hmc, hcm⟩)
      clear HOwn HBw HN3 HB3 HA HL HE HCut HM
      rcases hdone with ⟨rfl, hr⟩ | ⟨rfl, m1, hm1, hr⟩
      · have HR := Lib.hid hr
        clear hr
        go_wp2_with fail
        refine (read_arr (.slice A m c) (bs.take m) wr HTk.out HC.out hlt9 HBt.out).mono ?_
        rintro en w9 ⟨v13, rfl, hown13, hb9⟩
        rw [HR.out] at hown13 ⊢
        obtain ⟨A13, c13, rfl⟩ := own_form hown13
        have HB9 : Hid (Below w.heap.size w w9) := Lib.hid (HWb.out.trans (hb9.mono HWb.out.size))
        have HX9 : Hid (Arr w9 (.slice A7 bs.length c7) bs ∧ Arr w9 (.slice A bs.length c) bs) := Lib.hid ⟨HAll.out.below hb9, HAw.out.below hb9⟩
        have hne := neq_ft 4 (st : Int) 4 (st : Int)
        simp only [beq_self_eq_true, Bool.and_self, Bool.not_true] at hne
        clear hown13 hb9
        go_wp2_with fail
        refine (same_yes _ _ bs _ (HX9.out.1.below ((Below.refl _ w9).alloc (Nat.le_refl _) _)) (HX9.out.2.below ((Below.refl _ w9).alloc (Nat.le_refl _) _)) (by omega)).mono ?_
        rintro en w10 ⟨rfl, q, rfl⟩
        go_wp2_with fail
        go_ret
        exact ⟨rfl, below_drewN (HB9.out.alloc HB9.out.size _) q⟩
      · have HR := Lib.hid hr
        clear hr
        have hl1 : (L.take m1).length = m1 := by simp; omega
        go_wp2_with fail
        refine (read_arr (.slice A m c) (bs.take m) wr HTk.out HC.out hlt9 HBt.out).mono ?_
        rintro en w9 ⟨v13, rfl, hown13, hb9⟩
        rw [HR.out] at hown13 ⊢
        have hn13 := own_nls hown13
        rw [hl1] at hown13
        obtain ⟨A13, c13, rfl⟩ := own_form hown13
        have HB9 : Hid (Below w.heap.size w w9) := Lib.hid (HWb.out.trans (hb9.mono HWb.out.size))
        have HX9 : Hid (Arr w9 (.slice A7 bs.length c7) bs ∧ Arr w9 (.slice A bs.length c) bs) := Lib.hid ⟨HAll.out.below hb9, HAw.out.below hb9⟩
        have HY9 : Hid (Nls w9 (.slice A13 m1 c13) (L.take m1) ∧ Nls w9 (.slice A5 m1 c5) (L.take m1)) := Lib.hid ⟨hn13, (HNw.out.take m1 hm1).below hb9⟩
        have hne := neq_ft 0 0 0 0
        simp only [beq_self_eq_true, Bool.and_self, Bool.not_true] at hne
        clear hown13 hb9 hn13 hl1
        go_wp2_with fail
        refine (same_nl _ _ (L.take m1) _ (HY9.out.1.below ((Below.refl _ w9).alloc (Nat.le_refl _) _)) (HY9.out.2.below ((Below.refl _ w9).alloc (Nat.le_refl _) _)) (by simp; omega)).mono ?_
        rintro en w10 ⟨rfl, q, rfl⟩
        go_wp2_with fail
        refine (same_yes _ _ bs _ (Arr.drewN (HX9.out.1.below ((Below.refl _ w9).alloc (Nat.le_refl _) _)) q) (Arr.drewN (HX9.out.2.below ((Below.refl _ w9).alloc (Nat.le_refl _) _)) q) (by omega)).mono ?_
        rintro en w11 ⟨rfl, q2, rfl⟩
        go_wp2_with fail
        go_ret
        exact ⟨rfl, below_drewN (HB9.out.alloc HB9.out.size _) (q + q2)⟩

theorem only_any (A : Option Addr) (bs : List Int) (c : Nat) (i : Int) (hc : bs.length ≤ c) (hcm : c ≤ 9223372036854775807) (hby : ∀ v ∈ bs, 0 ≤ v ∧ v ≤ 255) (w : World) (ha : Arr w (.slice A bs.length c) bs) :
    Calls Try.prog 7 #[.slice A bs.length c, .int .i64 i] w (Fin4 w) := by
  by_cases hm : bs.length ≤ 400
  · by_cases hf : (readP bs).2.1 = 0
    · exact only_ok A bs c i hm hc hcm hby w ha hf
    · exact only_fault A bs c i hm hc hcm hby w ha hf
  · exact only_long A _ c i (by omega) (by omega) w

end Go.Proofs.Ytjachhgcoioohaa
