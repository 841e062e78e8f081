/- Routes: the document's put and address. -/
import Derived.Test.YthhajknmokomjaaZNcD
namespace Go.Proofs.Ythhajknmokomjaa
open Go.RowKit Go.Maps Go.Shelf
set_option linter.unusedVariables false
set_option linter.unusedSimpArgs false
set_option maxRecDepth 100000

/-- A slice of bytes that the call owns. -/
def Ou (w : World) (B : Nat) (v : Value) (xs : List Int) : Prop := w.ownsRow B 5 1 v xs.length (u8s xs)
theorem Ou.nil (w : World) (B : Nat) : Ou w B (.slice none 0 0) [] := World.ownsRow_nil _ _ _ _
theorem Ou.below {w w' : World} {B : Nat} {v : Value} {xs : List Int} (h : Ou w B v xs) (hb : Below w.heap.size w w') : Ou w' B v xs := own_keep h hb
theorem Ou.form {w : World} {B : Nat} {v : Value} {xs : List Int} (h : Ou w B v xs) : ∃ A c, v = .slice A xs.length c := own_form h
/-- More bytes behind. -/
def More (w : World) (B : Nat) (ys : List Int) (e : Ending) (w' : World) : Prop := ∃ A c, e = .returned (.slice A ys.length c) ∧ Ou w' B (.slice A ys.length c) ys ∧ Below B w w'

theorem one_more {w' : World} {B : Nat} {v' : Value} {xs : List Int} {b : Int} {k : Nat} (hk : k = xs.length) (h : w'.ownsRow B 5 1 v' (k + 1) (u8s xs ++ [.int .u8 b])) : Ou w' B v' (xs ++ [b]) := by
  subst hk
  unfold Ou
  rw [List.length_append]
  simpa [u8s] using h

set_option maxHeartbeats 1000000 in
theorem rput (B : Nat) (v : Value) (xs : List Int) (n : Int) (k : Nat) (h0 : 0 ≤ n) (h1 : n < 18446744073709551616) (hk : k ≤ 8) (hk1 : 1 ≤ k) (hx : xs.length ≤ 1000) (w : World) (h : Ou w B v xs) (hB : B ≤ w.heap.size) :
    Calls Try.prog 26 #[v, .int .u64 n, .int .i64 k] w (More w B (xs ++ be n k)) := by
  obtain ⟨A, c, rfl⟩ := h.form
  obtain ⟨i0, hi0, hz0, hz1, hz2⟩ := info_parts info_u8
  have HO := Lib.hid h
  clear h
  go_enter Try.func26, Try.ntmps26
  go_wp2_with fail
  go_loopw [0, 7] (fun v i wr => ∃ (j : Nat) (A2 : Option Addr) (c2 : Nat), j ≤ k ∧ v = .slice A2 (xs ++ (be n k).take j).length c2 ∧ i = .int .i64 ((k : Int) - 1 - (j : Int)) ∧ Ou wr B v (xs ++ (be n k).take j) ∧ Below B w wr) (fun _ i _ => (intOf i + 1).toNat)
  case atStart => exact ⟨0, A, c, Nat.zero_le _, by simp, by go_num, by simpa using HO.out, Below.refl _ _⟩
  case round =>
    obtain ⟨j, A2, c2, hj, rfl, rfl, hou, hbel⟩ := hrel
    obtain ⟨ys, hys⟩ : ∃ ys, xs ++ (be n k).take j = ys := ⟨_, rfl⟩
    have hyl : ys.length = xs.length + j := by rw [← hys]; simp [be_length]; omega
    rw [hys] at hou ⊢
    obtain ⟨m, hm⟩ : ∃ m, ys.length = m := ⟨_, rfl⟩
    have HM := Lib.hid hm
    unfold Ou at hou
    rw [hm] at hyl hou ⊢
    have HYs := Lib.hid hys
    have HOu := Lib.hid hou
    have HBel := Lib.hid hbel
    have hyl1 : m ≤ xs.length + j := by omega
    clear hys hou hbel hm hyl
    by_cases hlt : j < k
    · have hstep := be_take_succ n k j hlt
      have e1 : ((k : Int) - 1 - (j : Int)).toNat = k - 1 - j := by omega
      have e2 : (0 : Int) ≤ (k : Int) - 1 - (j : Int) := by omega
      have e3 : IntKind.i64.wrap (8 * ((k : Int) - 1 - (j : Int))) = 8 * ((k : Int) - 1 - (j : Int)) := IntWalk.i64_in _ (by omega)
      have e4 : (0 : Int) ≤ 8 * ((k : Int) - 1 - (j : Int)) := by omega
      have e5 : (8 * ((k : Int) - 1 - (j : Int))).toNat = 8 * (k - 1 - j) := by omega
      obtain ⟨b, hb⟩ : ∃ b, IntKind.u8.wrap (n / 2 ^ (8 * (k - 1 - j))) = b := ⟨_, rfl⟩
      have hb2 : n / 256 ^ (k - 1 - j) % 256 = b := by rw [← hb, pow_eight]; rfl
      rw [hb2] at hstep
      have HSt := Lib.hid hstep
      clear hb2 hstep
      have HOk : Hid ((wr.alloc (.cells #[.int .u8 b] 5)).ownsRow B 5 1 (.slice A2 m c2) m (u8s ys)) := Lib.hid (own_keep HOu.out ((Below.refl _ wr).alloc (Nat.le_refl _) (.cells #[.int .u8 b] 5)))
      have HBk : Hid (Below B w (wr.alloc (.cells #[.int .u8 b] 5))) := Lib.hid (HBel.out.alloc (Nat.le_trans hB HBel.out.size) _)
      have HSz : Hid (B ≤ (wr.alloc (.cells #[.int .u8 b] 5)).heap.size) := Lib.hid (Nat.le_trans hB HBk.out.size)
      have hm1 : m + 1 ≤ 2000 := by omega
      go_wp2_with (at_builtin; refine wpList_append_own _ rfl (.tmp 14) (.tmp 20) 34 rfl B 5 i0 (.int .u8 0) 1 1 Try.underlying34 hi0 hz0 hz1 hz2 rfl (by decide) (.slice A2 m c2) m (u8s ys) rfl HOk.out ⟨wr.heap.size, 0, none⟩ 1 1 [.int .u8 b] rfl rfl news_block (by simp [Value.oneCell']) (by unfold maxLen; omega) (by omega) HSz.out ?_; intro v2 w2 hown2 hgrow2 hnil2; obtain ⟨A3, c3, rfl⟩ := own_form hown2; have HO2 := Lib.hid (one_more HM.out.symm hown2); have HB2 : Hid (Below B w w2) := Lib.hid (own_bel HOk.out HBk.out hgrow2 HSz.out (Nat.le_refl _)); clear hown2 hgrow2 hnil2)
      go_roundw
      case rel =>
        have e9 : xs ++ (be n k).take (j + 1) = ys ++ [b] := by rw [HSt.out, ← HYs.out, List.append_assoc]
        refine ⟨j + 1, A3, c3, by omega, by rw [e9, List.length_append, HM.out]; rfl, by go_num, ?_, HB2.out⟩
        rw [e9]
        exact HO2.out
      case measure => simp [intOf]; omega
    · have hjk : j = k := by omega
      subst hjk
      have ez : ((j : Int) - 1 - (j : Int)) = -1 := by omega
      have HF : Hid (xs ++ be n j = ys) := Lib.hid (by rw [← HYs.out, List.take_of_length_le (by simp [be_length])])
      go_wp2_with fail
      go_ret
      refine ⟨A2, c2, ?_, ?_, HBel.out⟩
      · rw [HF.out, HM.out]; rfl
      · rw [HF.out]; unfold Ou; rw [HM.out]; exact HOu.out

def adr (ip : Int) (is : Bool) : List Int := if is then [32] ++ be ip 4 else [0]
set_option maxHeartbeats 1000000 in
theorem radr (B : Nat) (v : Value) (xs : List Int) (ip : Int) (is : Bool) (h0 : 0 ≤ ip ∧ ip < 4294967296) (hx : xs.length ≤ 900) (w : World) (h : Ou w B v xs) (hB : B ≤ w.heap.size) :
    Calls Try.prog 27 #[v, .int .u32 ip, .bool is] w (More w B (xs ++ adr ip is)) := by
  obtain ⟨A, c, rfl⟩ := h.form
  obtain ⟨i0, hi0, hz0, hz1, hz2⟩ := info_parts info_u8
  have HO := Lib.hid h
  have HBw : Hid (B ≤ w.heap.size) := Lib.hid hB
  have HIp := Lib.hid h0
  obtain ⟨m, hm⟩ : ∃ m, xs.length = m := ⟨_, rfl⟩
  have HM := Lib.hid hm
  unfold Ou at h
  rw [hm] at h hx ⊢
  have HOu := Lib.hid h
  clear h hm HO h0 hB
  have hm1 : m + 1 ≤ 1000 := by omega
  have hmod : ip % 18446744073709551616 = ip := by have := HIp.out; omega
  have hwi : IntKind.u64.wrap ip = ip := by
    have e : IntKind.u64.wrap ip = ip % 18446744073709551616 := by rfl
    rw [e]; exact hmod
  cases is
  · have HOk : Hid ((w.alloc (.cells #[.int .u8 0] 5)).ownsRow B 5 1 (.slice A m c) m (u8s xs)) := Lib.hid (own_keep HOu.out ((Below.refl _ w).alloc (Nat.le_refl _) (.cells #[.int .u8 0] 5)))
    have HBk : Hid (Below B w (w.alloc (.cells #[.int .u8 0] 5))) := Lib.hid ((Below.refl _ w).alloc HBw.out _)
    have HSz : Hid (B ≤ (w.alloc (.cells #[.int .u8 0] 5)).heap.size) := Lib.hid (Nat.le_trans HBw.out HBk.out.size)
    go_enter Try.func27, Try.ntmps27
    go_wp2_with (at_builtin; refine wpList_append_own _ rfl (.tmp 9) (.tmp 10) 34 rfl B 5 i0 (.int .u8 0) 1 1 Try.underlying34 hi0 hz0 hz1 hz2 rfl (by decide) (.slice A m c) m (u8s xs) rfl HOk.out ⟨w.heap.size, 0, none⟩ 1 1 [.int .u8 0] rfl rfl news_block (by simp [Value.oneCell']) (by unfold maxLen; omega) (by omega) HSz.out ?_; intro v2 w2 hown2 hgrow2 hnil2; obtain ⟨A3, c3, rfl⟩ := own_form hown2; have HO2 := Lib.hid (one_more HM.out.symm hown2); have HB2 : Hid (Below B w w2) := Lib.hid (own_bel HOk.out HBk.out hgrow2 HSz.out (Nat.le_refl _)); clear hown2 hgrow2 hnil2)
    go_ret
    have e : xs ++ adr ip false = xs ++ [0] := by simp [adr]
    rw [e]
    exact ⟨A3, c3, by rw [List.length_append, HM.out]; rfl, by rw [List.length_append, HM.out]; exact HO2.out, HB2.out⟩
  · have HP : Hid (∀ (A3 : Option Addr) (c3 : Nat) (W : World), Ou W B (.slice A3 (m + 1) c3) (xs ++ [32]) → B ≤ W.heap.size → Calls Try.prog 26 #[.slice A3 (m + 1) c3, .int .u64 ip, .int .i64 4] W (More W B (xs ++ [32] ++ be ip 4))) := Lib.hid (fun A3 c3 W ho hb => rput B _ (xs ++ [32]) ip 4 HIp.out.1 (by have := HIp.out.2; omega) (by omega) (by omega) (by rw [List.length_append, HM.out]; simp; omega) W ho hb)
    have HOk : Hid ((w.alloc (.cells #[.int .u8 32] 5)).ownsRow B 5 1 (.slice A m c) m (u8s xs)) := Lib.hid (own_keep HOu.out ((Below.refl _ w).alloc (Nat.le_refl _) (.cells #[.int .u8 32] 5)))
    have HBk : Hid (Below B w (w.alloc (.cells #[.int .u8 32] 5))) := Lib.hid ((Below.refl _ w).alloc HBw.out _)
    have HSz : Hid (B ≤ (w.alloc (.cells #[.int .u8 32] 5)).heap.size) := Lib.hid (Nat.le_trans HBw.out HBk.out.size)
    go_enter Try.func27, Try.ntmps27
    go_wp2_with (first
      | (at_builtin; refine wpList_append_own _ rfl (.tmp 12) (.tmp 13) 34 rfl B 5 i0 (.int .u8 0) 1 1 Try.underlying34 hi0 hz0 hz1 hz2 rfl (by decide) (.slice A m c) m (u8s xs) rfl HOk.out ⟨w.heap.size, 0, none⟩ 1 1 [.int .u8 32] rfl rfl news_block (by simp [Value.oneCell']) (by unfold maxLen; omega) (by omega) HSz.out ?_; intro v2 w2 hown2 hgrow2 hnil2; obtain ⟨A3, c3, rfl⟩ := own_form hown2; have HO2 := Lib.hid (one_more HM.out.symm hown2); have HB2 : Hid (Below B w w2) := Lib.hid (own_bel HOk.out HBk.out hgrow2 HSz.out (Nat.le_refl _)); clear hown2 hgrow2 hnil2)
      | (go_at_call 26; refine (HP.out A3 c3 _ HO2.out (Nat.le_trans HBw.out HB2.out.size)).mono ?_; rintro e w3 ⟨A4, c4, rfl, hou4, hb4⟩; have HO4 := Lib.hid hou4; have HB4 : Hid (Below B w w3) := Lib.hid (HB2.out.trans hb4); clear hou4 hb4))
    go_ret
    have e : xs ++ adr ip true = xs ++ [32] ++ be ip 4 := by simp [adr]
    rw [e]
    have el : (xs ++ [32] ++ be ip 4).length = xs.length + ((be ip 4).length + 1) := by simp only [List.length_append, List.length_singleton]; omega
    refine ⟨A4, c4, ?_, HO4.out, HB4.out⟩
    rw [el]
    rfl

end Go.Proofs.Ythhajknmokomjaa
