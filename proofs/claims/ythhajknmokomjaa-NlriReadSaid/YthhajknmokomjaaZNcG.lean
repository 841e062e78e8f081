/- Routes: the document's Bytes of the kinds 1, 3 and 4. -/
import Derived.Test.YthhajknmokomjaaZNcF
namespace Go.Proofs.Ythhajknmokomjaa
open Go.RowKit Go.Maps Go.Shelf
set_option linter.unusedVariables false
set_option linter.unusedSimpArgs false
set_option maxRecDepth 100000

theorem rput_8 (B : Nat) (v : Value) (xs : List Int) (n : Int) (h0 : 0 ≤ n ∧ n < 18446744073709551616) (hx : xs.length ≤ 1000) (w : World) (h : Ou w B v xs) (hB : B ≤ w.heap.size) :
    Calls Try.prog 26 #[v, .int .u64 n, .int .i64 8] w (More w B (xs ++ be n 8)) := rput B v xs n 8 h0.1 h0.2 (by omega) (by omega) hx w h hB
theorem rput_6 (B : Nat) (v : Value) (xs : List Int) (n : Int) (h0 : 0 ≤ n ∧ n < 18446744073709551616) (hx : xs.length ≤ 1000) (w : World) (h : Ou w B v xs) (hB : B ≤ w.heap.size) :
    Calls Try.prog 26 #[v, .int .u64 n, .int .i64 6] w (More w B (xs ++ be n 6)) := rput B v xs n 6 h0.1 h0.2 (by omega) (by omega) hx w h hB
theorem rput_4 (B : Nat) (v : Value) (xs : List Int) (n : Int) (h0 : 0 ≤ n ∧ n < 4294967296) (hx : xs.length ≤ 1000) (w : World) (h : Ou w B v xs) (hB : B ≤ w.heap.size) :
    Calls Try.prog 26 #[v, .int .u64 n, .int .i64 4] w (More w B (xs ++ be n 4)) := rput B v xs n 4 h0.1 (by omega) (by omega) (by omega) hx w h hB
theorem rput_3 (B : Nat) (v : Value) (xs : List Int) (n : Int) (h0 : 0 ≤ n ∧ n < 4294967296) (hx : xs.length ≤ 1000) (w : World) (h : Ou w B v xs) (hB : B ≤ w.heap.size) :
    Calls Try.prog 26 #[v, .int .u64 n, .int .i64 3] w (More w B (xs ++ be n 3)) := rput B v xs n 3 h0.1 (by omega) (by omega) (by omega) hx w h hB

set_option maxHeartbeats 1000000 in
theorem rbytes_no (x : NL) (hc : chk x ≠ 0) (w : World) :
    Calls Try.prog 7 #[.agg x.cs] w fun e w' => e = .returned (.tuple #[.slice none 0 0, .int .i64 (chk x)]) ∧ Below w.heap.size w w' := by
  obtain ⟨ef, hef⟩ : ∃ ef, chk x = ef := ⟨_, rfl⟩
  have HE := Lib.hid hef
  have hb : (ef != 0) = true := by rw [← hef]; simpa using hc
  have HX1 : Hid (Has (w.alloc (.cells x.cs 31)) w.heap.size 31 x.cs) := Lib.hid (Has.new _ _ _)
  have HB1 : Hid (Below w.heap.size w (w.alloc (.cells x.cs 31))) := Lib.hid ((Below.refl _ w).alloc (Nat.le_refl _) _)
  rw [hef]
  clear hef hc
  go_enter Try.func7, Try.ntmps7
  go_wp2_with (first
    | (refine wpList_load_row rfl 31 (.tmp 1) rfl w.heap.size rfl 31 x.cs (0, 0) _ HX1.out Try.underlying31 rfl x.fit ?_)
    | (go_at_call 11; refine (rcheck_any x _).mono ?_; rintro e w2 ⟨rfl, hb2⟩; rw [HE.out]; have HB2 : Hid (Below w.heap.size w w2) := Lib.hid (HB1.out.trans (hb2.mono HB1.out.size)); clear hb2))
  go_ret2
  exact ⟨rfl, HB2.out⟩

theorem Has.belowB {w w' : World} {B g : Nat} {t : TypeId} {cs : Array Value} (h : Has w g t cs) (hg : g < B) (hb : Below B w w') : Has w' g t cs := (hb.block g hg).trans h
/-- What Bytes of the document returns. -/
def EncR (w : World) (x : NL) (e : Ending) (w' : World) : Prop := ∃ A c, e = .returned (.tuple #[.slice A (enc x).length c, .int .i64 0]) ∧ Ou w' (w.heap.size + 1) (.slice A (enc x).length c) (enc x) ∧ Below w.heap.size w w'
theorem ou_len {w : World} {B n : Nat} {A : Option Addr} {c : Nat} {xs : List Int} (hn : xs.length = n) (h : Ou w B (.slice A xs.length c) xs) : w.ownsRow B 5 1 (.slice A n c) n (u8s xs) := by
  subst hn; exact h
theorem ou_of {w : World} {B n : Nat} {v : Value} {xs : List Int} (hn : xs.length = n) (h : w.ownsRow B 5 1 v n (u8s xs)) : Ou w B v xs := by
  subst hn; exact h
theorem u8s_app (xs ys : List Int) : u8s xs ++ u8s ys = u8s (xs ++ ys) := by simp [u8s]
theorem ev_u8s (x : NL) : x.ev = u8s x.esi := rfl

theorem own_two {w : World} {B : Nat} (hB : B ≤ w.heap.size) (a b : Int) : (w.alloc (.cells #[.int .u8 a, .int .u8 b] 5)).ownsRow B 5 1 (.slice (some ⟨w.heap.size, 0, none⟩) 2 2) 2 (u8s [a, b]) :=
  ⟨rfl, .inr ⟨w.heap.size, 2, #[.int .u8 a, .int .u8 b], rfl, hB, Has.new _ _ _, Nat.le_refl _, by decide, rfl, rfl⟩⟩
theorem own_some {w : World} {B n c : Nat} {A : Option Addr} {xs : List Value} (hn : 0 < n) (h : w.ownsRow B 5 1 (.slice A n c) n xs) : ∃ g, A = some ⟨g, 0, none⟩ ∧ g < w.heap.size ∧ ∀ j u, xs[j]? = some u → w.cell? ((⟨g, 0, none⟩ : Addr).add j) = some u := by
  rcases h.2 with ⟨_, h2⟩ | ⟨g, cap, cur, h1, h2, h3, _⟩
  · omega
  · injection h1 with e1 _ _
    subst e1
    have hh : Has w g 5 cur := h3
    exact ⟨g, rfl, hh.lt, h.cells (g := g) rfl⟩

set_option maxHeartbeats 2000000 in
theorem rbytes_1 (x : NL) (hk : x.k = 1) (hx : x.ty) (hc : chk x = 0) (w : World) :
    Calls Try.prog 7 #[.agg x.cs] w (EncR w x) := by
  obtain ⟨i0, hi0, hz0, hz1, hz2⟩ := info_parts info_u8
  have HX1 : Hid (Has (w.alloc (.cells x.cs 31)) w.heap.size 31 x.cs) := Lib.hid (Has.new _ _ _)
  have HB1 : Hid (Below w.heap.size w (w.alloc (.cells x.cs 31))) := Lib.hid ((Below.refl _ w).alloc (Nat.le_refl _) _)
  have HC := Lib.hid hc
  have HK := Lib.hid hk
  have HT := Lib.hid hx
  obtain ⟨t1, t2⟩ := wide_u64 hx.tag
  obtain ⟨t3, t4⟩ := wide_u64 hx.l1
  clear hk hx hc
  go_enter Try.func7, Try.ntmps7
  go_wp2_with (first
    | (refine wpList_load_row rfl 31 (.tmp 1) rfl w.heap.size rfl 31 x.cs (0, 0) _ HX1.out Try.underlying31 rfl x.fit ?_)
    | (go_at_call 11; refine (rcheck_any x _).mono ?_; rintro e w2 ⟨rfl, hb2⟩; rw [HC.out]; have HX2 := Lib.hid (HX1.out.below hb2); have HB2 : Hid (Below w.heap.size w w2) := Lib.hid (HB1.out.trans (hb2.mono HB1.out.size)); have c1 := HX2.out.n1; clear hb2))
  have hlt := HX2.out.lt
  refine (rput_8 (w.heap.size + 1) _ [] x.rd HT.out.rd (by simp) _ (Ou.nil _ _) hlt).mono ?_
  rintro e w3 ⟨A3, c3, rfl, ho3, hb3⟩
  obtain ⟨P3, hP3⟩ : ∃ P, ([] : List Int) ++ be x.rd 8 = P := ⟨_, rfl⟩
  have l3 : P3.length = 8 := by rw [← hP3]; simp [be_length]
  rw [hP3] at ho3 ⊢
  rw [l3]
  have HP3 := Lib.hid hP3
  have HO3 := Lib.hid (ou_len l3 ho3)
  have HB3 : Hid (Below w.heap.size w w3) := Lib.hid (HB2.out.trans (hb3.mono (by omega)))
  have HX3 : Hid (Has w3 w.heap.size 31 x.cs) := Lib.hid (HX2.out.belowB (by omega) hb3)
  have HS3 : Hid (w.heap.size + 1 ≤ w3.heap.size) := Lib.hid (Nat.le_trans hlt hb3.size)
  have c0 : w3.cell? ⟨w.heap.size, 0, none⟩ = some (.int .i64 1) := HX3.out.n0.trans (congrArg (fun z => some (Value.int .i64 z)) HK.out)
  have c12 := HX3.out.n12
  have L3 := Lib.hid l3
  clear hP3 ho3 hb3 hlt c1 l3
  go_wp2_with (at_builtin; refine wpList_append_own _ rfl (.tmp 17) (.tmp 19) 34 rfl (w.heap.size + 1) 5 i0 (.int .u8 0) 1 1 Try.underlying34 hi0 hz0 hz1 hz2 rfl (by decide) (.slice A3 8 c3) 8 (u8s P3) rfl HO3.out ⟨w.heap.size, 2, none⟩ 10 10 x.ev rfl rfl (fun j u hu => by rw [Addr.add_mid]; exact has_esi HX3.out j u hu) x.ev_one (by unfold maxLen; omega) (by omega) HS3.out ?_; intro v4 w4 hown4 hgrow4 hnil4; obtain ⟨A4, c4, rfl⟩ := own_form hown4; have HO4 := Lib.hid hown4; have HB4 : Hid (Below (w.heap.size + 1) w3 w4) := Lib.hid (own_bel HO3.out (Below.refl _ w3) hgrow4 HS3.out (Nat.le_refl _)); have HX4 : Hid (Has w4 w.heap.size 31 x.cs) := Lib.hid (HX3.out.belowB (Nat.lt_succ_self _) HB4.out); have d0 : w4.cell? ⟨w.heap.size, 0, none⟩ = some (.int .i64 1) := HX4.out.n0.trans (congrArg (fun z => some (Value.int .i64 z)) HK.out); have d12 := HX4.out.n12; clear hown4 hgrow4 hnil4)
  have HQ4 : Hid ((P3 ++ x.esi).length = 18) := Lib.hid (by rw [List.length_append, L3.out, NL.esi_len])
  have ho4 : Ou w4 (w.heap.size + 1) (.slice A4 18 c4) (P3 ++ x.esi) := ou_of HQ4.out (by rw [← u8s_app, ← ev_u8s]; exact HO4.out)
  refine (rput_4 (w.heap.size + 1) _ (P3 ++ x.esi) x.tag HT.out.tag (by rw [HQ4.out]; omega) _ ho4 (Nat.le_trans HS3.out HB4.out.size)).mono ?_
  rintro e w5 ⟨A5, c5, rfl, ho5, hb5⟩
  obtain ⟨P5, hP5⟩ : ∃ P, P3 ++ x.esi ++ be x.tag 4 = P := ⟨_, rfl⟩
  have l5 : P5.length = 22 := by rw [← hP5, List.length_append, HQ4.out, be_length]
  rw [hP5] at ho5 ⊢
  rw [l5]
  have HP5 := Lib.hid hP5
  have HO5 := Lib.hid ho5
  have HB5 : Hid (Below (w.heap.size + 1) w3 w5) := Lib.hid (HB4.out.trans hb5)
  have HX5 : Hid (Has w5 w.heap.size 31 x.cs) := Lib.hid (HX4.out.belowB (Nat.lt_succ_self _) hb5)
  have e0 : w5.cell? ⟨w.heap.size, 0, none⟩ = some (.int .i64 1) := HX5.out.n0.trans (congrArg (fun z => some (Value.int .i64 z)) HK.out)
  have e19 := HX5.out.n19
  have L5 := Lib.hid l5
  clear hP5 ho5 hb5 l5 ho4 c0 c12 d0 d12
  go_wp2_with fail
  refine (rput_3 (w.heap.size + 1) _ P5 x.l1 HT.out.l1 (by rw [L5.out]; omega) _ (by have h := HO5.out; rw [L5.out] at h; exact h) (Nat.le_trans HS3.out HB5.out.size)).mono ?_
  rintro e w6 ⟨A6, c6, rfl, ho6, hb6⟩
  obtain ⟨P6, hP6⟩ : ∃ P, P5 ++ be x.l1 3 = P := ⟨_, rfl⟩
  have l6 : P6.length = 25 := by rw [← hP6, List.length_append, L5.out, be_length]
  rw [hP6] at ho6 ⊢
  rw [l6]
  have HE : Hid (enc x = [1, 25] ++ P6) := Lib.hid (by
    have hv : x.val x.k.toNat = P6 := by rw [HK.out, ← hP6, ← HP5.out, ← HP3.out]; simp [NL.val, NL.val1]
    rw [enc, hv, l6, HK.out]; rfl)
  have HO6 := Lib.hid (ou_len l6 ho6)
  obtain ⟨g6, rfl, hg6, hc6⟩ := own_some (by omega) HO6.out
  have HC6 := Lib.hid hc6
  have HB6 : Hid (Below (w.heap.size + 1) w3 w6) := Lib.hid (HB5.out.trans hb6)
  have HX6 : Hid (Has w6 w.heap.size 31 x.cs) := Lib.hid (HX5.out.belowB (Nat.lt_succ_self _) hb6)
  have HS6 : Hid (w.heap.size + 1 ≤ w6.heap.size) := Lib.hid (Nat.le_trans HS3.out HB6.out.size)
  have k0 : w6.cell? ⟨w.heap.size, 0, none⟩ = some (.int .i64 1) := HX6.out.n0.trans (congrArg (fun z => some (Value.int .i64 z)) HK.out)
  have L6 := Lib.hid l6
  have HG6 := Lib.hid hg6
  clear hP6 ho6 hb6 l6 e0 e19 hc6 hg6
  have HO7 := Lib.hid (own_two HS6.out 1 25)
  go_wp2_with (at_builtin; refine wpList_append_own _ rfl (.tmp 97) (.tmp 98) 34 rfl (w.heap.size + 1) 5 i0 (.int .u8 0) 1 1 Try.underlying34 hi0 hz0 hz1 hz2 rfl (by decide) (.slice (some ⟨w6.heap.size, 0, none⟩) 2 2) 2 (u8s [1, 25]) rfl HO7.out ⟨g6, 0, none⟩ 25 c6 (u8s P6) rfl (by simp [L6.out]) (fun j u hu => (((Below.refl _ w6).alloc (Nat.le_refl _) _).cell (p := (⟨g6, 0, none⟩ : Addr).add j) (by rw [Addr.add_mid]; exact HG6.out)).trans (HC6.out j u hu)) (u8s_one _) (by unfold maxLen; omega) (by omega) (Nat.le_trans HS6.out (by simp)) ?_; intro v8 w8 hown8 hgrow8 hnil8; obtain ⟨A8, c8, rfl⟩ := own_form hown8; have HO8 := Lib.hid hown8; have HB8 : Hid (Below w.heap.size w w8) := Lib.hid (HB3.out.trans ((HB6.out.trans (own_bel HO7.out ((Below.refl _ w6).alloc HS6.out _) hgrow8 (Nat.le_trans HS6.out (by simp)) (Nat.le_refl _))).mono (by omega))); clear hown8 hgrow8 hnil8)
  have hE : (enc x).length = 27 := by rw [HE.out, List.length_append, L6.out]; rfl
  go_ret2
  refine ⟨A8, c8, by rw [hE]; rfl, ?_, HB8.out⟩
  rw [hE]
  refine ou_of hE ?_
  rw [HE.out, ← u8s_app]
  exact HO8.out
-- kinds 3 and 4, by gen_ncg.py
theorem be32 : be 32 1 = [32] := by decide

set_option maxHeartbeats 2000000 in
theorem rbytes_3 (x : NL) (hk : x.k = 3) (hx : x.ty) (hc : chk x = 0) (w : World) :
    Calls Try.prog 7 #[.agg x.cs] w (EncR w x) := by
  obtain ⟨i0, hi0, hz0, hz1, hz2⟩ := info_parts info_u8
  have HX1 : Hid (Has (w.alloc (.cells x.cs 31)) w.heap.size 31 x.cs) := Lib.hid (Has.new _ _ _)
  have HB1 : Hid (Below w.heap.size w (w.alloc (.cells x.cs 31))) := Lib.hid ((Below.refl _ w).alloc (Nat.le_refl _) _)
  have HC := Lib.hid hc
  have HK := Lib.hid hk
  have HT := Lib.hid hx
  obtain ⟨t1, t2⟩ := wide_u64 hx.tag
  obtain ⟨t3, t4⟩ := wide_u64 hx.l1
  clear hk hx hc
  go_enter Try.func7, Try.ntmps7
  go_wp2_with (first
    | (refine wpList_load_row rfl 31 (.tmp 1) rfl w.heap.size rfl 31 x.cs (0, 0) _ HX1.out Try.underlying31 rfl x.fit ?_)
    | (go_at_call 11; refine (rcheck_any x _).mono ?_; rintro e w2 ⟨rfl, hb2⟩; rw [HC.out]; have HX2 := Lib.hid (HX1.out.below hb2); have HB2 : Hid (Below w.heap.size w w2) := Lib.hid (HB1.out.trans (hb2.mono HB1.out.size)); have c1 := HX2.out.n1; clear hb2))
  have hlt := HX2.out.lt
  refine (rput_8 (w.heap.size + 1) _ [] x.rd HT.out.rd (by simp) _ (Ou.nil _ _) hlt).mono ?_
  rintro e w3 ⟨A3, c3, rfl, ho3, hb3⟩
  obtain ⟨P3, hP3⟩ : ∃ P, ([] : List Int) ++ be x.rd 8 = P := ⟨_, rfl⟩
  have l3 : P3.length = 8 := by rw [← hP3]; simp [be_length]
  rw [hP3] at ho3 ⊢
  rw [l3]
  have HP3 := Lib.hid hP3
  have HO3 := Lib.hid (ou_len l3 ho3)
  have HB3 : Hid (Below w.heap.size w w3) := Lib.hid (HB2.out.trans (hb3.mono (by omega)))
  have HX3 : Hid (Has w3 w.heap.size 31 x.cs) := Lib.hid (HX2.out.belowB (by omega) hb3)
  have HS3 : Hid (w.heap.size + 1 ≤ w3.heap.size) := Lib.hid (Nat.le_trans hlt hb3.size)
  have c0 : w3.cell? ⟨w.heap.size, 0, none⟩ = some (.int .i64 3) := HX3.out.n0.trans (congrArg (fun z => some (Value.int .i64 z)) HK.out)
  have c12 := HX3.out.n12
  have L3 := Lib.hid l3
  clear hP3 ho3 hb3 hlt c1 l3
  go_wp2_with fail
  refine (rput_4 (w.heap.size + 1) _ P3 x.tag HT.out.tag (by rw [L3.out]; omega) _ (ou_of L3.out HO3.out) HS3.out).mono ?_
  rintro e w5 ⟨A5, c5, rfl, ho5, hb5⟩
  obtain ⟨P5, hP5⟩ : ∃ P, P3 ++ be x.tag 4 = P := ⟨_, rfl⟩
  have l5 : P5.length = 12 := by rw [← hP5, List.length_append, L3.out, be_length]
  rw [hP5] at ho5 ⊢
  rw [l5]
  have HP5 := Lib.hid hP5
  have HO5 := Lib.hid ho5
  have HB5 : Hid (Below (w.heap.size + 1) w3 w5) := Lib.hid hb5
  have HX5 : Hid (Has w5 w.heap.size 31 x.cs) := Lib.hid (HX3.out.belowB (Nat.lt_succ_self _) hb5)
  have e0 : w5.cell? ⟨w.heap.size, 0, none⟩ = some (.int .i64 3) := HX5.out.n0.trans (congrArg (fun z => some (Value.int .i64 z)) HK.out)
  have e14 := HX5.out.n14
  have L5 := Lib.hid l5
  clear hP5 ho5 hb5 l5 c0 c12
  go_wp2_with fail
  refine (radr (w.heap.size + 1) _ P5 x.ip true HT.out.ip (by rw [L5.out]; omega) _ (by have h := HO5.out; rw [L5.out] at h; exact h) (Nat.le_trans HS3.out HB5.out.size)).mono ?_
  rintro e w6 ⟨A6, c6, rfl, ho6, hb6⟩
  obtain ⟨P6, hP6⟩ : ∃ P, P5 ++ adr x.ip true = P := ⟨_, rfl⟩
  have l6 : P6.length = 17 := by rw [← hP6, List.length_append, L5.out]; simp [adr, be_length]
  rw [hP6] at ho6 ⊢
  rw [l6]
  have HE : Hid (enc x = [3, 17] ++ P6) := Lib.hid (by
    have hv : x.val x.k.toNat = P6 := by rw [HK.out, ← hP6, ← HP5.out, ← HP3.out]; simp [NL.val, NL.val3, adr, be32]
    rw [enc, hv, l6, HK.out]; rfl)
  have HO6 := Lib.hid (ou_len l6 ho6)
  obtain ⟨g6, rfl, hg6, hc6⟩ := own_some (by omega) HO6.out
  have HC6 := Lib.hid hc6
  have HB6 : Hid (Below (w.heap.size + 1) w3 w6) := Lib.hid (HB5.out.trans hb6)
  have HX6 : Hid (Has w6 w.heap.size 31 x.cs) := Lib.hid (HX5.out.belowB (Nat.lt_succ_self _) hb6)
  have HS6 : Hid (w.heap.size + 1 ≤ w6.heap.size) := Lib.hid (Nat.le_trans HS3.out HB6.out.size)
  have k0 : w6.cell? ⟨w.heap.size, 0, none⟩ = some (.int .i64 3) := HX6.out.n0.trans (congrArg (fun z => some (Value.int .i64 z)) HK.out)
  have L6 := Lib.hid l6
  have HG6 := Lib.hid hg6
  clear hP6 ho6 hb6 l6 hc6 hg6
  have HO7 := Lib.hid (own_two HS6.out 3 17)
  go_wp2_with (at_builtin; refine wpList_append_own _ rfl (.tmp 97) (.tmp 98) 34 rfl (w.heap.size + 1) 5 i0 (.int .u8 0) 1 1 Try.underlying34 hi0 hz0 hz1 hz2 rfl (by decide) (.slice (some ⟨w6.heap.size, 0, none⟩) 2 2) 2 (u8s [3, 17]) rfl HO7.out ⟨g6, 0, none⟩ 17 c6 (u8s P6) rfl (by simp [L6.out]) (fun j u hu => (((Below.refl _ w6).alloc (Nat.le_refl _) _).cell (p := (⟨g6, 0, none⟩ : Addr).add j) (by rw [Addr.add_mid]; exact HG6.out)).trans (HC6.out j u hu)) (u8s_one _) (by unfold maxLen; omega) (by omega) (Nat.le_trans HS6.out (by simp)) ?_; intro v8 w8 hown8 hgrow8 hnil8; obtain ⟨A8, c8, rfl⟩ := own_form hown8; have HO8 := Lib.hid hown8; have HB8 : Hid (Below w.heap.size w w8) := Lib.hid (HB3.out.trans ((HB6.out.trans (own_bel HO7.out ((Below.refl _ w6).alloc HS6.out _) hgrow8 (Nat.le_trans HS6.out (by simp)) (Nat.le_refl _))).mono (by omega))); clear hown8 hgrow8 hnil8)
  have hE : (enc x).length = 19 := by rw [HE.out, List.length_append, L6.out]; rfl
  go_ret2
  refine ⟨A8, c8, by rw [hE]; rfl, ?_, HB8.out⟩
  rw [hE]
  refine ou_of hE ?_
  rw [HE.out, ← u8s_app]
  exact HO8.out

set_option maxHeartbeats 2000000 in
theorem rbytes_4 (x : NL) (hk : x.k = 4) (hx : x.ty) (hc : chk x = 0) (w : World) :
    Calls Try.prog 7 #[.agg x.cs] w (EncR w x) := by
  obtain ⟨i0, hi0, hz0, hz1, hz2⟩ := info_parts info_u8
  have HX1 : Hid (Has (w.alloc (.cells x.cs 31)) w.heap.size 31 x.cs) := Lib.hid (Has.new _ _ _)
  have HB1 : Hid (Below w.heap.size w (w.alloc (.cells x.cs 31))) := Lib.hid ((Below.refl _ w).alloc (Nat.le_refl _) _)
  have HC := Lib.hid hc
  have HK := Lib.hid hk
  have HT := Lib.hid hx
  obtain ⟨t1, t2⟩ := wide_u64 hx.tag
  obtain ⟨t3, t4⟩ := wide_u64 hx.l1
  clear hk hx hc
  go_enter Try.func7, Try.ntmps7
  go_wp2_with (first
    | (refine wpList_load_row rfl 31 (.tmp 1) rfl w.heap.size rfl 31 x.cs (0, 0) _ HX1.out Try.underlying31 rfl x.fit ?_)
    | (go_at_call 11; refine (rcheck_any x _).mono ?_; rintro e w2 ⟨rfl, hb2⟩; rw [HC.out]; have HX2 := Lib.hid (HX1.out.below hb2); have HB2 : Hid (Below w.heap.size w w2) := Lib.hid (HB1.out.trans (hb2.mono HB1.out.size)); have c1 := HX2.out.n1; clear hb2))
  have hlt := HX2.out.lt
  refine (rput_8 (w.heap.size + 1) _ [] x.rd HT.out.rd (by simp) _ (Ou.nil _ _) hlt).mono ?_
  rintro e w3 ⟨A3, c3, rfl, ho3, hb3⟩
  obtain ⟨P3, hP3⟩ : ∃ P, ([] : List Int) ++ be x.rd 8 = P := ⟨_, rfl⟩
  have l3 : P3.length = 8 := by rw [← hP3]; simp [be_length]
  rw [hP3] at ho3 ⊢
  rw [l3]
  have HP3 := Lib.hid hP3
  have HO3 := Lib.hid (ou_len l3 ho3)
  have HB3 : Hid (Below w.heap.size w w3) := Lib.hid (HB2.out.trans (hb3.mono (by omega)))
  have HX3 : Hid (Has w3 w.heap.size 31 x.cs) := Lib.hid (HX2.out.belowB (by omega) hb3)
  have HS3 : Hid (w.heap.size + 1 ≤ w3.heap.size) := Lib.hid (Nat.le_trans hlt hb3.size)
  have c0 : w3.cell? ⟨w.heap.size, 0, none⟩ = some (.int .i64 4) := HX3.out.n0.trans (congrArg (fun z => some (Value.int .i64 z)) HK.out)
  have c12 := HX3.out.n12
  have L3 := Lib.hid l3
  clear hP3 ho3 hb3 hlt c1 l3
  go_wp2_with (at_builtin; refine wpList_append_own _ rfl (.tmp 17) (.tmp 19) 34 rfl (w.heap.size + 1) 5 i0 (.int .u8 0) 1 1 Try.underlying34 hi0 hz0 hz1 hz2 rfl (by decide) (.slice A3 8 c3) 8 (u8s P3) rfl HO3.out ⟨w.heap.size, 2, none⟩ 10 10 x.ev rfl rfl (fun j u hu => by rw [Addr.add_mid]; exact has_esi HX3.out j u hu) x.ev_one (by unfold maxLen; omega) (by omega) HS3.out ?_; intro v4 w4 hown4 hgrow4 hnil4; obtain ⟨A4, c4, rfl⟩ := own_form hown4; have HO4 := Lib.hid hown4; have HB4 : Hid (Below (w.heap.size + 1) w3 w4) := Lib.hid (own_bel HO3.out (Below.refl _ w3) hgrow4 HS3.out (Nat.le_refl _)); have HX4 : Hid (Has w4 w.heap.size 31 x.cs) := Lib.hid (HX3.out.belowB (Nat.lt_succ_self _) HB4.out); have d0 : w4.cell? ⟨w.heap.size, 0, none⟩ = some (.int .i64 4) := HX4.out.n0.trans (congrArg (fun z => some (Value.int .i64 z)) HK.out); have d12 := HX4.out.n12; have d14 := HX4.out.n14; clear hown4 hgrow4 hnil4)
  have HQ4 : Hid ((P3 ++ x.esi).length = 18) := Lib.hid (by rw [List.length_append, L3.out, NL.esi_len])
  have ho4 : Ou w4 (w.heap.size + 1) (.slice A4 18 c4) (P3 ++ x.esi) := ou_of HQ4.out (by rw [← u8s_app, ← ev_u8s]; exact HO4.out)
  have HO4' := Lib.hid ho4
  clear ho4 c0 c12 d12
  refine (radr (w.heap.size + 1) _ (P3 ++ x.esi) x.ip true HT.out.ip (by rw [HQ4.out]; omega) _ (HO4'.out) (Nat.le_trans HS3.out HB4.out.size)).mono ?_
  rintro e w6 ⟨A6, c6, rfl, ho6, hb6⟩
  obtain ⟨P6, hP6⟩ : ∃ P, P3 ++ x.esi ++ adr x.ip true = P := ⟨_, rfl⟩
  have l6 : P6.length = 23 := by rw [← hP6, List.length_append, HQ4.out]; simp [adr, be_length]
  rw [hP6] at ho6 ⊢
  rw [l6]
  have HE : Hid (enc x = [4, 23] ++ P6) := Lib.hid (by
    have hv : x.val x.k.toNat = P6 := by rw [HK.out, ← hP6, ← HP3.out]; simp [NL.val, NL.val4, adr, be32]
    rw [enc, hv, l6, HK.out]; rfl)
  have HO6 := Lib.hid (ou_len l6 ho6)
  obtain ⟨g6, rfl, hg6, hc6⟩ := own_some (by omega) HO6.out
  have HC6 := Lib.hid hc6
  have HB6 : Hid (Below (w.heap.size + 1) w3 w6) := Lib.hid (HB4.out.trans hb6)
  have HX6 : Hid (Has w6 w.heap.size 31 x.cs) := Lib.hid (HX4.out.belowB (Nat.lt_succ_self _) hb6)
  have HS6 : Hid (w.heap.size + 1 ≤ w6.heap.size) := Lib.hid (Nat.le_trans HS3.out HB6.out.size)
  have k0 : w6.cell? ⟨w.heap.size, 0, none⟩ = some (.int .i64 4) := HX6.out.n0.trans (congrArg (fun z => some (Value.int .i64 z)) HK.out)
  have L6 := Lib.hid l6
  have HG6 := Lib.hid hg6
  clear hP6 ho6 hb6 l6 hc6 hg6
  have HO7 := Lib.hid (own_two HS6.out 4 23)
  go_wp2_with (at_builtin; refine wpList_append_own _ rfl (.tmp 97) (.tmp 98) 34 rfl (w.heap.size + 1) 5 i0 (.int .u8 0) 1 1 Try.underlying34 hi0 hz0 hz1 hz2 rfl (by decide) (.slice (some ⟨w6.heap.size, 0, none⟩) 2 2) 2 (u8s [4, 23]) rfl HO7.out ⟨g6, 0, none⟩ 23 c6 (u8s P6) rfl (by simp [L6.out]) (fun j u hu => (((Below.refl _ w6).alloc (Nat.le_refl _) _).cell (p := (⟨g6, 0, none⟩ : Addr).add j) (by rw [Addr.add_mid]; exact HG6.out)).trans (HC6.out j u hu)) (u8s_one _) (by unfold maxLen; omega) (by omega) (Nat.le_trans HS6.out (by simp)) ?_; intro v8 w8 hown8 hgrow8 hnil8; obtain ⟨A8, c8, rfl⟩ := own_form hown8; have HO8 := Lib.hid hown8; have HB8 : Hid (Below w.heap.size w w8) := Lib.hid (HB3.out.trans ((HB6.out.trans (own_bel HO7.out ((Below.refl _ w6).alloc HS6.out _) hgrow8 (Nat.le_trans HS6.out (by simp)) (Nat.le_refl _))).mono (by omega))); clear hown8 hgrow8 hnil8)
  have hE : (enc x).length = 25 := by rw [HE.out, List.length_append, L6.out]; rfl
  go_ret2
  refine ⟨A8, c8, by rw [hE]; rfl, ?_, HB8.out⟩
  rw [hE]
  refine ou_of hE ?_
  rw [HE.out, ← u8s_app]
  exact HO8.out

end Go.Proofs.Ythhajknmokomjaa
