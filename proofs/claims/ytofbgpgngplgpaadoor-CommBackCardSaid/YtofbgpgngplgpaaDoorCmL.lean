/- CommBack: rows of communities that the call owns; copies; what the getters find. -/
import Derived.Test.YtofbgpgngplgpaaDoorCmJ
import Derived.Test.YtofbgpgngplgpaaDoorCmG
namespace Go.Proofs.YtofbgpgngplgpaaDoor
open Go.RowKit
set_option linter.unusedVariables false
set_option linter.unusedSimpArgs false
set_option maxRecDepth 100000

def c8s (x : C8) : List Value := [.int .u8 x.a, .int .u8 x.b, .int .u8 x.c, .int .u8 x.d, .int .u8 x.e, .int .u8 x.f, .int .u8 x.g, .int .u8 x.h]
def flatC (L : List C8) : List Value := L.flatMap c8s
theorem flatC_len (L : List C8) : (flatC L).length = L.length * 8 := by
  induction L with
  | nil => rfl
  | cons x L ih => simp [flatC, c8s] at ih ⊢; omega
theorem flatC_app (L M : List C8) : flatC (L ++ M) = flatC L ++ flatC M := by simp [flatC]
theorem flatC_one (L : List C8) : ∀ u ∈ flatC L, u.oneCell' = true := by
  intro u hu
  obtain ⟨x, _, hx⟩ := List.mem_flatMap.1 hu
  simp only [c8s, List.mem_cons, List.not_mem_nil, or_false] at hx
  rcases hx with rfl | rfl | rfl | rfl | rfl | rfl | rfl | rfl <;> rfl
theorem flatC_at (L : List C8) (i : Nat) (hi : i < L.length) (j : Nat) (hj : j < 8) : (flatC L)[i * 8 + j]? = (c8s L[i])[j]? := by
  induction L generalizing i with
  | nil => simp at hi
  | cons x L ih =>
    have e : flatC (x :: L) = c8s x ++ flatC L := by simp [flatC]
    rw [e]
    have hl : (c8s x).length = 8 := rfl
    cases i with
    | zero => rw [List.getElem?_append_left (by rw [hl]; omega)]; simp
    | succ i =>
      rw [List.getElem?_append_right (by rw [hl]; omega), hl]
      have := ih i (by simpa using hi)
      rw [show (i + 1) * 8 + j - 8 = i * 8 + j by omega, this]
      simp

theorem cms_of_cells {w : World} {b o c : Nat} {L : List C8} (h : ∀ j u, (flatC L)[j]? = some u → w.cell? ⟨b, o + j, none⟩ = some u) : Cms w (.slice (some ⟨b, o, none⟩) L.length c) L := by
  refine .inr ⟨b, o, c, rfl, fun i hi => ?_⟩
  have key : ∀ j u, j < 8 → (c8s L[i])[j]? = some u → w.cell? ⟨b, o + (i * 8 + j), none⟩ = some u := fun j u hj hu => h _ _ (by rw [flatC_at L i hi j hj]; exact hu)
  have k0 := key 0 _ (by omega) rfl
  have k1 := key 1 _ (by omega) rfl
  have k2 := key 2 _ (by omega) rfl
  have k3 := key 3 _ (by omega) rfl
  have k4 := key 4 _ (by omega) rfl
  have k5 := key 5 _ (by omega) rfl
  have k6 := key 6 _ (by omega) rfl
  have k7 := key 7 _ (by omega) rfl
  simp only [Nat.add_assoc] at k0 k1 k2 k3 k4 k5 k6 k7 ⊢
  exact ⟨k0, k1, k2, k3, k4, k5, k6, k7⟩

/-- What the call owns reads as these communities. -/
theorem own_cms {w : World} {base : Nat} {v : Value} {L : List C8} (h : w.ownsRow base 24 8 v L.length (flatC L)) : Cms w v L := by
  rcases h.2 with ⟨h1, h0⟩ | ⟨g, cap, cur, h1, h2, h3, h4, h5, h6, h7⟩
  · exact .inl ⟨h1, List.length_eq_zero_iff.1 h0⟩
  · subst h1
    refine cms_of_cells fun j u hu => ?_
    have hh : Has w g 24 cur := h3
    rw [Nat.zero_add, hh.cell j, ← Array.getElem?_toList]
    have hj : j < L.length * 8 := by
      have := (List.getElem?_eq_some_iff.1 hu).1
      rw [flatC_len] at this
      exact this
    rw [← h7, List.getElem?_take_of_lt hj] at hu
    exact hu

theorem own_keep {w w' : World} {base size n : Nat} {e : TypeId} {v : Value} {xs : List Value} (h : w.ownsRow base e size v n xs) (hb : Below w.heap.size w w') : w'.ownsRow base e size v n xs := by
  refine ⟨h.1, ?_⟩
  rcases h.2 with h0 | ⟨g, cap, cur, hv, hb', hg, r⟩
  · exact .inl h0
  · subst hv
    have hh : Has w g e cur := hg
    exact .inr ⟨g, cap, cur, rfl, hb', hh.below hb, r⟩
theorem own_bel {w w' W : World} {B base size n : Nat} {e : TypeId} {v : Value} {xs : List Value} (h : w.ownsRow base e size v n xs) (hb : Below B W w) (hg : w.grownBy w' v.ownBlock) (hB : B ≤ w.heap.size) (hbase : B ≤ base) : Below B W w' :=
  hb.grown hg hB (fun g hg => by
    rcases h.2 with ⟨h9, _⟩ | ⟨g', cap', cur', h9, h10, _⟩
    · rw [h9] at hg; cases hg
    · have hgg : g' = g := by rw [h9] at hg; simpa [Value.ownBlock] using hg
      rw [← hgg]
      exact Nat.le_trans hbase h10)

theorem info_comm : (Tryd.prog.info? 24).map (fun i => (i.zero, i.size, i.bytes)) = some (some (cm 0 0 0 0 0 0 0 0), 8, 8) := by kernel_rfl

/-- The cells of a slice of communities, as an append wants them. -/
theorem Cms.news {w : World} {ad : Addr} {n c : Nat} {L : List C8} (h : Cms w (.slice (some ad) n c) L) : n = L.length ∧ ∀ j u, (flatC L)[j]? = some u → w.cell? (ad.add j) = some u := by
  rcases h with ⟨h1, _⟩ | ⟨b, o, c', h1, h2⟩
  · cases h1
  · injection h1 with h1 h3 _
    injection h1 with h1
    subst h1
    refine ⟨h3, fun j u hu => ?_⟩
    have hj : j < L.length * 8 := by
      have := (List.getElem?_eq_some_iff.1 hu).1
      rw [flatC_len] at this
      exact this
    have hi : j / 8 < L.length := by omega
    have e : (⟨b, o, none⟩ : Addr).add j = ⟨b, o + j, none⟩ := by
      unfold Addr.add
      split
      · rename_i h0; simp_all
      · rfl
    rw [e]
    have h4 := flatC_at L (j / 8) hi (j % 8) (by omega)
    rw [show j / 8 * 8 + j % 8 = j by omega, hu] at h4
    obtain ⟨d0, d1, d2, d3, d4, d5, d6, d7⟩ := h2 (j / 8) hi
    have h8 : j % 8 = 0 ∨ j % 8 = 1 ∨ j % 8 = 2 ∨ j % 8 = 3 ∨ j % 8 = 4 ∨ j % 8 = 5 ∨ j % 8 = 6 ∨ j % 8 = 7 := by omega
    rcases h8 with h8 | h8 | h8 | h8 | h8 | h8 | h8 | h8 <;> rw [h8] at h4 <;> simp only [c8s, List.getElem?_cons_zero, List.getElem?_cons_succ, Option.some.injEq] at h4 <;> subst h4
    · rw [show o + j = o + j / 8 * 8 by omega]; exact d0
    · rw [show o + j = o + j / 8 * 8 + 1 by omega]; exact d1
    · rw [show o + j = o + j / 8 * 8 + 2 by omega]; exact d2
    · rw [show o + j = o + j / 8 * 8 + 3 by omega]; exact d3
    · rw [show o + j = o + j / 8 * 8 + 4 by omega]; exact d4
    · rw [show o + j = o + j / 8 * 8 + 5 by omega]; exact d5
    · rw [show o + j = o + j / 8 * 8 + 6 by omega]; exact d6
    · rw [show o + j = o + j / 8 * 8 + 7 by omega]; exact d7

theorem own_newC (w : World) : (w.alloc (.cells #[] 24)).ownsRow w.heap.size 24 8 (.slice (some ⟨w.heap.size, 0, none⟩) 0 0) 0 [] :=
  ⟨rfl, .inr ⟨w.heap.size, 0, #[], rfl, Nat.le_refl _, heap_alloc_new w _, Nat.le_refl _, by simp, rfl, rfl⟩⟩

/-- A copy. -/
theorem ownC (v : Value) (L : List C8) (w : World) (h : Cms w v L) (hm : L.length ≤ 1000) :
    Calls Tryd.prog 29 #[v] w fun e w' => (∃ v', e = .returned v' ∧ w'.ownsRow w.heap.size 24 8 v' L.length (flatC L)) ∧ Below w.heap.size w w' := by
  have hb0 : Below w.heap.size w (w.alloc (.cells #[] 24)) := (Below.refl _ w).alloc (Nat.le_refl _) _
  obtain ⟨A, c, hf⟩ := h.form
  subst hf
  cases A with
  | none =>
    have hL : L = [] := by
      rcases h with ⟨_, h0⟩ | ⟨b, o, c', h1, _⟩
      · exact h0
      · injection h1 with h1 _ _; cases h1
    subst hL
    have hc : c = 0 := by
      rcases h with ⟨h0, _⟩ | ⟨b, o, c', h1, _⟩
      · injection h0
      · injection h1 with h1 _ _; cases h1
    subst hc
    have HB := Lib.hid hb0
    have HO := Lib.hid (own_newC w)
    clear h hb0
    go_enter Tryd.func29, Tryd.ntmps29
    go_wp2
    go_ret
    exact ⟨⟨_, rfl, HO.out⟩, HB.out⟩
  | some ad =>
    obtain ⟨hn, hnews⟩ := (h.below hb0).news
    obtain ⟨i0, hi, hz0, hz1, hz2⟩ := info_parts info_comm
    have HN := Lib.hid hnews
    have HB := Lib.hid hb0
    clear h hn hnews hb0
    go_enter Tryd.func29, Tryd.ntmps29
    go_wp2_with (at_builtin; refine wpList_append_own _ rfl _ _ 35 rfl w.heap.size 24 i0 (cm 0 0 0 0 0 0 0 0) 8 8 Tryd.underlying35 hi hz0 hz1 hz2 rfl (by decide) _ 0 [] rfl (own_newC w) ad L.length c (flatC L) rfl (flatC_len L) HN.out (flatC_one L) (by unfold maxLen; omega) (by omega) (by simp) ?_)
    intro v' w1 hown hgrow hnil
    have H1 : Hid (w1.ownsRow w.heap.size 24 8 v' L.length (flatC L) ∧ Below w.heap.size w w1) := Lib.hid ⟨by simpa using hown, own_bel (own_newC w) HB.out hgrow (by simp) (Nat.le_refl _)⟩
    clear hown hgrow hnil
    go_wp2
    go_ret
    exact ⟨⟨_, rfl, H1.out.1⟩, H1.out.2⟩

/-- The community of a type with a number. -/
def mkx (a b x : Int) : C8 := ⟨a, b, x / 1099511627776 % 256, x / 4294967296 % 256, x / 16777216 % 256, x / 65536 % 256, x / 256 % 256, x % 256⟩
theorem mkx_v (a b x : Int) : (mkx a b x).v = mk a b x := rfl
theorem mkx_ok (a b x : Int) : (mkx a b x).ok := by
  unfold C8.ok mkx
  simp only
  omega
theorem mkx_n (a b x : Int) (h0 : 0 ≤ x) (h1 : x < 281474976710656) : (mkx a b x).n = x := by
  unfold C8.n n6 mkx
  simp only
  omega

theorem and_mask32 (n : Int) (h0 : 0 ≤ n) (h1 : n < 4294967296) : bits BinOp.and .u32 n 16777215 = n % 16777216 := by
  obtain ⟨m, rfl⟩ := Int.eq_ofNat_of_zero_le h0
  have hm : m < 2 ^ 32 := by omega
  show IntKind.u32.wrap ((BitVec.ofInt 32 (m : Int) &&& BitVec.ofInt 32 ((2 ^ 24 - 1 : Nat) : Int)).toNat : Int) = _
  rw [BitVec.ofInt_natCast, BitVec.ofInt_natCast, BitVec.toNat_and, BitVec.toNat_ofNat, BitVec.toNat_ofNat, Nat.mod_eq_of_lt hm, Nat.mod_eq_of_lt (by omega), Nat.and_two_pow_sub_one_eq_mod]
  have e4 : IntKind.u32.wrap ((m % 2 ^ 24 : Nat) : Int) = ((m % 2 ^ 24 : Nat) : Int) % 4294967296 := by rfl
  rw [e4]
  omega

/-- Those of no kind. -/
def oth (L : List C8) : List C8 := L.filter fun x => decide (kindOf x = 0)
theorem oth_snoc (L : List C8) (i : Nat) (hi : i < L.length) : oth (L.take (i + 1)) = oth (L.take i) ++ (if kindOf L[i] = 0 then [L[i]] else []) := by
  rw [List.take_succ_eq_append_getElem hi]
  unfold oth
  rw [List.filter_append]
  congr 1
  by_cases h : kindOf L[i] = 0 <;> simp [h]
theorem oth_kind (L : List C8) : ∀ x ∈ oth L, kindOf x = 0 ∧ x ∈ L := by
  intro x hx
  have := List.mem_filter.1 hx
  exact ⟨by simpa using this.2, this.1⟩
theorem oth_len (L : List C8) : (oth L).length ≤ L.length := List.length_filter_le _ _

/-- The seven among the others. -/
def amid (O : List C8) (p : Nat) (X : List C8) : List C8 := O.take p ++ X ++ O.drop p
theorem amid_find (O : List C8) (p : Nat) (X : List C8) (k : Nat) (hk : k ≠ 0) (hO : ∀ x ∈ O, kindOf x = 0) : (amid O p X).find? (fun x => decide (kindOf x = k)) = X.find? (fun x => decide (kindOf x = k)) := by
  have h1 : ∀ M : List C8, (∀ x ∈ M, kindOf x = 0) → M.find? (fun x => decide (kindOf x = k)) = none := fun M hM => List.find?_eq_none.2 (fun x hx => by simp [hM x hx]; omega)
  unfold amid
  rw [List.find?_append, List.find?_append, h1 _ (fun x hx => hO x (List.mem_of_mem_take hx)), h1 (O.drop p) (fun x hx => hO x (List.mem_of_mem_drop hx))]
  simp
theorem tgt_none (x : C8) (h : kindOf x ≠ 1) : tgt x = none := by
  unfold tgt
  rw [if_neg]
  intro h2
  apply h
  unfold kindOf
  rw [if_pos h2.1]
theorem amid_tgts (O : List C8) (p : Nat) (X : List C8) (hO : ∀ x ∈ O, kindOf x = 0) : tgts (amid O p X) = tgts X := by
  have h1 : ∀ M : List C8, (∀ x ∈ M, kindOf x = 0) → tgts M = [] := fun M hM => by
    unfold tgts
    rw [List.filterMap_eq_nil_iff]
    intro x hx
    exact tgt_none x (by rw [hM x hx]; omega)
  unfold amid
  unfold tgts
  rw [List.filterMap_append, List.filterMap_append]
  have h2 := h1 (O.take p) (fun x hx => hO x (List.mem_of_mem_take hx))
  have h3 := h1 (O.drop p) (fun x hx => hO x (List.mem_of_mem_drop hx))
  unfold tgts at h2 h3
  rw [h2, h3]
  simp
theorem oth_tgts (O : List C8) (hO : ∀ x ∈ O, kindOf x = 0) : tgts O = [] := by
  unfold tgts
  rw [List.filterMap_eq_nil_iff]
  intro x hx
  exact tgt_none x (by rw [hO x hx]; omega)
theorem amid_ok (O : List C8) (p : Nat) (X : List C8) (hO : ∀ x ∈ O, x.ok) (hX : ∀ x ∈ X, x.ok) : ∀ x ∈ amid O p X, x.ok := by
  intro x hx
  unfold amid at hx
  rcases List.mem_append.1 hx with hx | hx
  · rcases List.mem_append.1 hx with hx | hx
    · exact hO x (List.mem_of_mem_take hx)
    · exact hX x hx
  · exact hO x (List.mem_of_mem_drop hx)

/-- The seven. -/
def seven (is : Bool) (n a b m : Int) : List C8 := [mkx 3 12 b, mkx 6 1 (fl is + n), mkx 6 2 m, mkx 6 3 m, mkx 6 6 (a * 1099511627776 + b), mkx 6 0 (fl is + n), mkx 0 2 (65000 * 4294967296 + n)]

section
variable {is : Bool} {n a b m : Int} {O : List C8} {p : Nat}
theorem seven_ok : ∀ x ∈ seven is n a b m, x.ok := by
  intro x hx
  simp only [seven, List.mem_cons, List.not_mem_nil, or_false] at hx
  rcases hx with rfl | rfl | rfl | rfl | rfl | rfl | rfl <;> exact mkx_ok _ _ _
theorem k_of (u v x : Int) : kindOf (mkx u v x) = kindOf ⟨u, v, 0, 0, 0, 0, 0, 0⟩ := rfl
theorem f_bd (is : Bool) (n : Int) (n0 : 0 ≤ n) (n1 : n < 16777216) : 0 ≤ fl is + n ∧ fl is + n < 281474976710656 ∧ ((fl is + n) / 1099511627776 % 2 == 1) = is ∧ (fl is + n) % 16777216 = n ∧ (fl is + n) % 4294967296 = n := by
  cases is
  · simp only [show fl false = 0 from rfl]
    refine ⟨by omega, by omega, ?_, by omega, by omega⟩
    rw [show (0 + n) / 1099511627776 % 2 = 0 by omega]
    rfl
  · simp only [show fl true = 1099511627776 from rfl]
    refine ⟨by omega, by omega, ?_, by omega, by omega⟩
    rw [show (1099511627776 + n) / 1099511627776 % 2 = 1 by omega]
    rfl
theorem res_enc (hO : ∀ x ∈ O, kindOf x = 0) (b0 : 0 ≤ b) (b1 : b < 65536) : resN 2 (fun n => n % 65536) (amid O p (seven is n a b m)) = (b, true) := by
  unfold resN
  rw [amid_find _ _ _ _ (by decide) hO, show (seven is n a b m).find? (fun x => decide (kindOf x = 2)) = some (mkx 3 12 b) from rfl]
  simp only
  rw [mkx_n _ _ _ b0 (by omega), Int.emod_eq_of_lt b0 b1]
theorem res_imp (hO : ∀ x ∈ O, kindOf x = 0) (m0 : 0 ≤ m) (m1 : m < 281474976710656) : resN 5 (fun n => n) (amid O p (seven is n a b m)) = (m, true) := by
  unfold resN
  rw [amid_find _ _ _ _ (by decide) hO, show (seven is n a b m).find? (fun x => decide (kindOf x = 5)) = some (mkx 6 2 m) from rfl]
  simp only
  rw [mkx_n _ _ _ m0 m1]
theorem res_rou (hO : ∀ x ∈ O, kindOf x = 0) (m0 : 0 ≤ m) (m1 : m < 281474976710656) : resN 6 (fun n => n) (amid O p (seven is n a b m)) = (m, true) := by
  unfold resN
  rw [amid_find _ _ _ _ (by decide) hO, show (seven is n a b m).find? (fun x => decide (kindOf x = 6)) = some (mkx 6 3 m) from rfl]
  simp only
  rw [mkx_n _ _ _ m0 m1]
theorem res_lab (hO : ∀ x ∈ O, kindOf x = 0) (n0 : 0 ≤ n) (n1 : n < 16777216) : resM 4 24 (amid O p (seven is n a b m)) = (is, n, true) := by
  obtain ⟨h0, h1, h2, h3, h4⟩ := f_bd is n n0 n1
  unfold resM
  rw [amid_find _ _ _ _ (by decide) hO, show (seven is n a b m).find? (fun x => decide (kindOf x = 4)) = some (mkx 6 1 (fl is + n)) from rfl]
  simp only
  rw [mkx_n _ _ _ h0 h1, h2, show (2 : Int) ^ 24 = 16777216 from rfl, h3]
theorem res_mob (hO : ∀ x ∈ O, kindOf x = 0) (n0 : 0 ≤ n) (n1 : n < 16777216) : resM 3 32 (amid O p (seven is n a b m)) = (is, n, true) := by
  obtain ⟨h0, h1, h2, h3, h4⟩ := f_bd is n n0 n1
  unfold resM
  rw [amid_find _ _ _ _ (by decide) hO, show (seven is n a b m).find? (fun x => decide (kindOf x = 3)) = some (mkx 6 0 (fl is + n)) from rfl]
  simp only
  rw [mkx_n _ _ _ h0 h1, h2, show (2 : Int) ^ 32 = 4294967296 from rfl, h4]
theorem res_ele (hO : ∀ x ∈ O, kindOf x = 0) (a0 : 0 ≤ a) (a1 : a < 32) (b0 : 0 ≤ b) (b1 : b < 65536) : resP 7 (amid O p (seven is n a b m)) = (a, b, true) := by
  unfold resP
  rw [amid_find _ _ _ _ (by decide) hO, show (seven is n a b m).find? (fun x => decide (kindOf x = 7)) = some (mkx 6 6 (a * 1099511627776 + b)) from rfl]
  simp only
  rw [mkx_n _ _ _ (by omega) (by omega), show (a * 1099511627776 + b) / 1099511627776 % 32 = a by omega, show (a * 1099511627776 + b) % 65536 = b by omega]
theorem res_tgt (hO : ∀ x ∈ O, kindOf x = 0) (n0 : 0 ≤ n) (n1 : n < 16777216) : tgts (amid O p (seven is n a b m)) = [n] := by
  rw [amid_tgts _ _ _ hO]
  have h7 : tgt (mkx 0 2 (65000 * 4294967296 + n)) = some n := by
    unfold tgt
    rw [mkx_n _ _ _ (by omega) (by omega), if_pos ⟨⟨rfl, rfl⟩, by omega⟩, show (65000 * 4294967296 + n) % 4294967296 = n by omega]
  unfold tgts seven
  rw [List.filterMap_cons, tgt_none _ (by rw [k_of]; decide), List.filterMap_cons, tgt_none _ (by rw [k_of]; decide), List.filterMap_cons, tgt_none _ (by rw [k_of]; decide), List.filterMap_cons, tgt_none _ (by rw [k_of]; decide), List.filterMap_cons, tgt_none _ (by rw [k_of]; decide), List.filterMap_cons, tgt_none _ (by rw [k_of]; decide), List.filterMap_cons, h7]
  rfl
end

end Go.Proofs.YtofbgpgngplgpaaDoor
