/- Routes: what the document's value makes of what was written; the document's Read beside readP; pure. -/
import Derived.Test.YthhajknmokomjaaZNdB
import Derived.Test.YthhajknmokomjaaZNrL
namespace Go.Proofs.Ythhajknmokomjaa
open Go.RowKit Go.Maps
set_option linter.unusedVariables false
set_option linter.unusedSimpArgs false
set_option maxRecDepth 100000

theorem tki_be {xs P R : List Int} {v a s : Int} {m : Nat} (he : xs = P ++ (be v m ++ R)) (hP : (P.length : Int) = a) (hs : s = (m : Int)) (h0 : 0 ≤ v) (h1 : v < 256 ^ m) : tki xs a s = v := by
  subst hs
  subst hP
  unfold tki
  have e : ((P.length : Int)).toNat = P.length := by omega
  have e2 : ((m : Int)).toNat = m := by omega
  rw [e, e2, he, if_pos (by simp [be_length]), List.drop_left, List.take_left' (be_length v m), num_be_fit v m h0 h1]
theorem tki_off {xs : List Int} {a s : Int} (h : (xs.length : Int) < a + s) (ha : 0 ≤ a) (hs : 0 ≤ s) : tki xs a s = 0 := by
  unfold tki
  rw [if_neg (by omega)]
theorem beg_esi (x : NL) (k rd tag : Int) : beg k rd x.esi tag = ⟨k, rd, x.e0, x.e1, x.e2, x.e3, x.e4, x.e5, x.e6, x.e7, x.e8, x.e9, tag, 0, 0, false, 0, 0, 0, 0, 0⟩ := rfl
theorem vesi_of {xs : List Int} {v : Int} {X R : List Int} (he : xs = be v 8 ++ (X ++ R)) (hX : X.length = 10) : vesi xs = X ∧ vat xs = 18 := by
  have hl : 18 ≤ xs.length := by rw [he]; simp [be_length, hX]; omega
  refine ⟨?_, by unfold vat; rw [if_pos hl]⟩
  unfold vesi
  rw [if_pos hl, he]
  have e : (be v 8 ++ (X ++ R)).drop 8 = X ++ R := by
    have := List.drop_left (l₁ := be v 8) (l₂ := X ++ R)
    rwa [be_length] at this
  rw [e, ← hX, List.take_left]

/-- What was written is read. -/
theorem vl_val {x : NL} {k : Nat} (hk : x.k = k) (h1 : 1 ≤ k) (h5 : k ≤ 5) (hx : x.ok) (hs : x.same (x.sh k) = true) : vl k (x.val k) = x := by
  have hs := NL.same_iff.1 hs
  have hrd := hx.rd
  have htag := hx.tag
  have hip := hx.ip
  have hmac := hx.mac
  have hl1 := hx.l1
  have hl2 := hx.l2
  have hgw := hx.gw
  have hpip := hx.pip
  have hpl := hx.pl
  have L := x.esi_len
  have h6 : k = 1 ∨ k = 2 ∨ k = 3 ∨ k = 4 ∨ k = 5 := by omega
  rcases h6 with rfl | rfl | rfl | rfl | rfl
  · obtain ⟨xs, hxs⟩ : ∃ xs, x.val1 = xs := ⟨_, rfl⟩
    show vl 1 x.val1 = x
    rw [hxs]
    have E : xs = be x.rd 8 ++ (x.esi ++ (be x.tag 4 ++ (be x.l1 3 ++ []))) := by rw [← hxs]; simp only [NL.val1, List.append_assoc, List.append_nil]
    obtain ⟨e1, e2⟩ := vesi_of E L
    have a1 : tki xs 0 8 = x.rd := tki_be (m := 8) (P := []) E rfl rfl hrd.1 (by have := hrd.2; omega)
    have a2 : tki xs 18 4 = x.tag := tki_be (m := 4) (P := be x.rd 8 ++ x.esi) (by rw [E]; simp only [List.append_assoc]; rfl) (by simp [be_length, L]) rfl htag.1 (by omega)
    have a3 : tki xs 22 3 = x.l1 := tki_be (m := 3) (P := be x.rd 8 ++ (x.esi ++ be x.tag 4)) (by rw [E]; simp only [List.append_assoc]; rfl) (by simp [be_length, L]) rfl hl1.1 (by omega)
    refine Eq.trans ?_ hs.symm
    show vw1 xs (vesi xs) (vat xs) = x.sh1
    rw [e1, e2]
    show ({ beg 1 (tki xs 0 8) x.esi (tki xs 18 4) with l1 := tki xs 22 3 } : NL) = _
    rw [a1, a2, a3, beg_esi]
    unfold NL.sh1
    rw [hk]
    rfl
  · obtain ⟨xs, hxs⟩ : ∃ xs, x.val2 = xs := ⟨_, rfl⟩
    show vl 2 x.val2 = x
    rw [hxs]
    have E : xs = be x.rd 8 ++ (x.esi ++ (be x.tag 4 ++ (be 48 1 ++ (be x.mac 6 ++ ((if x.has then be 32 1 ++ be x.ip 4 else be 0 1) ++ (be x.l1 3 ++ (if x.l2 = 0 then [] else be x.l2 3))))))) := by rw [← hxs]; simp only [NL.val2, List.append_assoc]
    obtain ⟨e1, e2⟩ := vesi_of E L
    have a1 : tki xs 0 8 = x.rd := tki_be (m := 8) (P := []) E rfl rfl hrd.1 (by have := hrd.2; omega)
    have a2 : tki xs 18 4 = x.tag := tki_be (m := 4) (P := be x.rd 8 ++ x.esi) (by rw [E]; simp only [List.append_assoc]; rfl) (by simp [be_length, L]) rfl htag.1 (by omega)
    have a3 : tki xs 23 6 = x.mac := tki_be (m := 6) (P := be x.rd 8 ++ (x.esi ++ (be x.tag 4 ++ be 48 1))) (by rw [E]; simp only [List.append_assoc]; rfl) (by simp [be_length, L]) rfl hmac.1 (by omega)
    refine Eq.trans ?_ hs.symm
    show vw2 xs (vesi xs) (vat xs) (tki xs (vat xs + 11) 1 == 32) = x.sh2
    rw [e1, e2]
    show vw2 xs x.esi 18 (tki xs 29 1 == 32) = _
    by_cases hh : x.has = true
    · rw [hh, if_pos rfl] at E
      have a4 : tki xs 29 1 = 32 := tki_be (m := 1) (P := be x.rd 8 ++ (x.esi ++ (be x.tag 4 ++ (be 48 1 ++ be x.mac 6)))) (by rw [E]; simp only [List.append_assoc]; rfl) (by simp [be_length, L]) rfl (by omega) (by omega)
      have a5 : tki xs 30 4 = x.ip := tki_be (m := 4) (P := be x.rd 8 ++ (x.esi ++ (be x.tag 4 ++ (be 48 1 ++ (be x.mac 6 ++ be 32 1))))) (by rw [E]; simp only [List.append_assoc]; rfl) (by simp [be_length, L]) rfl hip.1 (by omega)
      have a6 : tki xs 34 3 = x.l1 := tki_be (m := 3) (P := be x.rd 8 ++ (x.esi ++ (be x.tag 4 ++ (be 48 1 ++ (be x.mac 6 ++ (be 32 1 ++ be x.ip 4)))))) (by rw [E]; simp only [List.append_assoc]; rfl) (by simp [be_length, L]) rfl hl1.1 (by omega)
      have a7 : tki xs 37 3 = x.l2 := by
        by_cases h0 : x.l2 = 0
        · rw [h0]
          exact tki_off (by rw [E, if_pos h0]; simp [be_length, L]) (by omega) (by omega)
        · refine tki_be (m := 3) (R := []) (P := be x.rd 8 ++ (x.esi ++ (be x.tag 4 ++ (be 48 1 ++ (be x.mac 6 ++ (be 32 1 ++ (be x.ip 4 ++ be x.l1 3))))))) ?_ (by simp [be_length, L]) rfl hl2.1 (by omega)
          rw [E, if_neg h0]
          simp only [List.append_assoc, List.append_nil]
      rw [a4]
      show ({ beg 2 (tki xs 0 8) x.esi (tki xs 18 4) with mac := tki xs 23 6, has := true, ip := tki xs 30 4, l1 := tki xs 34 3, l2 := tki xs 37 3 } : NL) = _
      rw [a1, a2, a3, a5, a6, a7, beg_esi]
      unfold NL.sh2
      rw [hh, hk]
      rfl
    · have hh : x.has = false := by simpa using hh
      rw [hh, if_neg (by decide)] at E
      have a4 : tki xs 29 1 = 0 := tki_be (m := 1) (P := be x.rd 8 ++ (x.esi ++ (be x.tag 4 ++ (be 48 1 ++ be x.mac 6)))) (by rw [E]; simp only [List.append_assoc]; rfl) (by simp [be_length, L]) rfl (by omega) (by omega)
      have a6 : tki xs 30 3 = x.l1 := tki_be (m := 3) (P := be x.rd 8 ++ (x.esi ++ (be x.tag 4 ++ (be 48 1 ++ (be x.mac 6 ++ be 0 1))))) (by rw [E]; simp only [List.append_assoc]; rfl) (by simp [be_length, L]) rfl hl1.1 (by omega)
      have a7 : tki xs 33 3 = x.l2 := by
        by_cases h0 : x.l2 = 0
        · rw [h0]
          exact tki_off (by rw [E, if_pos h0]; simp [be_length, L]) (by omega) (by omega)
        · refine tki_be (m := 3) (R := []) (P := be x.rd 8 ++ (x.esi ++ (be x.tag 4 ++ (be 48 1 ++ (be x.mac 6 ++ (be 0 1 ++ be x.l1 3)))))) ?_ (by simp [be_length, L]) rfl hl2.1 (by omega)
          rw [E, if_neg h0]
          simp only [List.append_assoc, List.append_nil]
      rw [a4]
      show ({ beg 2 (tki xs 0 8) x.esi (tki xs 18 4) with mac := tki xs 23 6, has := false, ip := 0, l1 := tki xs 30 3, l2 := tki xs 33 3 } : NL) = _
      rw [a1, a2, a3, a6, a7, beg_esi]
      unfold NL.sh2
      rw [hh, hk]
      rfl
  · obtain ⟨xs, hxs⟩ : ∃ xs, x.val3 = xs := ⟨_, rfl⟩
    show vl 3 x.val3 = x
    rw [hxs]
    have E : xs = be x.rd 8 ++ (be x.tag 4 ++ (be 32 1 ++ (be x.ip 4 ++ []))) := by rw [← hxs]; simp only [NL.val3, List.append_assoc, List.append_nil]
    have a1 : tki xs 0 8 = x.rd := tki_be (m := 8) (P := []) E rfl rfl hrd.1 (by have := hrd.2; omega)
    have a2 : tki xs 8 4 = x.tag := tki_be (m := 4) (P := be x.rd 8) E (by simp [be_length]) rfl htag.1 (by omega)
    have a3 : tki xs 13 4 = x.ip := tki_be (m := 4) (P := be x.rd 8 ++ (be x.tag 4 ++ be 32 1)) (by rw [E]; simp only [List.append_assoc]; rfl) (by simp [be_length]) rfl hip.1 (by omega)
    refine Eq.trans ?_ hs.symm
    show vw3 xs = x.sh3
    unfold vw3
    rw [a1, a2, a3]
    unfold NL.sh3
    rw [hk]
    rfl
  · obtain ⟨xs, hxs⟩ : ∃ xs, x.val4 = xs := ⟨_, rfl⟩
    show vl 4 x.val4 = x
    rw [hxs]
    have E : xs = be x.rd 8 ++ (x.esi ++ (be 32 1 ++ (be x.ip 4 ++ []))) := by rw [← hxs]; simp only [NL.val4, List.append_assoc, List.append_nil]
    obtain ⟨e1, e2⟩ := vesi_of E L
    have a1 : tki xs 0 8 = x.rd := tki_be (m := 8) (P := []) E rfl rfl hrd.1 (by have := hrd.2; omega)
    have a3 : tki xs 19 4 = x.ip := tki_be (m := 4) (P := be x.rd 8 ++ (x.esi ++ be 32 1)) (by rw [E]; simp only [List.append_assoc]; rfl) (by simp [be_length, L]) rfl hip.1 (by omega)
    refine Eq.trans ?_ hs.symm
    show vw4 xs (vesi xs) (vat xs) = x.sh4
    rw [e1, e2]
    show ({ beg 4 (tki xs 0 8) x.esi 0 with has := true, ip := tki xs 19 4 } : NL) = _
    rw [a1, a3, beg_esi]
    unfold NL.sh4
    rw [hk]
    rfl
  · obtain ⟨xs, hxs⟩ : ∃ xs, x.val5 = xs := ⟨_, rfl⟩
    show vl 5 x.val5 = x
    rw [hxs]
    have E : xs = be x.rd 8 ++ (x.esi ++ (be x.tag 4 ++ (be x.pl 1 ++ (be x.pip 4 ++ (be x.gw 4 ++ (be x.l1 3 ++ [])))))) := by rw [← hxs]; simp only [NL.val5, List.append_assoc, List.append_nil]
    obtain ⟨e1, e2⟩ := vesi_of E L
    have a1 : tki xs 0 8 = x.rd := tki_be (m := 8) (P := []) E rfl rfl hrd.1 (by have := hrd.2; omega)
    have a2 : tki xs 18 4 = x.tag := tki_be (m := 4) (P := be x.rd 8 ++ x.esi) (by rw [E]; simp only [List.append_assoc]; rfl) (by simp [be_length, L]) rfl htag.1 (by omega)
    have a3 : tki xs 22 1 = x.pl := tki_be (m := 1) (P := be x.rd 8 ++ (x.esi ++ be x.tag 4)) (by rw [E]; simp only [List.append_assoc]; rfl) (by simp [be_length, L]) rfl hpl.1 (by omega)
    have a4 : tki xs 23 4 = x.pip := tki_be (m := 4) (P := be x.rd 8 ++ (x.esi ++ (be x.tag 4 ++ be x.pl 1))) (by rw [E]; simp only [List.append_assoc]; rfl) (by simp [be_length, L]) rfl hpip.1 (by omega)
    have a5 : tki xs 27 4 = x.gw := tki_be (m := 4) (P := be x.rd 8 ++ (x.esi ++ (be x.tag 4 ++ (be x.pl 1 ++ be x.pip 4)))) (by rw [E]; simp only [List.append_assoc]; rfl) (by simp [be_length, L]) rfl hgw.1 (by omega)
    have a6 : tki xs 31 3 = x.l1 := tki_be (m := 3) (P := be x.rd 8 ++ (x.esi ++ (be x.tag 4 ++ (be x.pl 1 ++ (be x.pip 4 ++ be x.gw 4))))) (by rw [E]; simp only [List.append_assoc]; rfl) (by simp [be_length, L]) rfl hl1.1 (by omega)
    refine Eq.trans ?_ hs.symm
    show vw5 xs (vesi xs) (vat xs) = x.sh5
    rw [e1, e2]
    show ({ beg 5 (tki xs 0 8) x.esi (tki xs 18 4) with pl := tki xs 22 1, pip := tki xs 23 4, gw := tki xs 27 4, l1 := tki xs 31 3 } : NL) = _
    rw [a1, a2, a3, a4, a5, a6, beg_esi]
    unfold NL.sh5
    rw [hk]
    rfl

/-- The fields of what value returns are in the ranges of their types. -/
theorem vl_ty {k : Nat} (h1 : 1 ≤ k) (h5 : k ≤ 5) {xs : List Int} (hb : ∀ v ∈ xs, 0 ≤ v ∧ v ≤ 255) : (vl k xs).ty := by
  have T8 : ∀ a, 0 ≤ tki xs a 8 ∧ tki xs a 8 < 18446744073709551616 := fun a => by
    have h : 0 ≤ tki xs a 8 ∧ tki xs a 8 < 256 ^ 8 := tki_bd hb a 8
    omega
  have T6 : ∀ a, 0 ≤ tki xs a 6 ∧ tki xs a 6 < 18446744073709551616 := fun a => by
    have h : 0 ≤ tki xs a 6 ∧ tki xs a 6 < 256 ^ 6 := tki_bd hb a 6
    omega
  have T4 : ∀ a, 0 ≤ tki xs a 4 ∧ tki xs a 4 < 4294967296 := fun a => by
    have h : 0 ≤ tki xs a 4 ∧ tki xs a 4 < 256 ^ 4 := tki_bd hb a 4
    omega
  have T3 : ∀ a, 0 ≤ tki xs a 3 ∧ tki xs a 3 < 4294967296 := fun a => by
    have h : 0 ≤ tki xs a 3 ∧ tki xs a 3 < 256 ^ 3 := tki_bd hb a 3
    omega
  have TE : ∀ X : List Int, (∀ v ∈ X, 0 ≤ v ∧ v ≤ 255) → ∀ v ∈ [ten X 0, ten X 1, ten X 2, ten X 3, ten X 4, ten X 5, ten X 6, ten X 7, ten X 8, ten X 9], 0 ≤ v ∧ v ≤ 255 := fun X hX v hv => by
    simp only [List.mem_cons, List.not_mem_nil, or_false] at hv
    rcases hv with rfl | rfl | rfl | rfl | rfl | rfl | rfl | rfl | rfl | rfl <;> exact ten_bd hX _
  have hE : ∀ v ∈ vesi xs, 0 ≤ v ∧ v ≤ 255 := fun v hv => by
    unfold vesi at hv
    split at hv
    · exact hb v (List.mem_of_mem_drop (List.mem_of_mem_take hv))
    · cases hv
  have h00 : (0 : Int) ≤ 0 ∧ (0 : Int) < 4294967296 := by omega
  have h08 : (0 : Int) ≤ 0 ∧ (0 : Int) < 18446744073709551616 := by omega
  have h6 : k = 1 ∨ k = 2 ∨ k = 3 ∨ k = 4 ∨ k = 5 := by omega
  rcases h6 with rfl | rfl | rfl | rfl | rfl
  · exact ⟨rfl, T8 _, TE _ hE, T4 _, h08, h00, h00, h00, T3 _, h00⟩
  · have hI : 0 ≤ (if (tki xs (vat xs + 11) 1 == 32) = true then tki xs (vat xs + 12) 4 else 0) ∧ (if (tki xs (vat xs + 11) 1 == 32) = true then tki xs (vat xs + 12) 4 else 0) < 4294967296 := by
      split
      · exact T4 _
      · exact h00
    exact ⟨rfl, T8 _, TE _ hE, T4 _, T6 _, hI, h00, h00, T3 _, T3 _⟩
  · exact ⟨rfl, T8 _, TE [] (by simp), T4 _, h08, T4 _, h00, h00, h00, h00⟩
  · exact ⟨rfl, T8 _, TE _ hE, h00, h08, T4 _, h00, h00, h00, h00⟩
  · exact ⟨rfl, T8 _, TE _ hE, T4 _, h08, h00, T4 _, T4 _, T3 _, h00⟩

/-- Pieces. -/
theorem ps_one (x : Int) (V : List Int) : (ps0 (x :: V)).t 1 = ⟨x :: V, 0, 1, 0, 0⟩ ∧ pk (x :: V) = x := by
  refine ⟨?_, ?_⟩
  · show (RS.take _ ((1 : Nat) : Int)).2 = _
    rw [take_c 1 rfl (by simp)]
  · show ((RS.take _ ((1 : Nat) : Int)).1.map num).getD 0 = _
    rw [take_c 1 rfl (by simp)]
    simp [num]
theorem ps_two (x : Int) (m : Int) (V : List Int) : pr (x :: m :: V) = ⟨x :: m :: V, 0, 2, 0, 0⟩ ∧ pn (x :: m :: V) = m := by
  have e1 := (ps_one x (m :: V)).1
  refine ⟨?_, ?_⟩
  · show ((ps0 _).t 1).t 1 = _
    rw [e1]
    show (RS.take _ ((1 : Nat) : Int)).2 = _
    rw [take_c 1 rfl (by simp)]
  · show ((ps0 _).t 1).got 1 = _
    rw [e1]
    show ((RS.take _ ((1 : Nat) : Int)).1.map num).getD 0 = _
    rw [take_c 1 rfl (by simp)]
    simp [num]
theorem dec_one (x : Int) : (dec [x]).2 = 4 := by
  have e2 : pr [x] = ⟨[x], 0, 1, 4, 1⟩ := by
    show ((ps0 _).t 1).t 1 = _
    rw [(ps_one x []).1]
    show (RS.take _ ((1 : Nat) : Int)).2 = _
    rw [take_b _ rfl (.inr (by simp))]
    rfl
  have e4 : ((pr [x]).t (pn [x])).ef = 4 := by
    rw [e2]
    show (RS.take _ _).2.ef = 4
    rw [take_a _ (show (4 : Int) ≠ 0 by decide)]
  unfold dec
  rw [if_pos (by rw [e4]; decide), e4]
theorem dec_cut (x : Int) (m : Nat) (V : List Int) (h : V.length < m) : (dec (x :: (m : Int) :: V)).2 = 4 := by
  obtain ⟨e2, e3⟩ := ps_two x m V
  have e4 : ((pr (x :: (m : Int) :: V)).t (pn (x :: (m : Int) :: V))).ef = 4 := by
    rw [e2, e3]
    show (RS.take _ _).2.ef = 4
    rw [take_b _ rfl (.inr (by simp; omega))]
  unfold dec
  rw [if_pos (by rw [e4]; decide), e4]
theorem dec_full (x : Int) (m : Nat) (V : List Int) (h : V.length = m) : ((x < 1 ∨ 5 < x) → (dec (x :: (m : Int) :: V)).2 = 6) ∧ (¬ (x < 1 ∨ 5 < x) → (dec (x :: (m : Int) :: V)).2 = 0 ∨ (dec (x :: (m : Int) :: V)).2 = 3) := by
  obtain ⟨e2, e3⟩ := ps_two x m V
  have e1 := (ps_one x ((m : Int) :: V)).2
  have e4 : ((pr (x :: (m : Int) :: V)).t (pn (x :: (m : Int) :: V))).ef = 0 := by
    rw [e2, e3]
    show (RS.take _ _).2.ef = 0
    rw [take_c m rfl (by simp; omega)]
  constructor
  · intro hx
    unfold dec
    rw [if_neg (by rw [e4]; decide), e1, if_pos hx]
  · intro hx
    unfold dec
    rw [if_neg (by rw [e4]; decide), e1, if_neg hx]
    split
    · exact .inr rfl
    · exact .inl rfl

section
variable {bs : List Int} {i : Nat} {L : List NL}
/-- What Read answers, seen from a piece on. -/
def From (bs : List Int) (L : List NL) (i : Nat) : Prop := readP bs = runp bs L (pos bs bs.length i)
theorem From.start (bs : List Int) : From bs [] 0 := rfl
theorem From.done (h : From bs L i) (hi : bs.length ≤ i) : readP bs = (L, 0, 0) := by rw [h, pos_done hi, runp]
theorem From.bad (h : From bs L i) (hi : i < bs.length) (hd : (dec (piece bs i)).2 ≠ 0) : readP bs = ([], (dec (piece bs i)).2, (i : Int)) := by
  rw [h, pos_step hi (by omega), runp, if_pos hd]
theorem From.next (h : From bs L i) (hi : i < bs.length) (hd : (dec (piece bs i)).2 = 0) : From bs (L ++ [(dec (piece bs i)).1]) (i + cut (bs.drop i)) := by
  unfold From
  rw [h, pos_step hi (by omega), runp, if_neg (by rw [hd]; simp)]
theorem drop_two (h : i + 1 < bs.length) : bs.drop i = bs[i] :: bs[i + 1] :: bs.drop (i + 2) := by
  rw [List.drop_eq_getElem_cons (by omega), List.drop_eq_getElem_cons (by omega)]
theorem From.short1 (h : From bs L i) (hi : i + 1 = bs.length) : readP bs = ([], 4, (i : Int)) := by
  have e : piece bs i = [bs[i]'(by omega)] := by
    have e1 : bs.drop i = [bs[i]'(by omega)] := by rw [List.drop_eq_getElem_cons (by omega), List.drop_of_length_le (by omega)]
    rw [piece, e1]
    rfl
  have hd : (dec (piece bs i)).2 = 4 := by rw [e]; exact dec_one _
  rw [h.bad (by omega) (by rw [hd]; decide), hd]
theorem From.short2 (h : From bs L i) (hi : i + 1 < bs.length) {m : Nat} (hm : bs[i + 1] = (m : Int)) (hl : bs.length < i + 2 + m) : readP bs = ([], 4, (i : Int)) := by
  have e1 := drop_two hi
  rw [hm] at e1
  have e : piece bs i = bs[i] :: (m : Int) :: bs.drop (i + 2) := by
    have hc : cut (bs.drop i) = (bs.drop i).length := by
      unfold cut
      rw [e1]
      simp
      omega
    rw [piece, hc, List.take_length, e1]
  have hd : (dec (piece bs i)).2 = 4 := by rw [e]; exact dec_cut _ _ _ (by simp; omega)
  rw [h.bad (by omega) (by rw [hd]; decide), hd]
theorem piece_full (hi : i + 1 < bs.length) {m : Nat} (hm : bs[i + 1] = (m : Int)) (hl : i + 2 + m ≤ bs.length) : piece bs i = bs[i] :: (m : Int) :: (bs.drop (i + 2)).take m ∧ cut (bs.drop i) = 2 + m := by
  have e1 := drop_two hi
  rw [hm] at e1
  have hg : (bs.drop i).getD 1 0 = (m : Int) := by rw [e1]; simp
  have hc : cut (bs.drop i) = 2 + m := by
    unfold cut
    rw [if_neg (by simp; omega), hg]
    simp
    omega
  refine ⟨?_, hc⟩
  rw [piece, hc, e1, show 2 + m = (m + 1) + 1 by omega, List.take_succ_cons, List.take_succ_cons]
theorem From.type (h : From bs L i) (hi : i + 1 < bs.length) {m : Nat} (hm : bs[i + 1] = (m : Int)) (hl : i + 2 + m ≤ bs.length) (hk : bs[i] < 1 ∨ 5 < bs[i]) : readP bs = ([], 6, (i : Int)) := by
  have hd : (dec (piece bs i)).2 = 6 := by
    rw [(piece_full hi hm hl).1]
    exact (dec_full _ m _ (by simp; omega)).1 hk
  rw [h.bad (by omega) (by rw [hd]; decide), hd]
theorem From.form (h : From bs L i) (hb : ∀ v ∈ bs, 0 ≤ v ∧ v ≤ 255) (hi : i + 1 < bs.length) {m k : Nat} (hm : bs[i + 1] = (m : Int)) (hl : i + 2 + m ≤ bs.length) (hk : bs[i] = (k : Int)) (h1 : 1 ≤ k) (h5 : k ≤ 5)
    (hn : ¬ (chk (vl k ((bs.drop (i + 2)).take m)) = 0 ∧ enc (vl k ((bs.drop (i + 2)).take m)) = piece bs i)) : readP bs = ([], 3, (i : Int)) := by
  obtain ⟨hp, hc⟩ := piece_full hi hm hl
  have hV : ((bs.drop (i + 2)).take m).length = m := by simp; omega
  have hd : (dec (piece bs i)).2 = 3 := by
    rcases (show (dec (piece bs i)).2 = 0 ∨ (dec (piece bs i)).2 = 3 by rw [hp]; exact (dec_full _ m _ hV).2 (by omega)) with h0 | h0
    · exfalso
      obtain ⟨c1, c2, _⟩ := dec_ok h0
      have c3 : (dec (piece bs i)).1.ty := dec_ty (fun v hv => hb v (List.mem_of_mem_drop (List.mem_of_mem_take hv))) h0
      obtain ⟨x, hx⟩ : ∃ x, (dec (piece bs i)).1 = x := ⟨_, rfl⟩
      rw [hx] at c1 c2 c3
      refine hn ?_
      have e : enc x = x.k :: ((x.val x.k.toNat).length : Int) :: x.val x.k.toNat := by simp [enc]
      rw [e, hp, hk] at c2
      injection c2 with d1 d2
      injection d2 with d2 d3
      have dk : x.k.toNat = k := by omega
      rw [dk] at d3
      have hv := vl_val d1 h1 h5 (c3.ok c1) (by have := (chk_zero c1).2.1; rwa [dk] at this)
      rw [d3] at hv
      rw [hv]
      refine ⟨c1, ?_⟩
      rw [e, hp, hk, dk, d1, d3, hV]
    · exact h0
  rw [h.bad (by omega) (by rw [hd]; decide), hd]
theorem From.fine (h : From bs L i) (hb : ∀ v ∈ bs, 0 ≤ v ∧ v ≤ 255) (hi : i + 1 < bs.length) {m k : Nat} (hm : bs[i + 1] = (m : Int)) (hl : i + 2 + m ≤ bs.length) (h1 : 1 ≤ k) (h5 : k ≤ 5)
    (c : chk (vl k ((bs.drop (i + 2)).take m)) = 0) (he : enc (vl k ((bs.drop (i + 2)).take m)) = piece bs i) : From bs (L ++ [vl k ((bs.drop (i + 2)).take m)]) (i + 2 + m) := by
  have hd := dec_enc (vl_ty h1 h5 (xs := (bs.drop (i + 2)).take m) (fun v hv => hb v (List.mem_of_mem_drop (List.mem_of_mem_take hv)))) c
  rw [he] at hd
  have hn := h.next (by omega) (by rw [hd])
  rw [hd, (piece_full hi hm hl).2, ← Nat.add_assoc] at hn
  exact hn
end

end Go.Proofs.Ythhajknmokomjaa
