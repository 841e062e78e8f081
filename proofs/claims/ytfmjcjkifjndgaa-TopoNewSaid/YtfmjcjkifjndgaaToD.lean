/- Graphs: Up, Nodes, Links, Flags, SetLink, SetNode, Copy. -/
import Derived.Test.YtfmjcjkifjndgaaToC
import Derived.Deep.Cut
import Derived.Deep.DeepCutAuto
import Derived.LoopTactic
import Derived.Deep.OwnRows
namespace Go.Proofs.Ytfmjcjkifjndgaa
open Go.RowKit
set_option linter.unusedVariables false
set_option linter.unusedSimpArgs false
set_option maxRecDepth 100000

theorem up_any (g b : Nat) (s : GS) (w : World) (H : Gr w g b s) (i : Int) :
    Calls Try.prog 24 #[.pointer (some ⟨g, 0, none⟩), .int .i64 i] w fun e w' => e = .returned (.bool (s.upI i)) ∧ w = w' := by
  have HH := Lib.hid H
  obtain ⟨A, c, a0, a1, i0, i1, h⟩ := H
  have hA := Lib.hid h.liAt
  have hm := h.ok.m128
  by_cases hn : i < 0 ∨ (s.L.length : Int) ≤ i
  · have hr : s.upI i = false := by
      unfold GS.upI GS.up
      rcases hn with hn | hn
      · simp; intro h9; omega
      · rw [List.getElem?_eq_none (by omega)]; simp
    have HR := Lib.hid hr
    clear h hr
    go_enter Try.func24, Try.ntmps24
    go_wp2_with (go_at_call 54; refine (hasLink_no _ _ _ _ HH.out _ hn).mono ?_; rintro e w' ⟨rfl, rfl⟩)
    go_ret
    exact ⟨by rw [HR.out]; rfl, rfl⟩
  · obtain ⟨k, rfl⟩ : ∃ k : Nat, i = k := ⟨i.toNat, by omega⟩
    have hk : k < s.L.length := by omega
    obtain ⟨x, hx⟩ : ∃ x, s.L[k]? = some x := ⟨s.L[k], by simp [hk]⟩
    have hf := h.ok.fine x (List.mem_of_getElem? hx)
    obtain ⟨a0', a1', b0', b1', _⟩ := hf
    have hr : s.upI (k : Int) = (s.li k && s.alive x.a && s.alive x.b) := by
      unfold GS.upI GS.up GS.alive
      simp [hx, a0', b0']
    have hAd : A = some ⟨b, 0, none⟩ := by
      rcases h.ad with rfl | h9
      · have := h.lks.nil rfl; omega
      · exact h9
    subst hAd
    have c1 : w.cell? ⟨g, 1, none⟩ = some (.slice (some ⟨b, 0, none⟩) s.L.length c) := h.blk.cell 1
    obtain ⟨q0, q1, q2⟩ := h.lks.at_ hx
    rw [Nat.zero_add] at q0 q1
    have hkc : k < c := by have := h.lks.cap; omega
    have hkl : (k : Int) < (s.L.length : Int) := by omega
    cases h1 : s.li k
    · have HR : Hid (s.upI (k : Int) = false) := Lib.hid (by rw [hr, h1]; rfl)
      have H1 := Lib.hid h1
      clear h hr hx hn h1
      go_enter Try.func24, Try.ntmps24
      go_wp2_with (first
        | (go_at_call 54; refine (hasLink_yes _ _ _ _ HH.out k hk).mono ?_; rintro e w' ⟨rfl, rfl⟩)
        | (go_at_call 57; refine (has_any _ _ _ k (by omega) _ hA.out).mono ?_; rintro e w' ⟨rfl, rfl⟩; rw [H1.out]))
      go_ret
      exact ⟨by rw [HR.out]; rfl, rfl⟩
    · cases h2 : s.alive x.a
      · have HR : Hid (s.upI (k : Int) = false) := Lib.hid (by rw [hr, h1, h2]; rfl)
        have H1 := Lib.hid h1
        have H2 := Lib.hid h2
        clear h hr hx hn h1 h2
        go_enter Try.func24, Try.ntmps24
        go_wp2_with (first
          | (go_at_call 54; refine (hasLink_yes _ _ _ _ HH.out k hk).mono ?_; rintro e w' ⟨rfl, rfl⟩)
          | (go_at_call 57; refine (has_any _ _ _ k (by omega) _ hA.out).mono ?_; rintro e w' ⟨rfl, rfl⟩; rw [H1.out])
          | (go_at_call 23; refine (alive_any _ _ _ _ HH.out _).mono ?_; rintro e w' ⟨rfl, rfl⟩; rw [H2.out]))
        go_ret
        exact ⟨by rw [HR.out]; rfl, rfl⟩
      · have HR : Hid (s.upI (k : Int) = s.alive x.b) := Lib.hid (by rw [hr, h1, h2]; rfl)
        have H1 := Lib.hid h1
        have H2 := Lib.hid h2
        clear h hr hx hn h1 h2
        go_enter Try.func24, Try.ntmps24
        go_wp2_with (first
          | (go_at_call 54; refine (hasLink_yes _ _ _ _ HH.out k hk).mono ?_; rintro e w' ⟨rfl, rfl⟩)
          | (go_at_call 57; refine (has_any _ _ _ k (by omega) _ hA.out).mono ?_; rintro e w' ⟨rfl, rfl⟩; rw [H1.out])
          | (go_at_call 23; have tok2 := H2; refine (alive_any _ _ _ _ HH.out x.a).mono ?_; rintro e w' ⟨rfl, rfl⟩; rw [H2.out]; clear H2 tok2)
          | (go_at_call 23; refine (alive_any _ _ _ _ HH.out x.b).mono ?_; rintro e w' ⟨rfl, rfl⟩))
        go_ret
        exact ⟨by rw [HR.out]; simp, rfl⟩

theorem nodes_any (g b : Nat) (s : GS) (w : World) (H : Gr w g b s) :
    Calls Try.prog 25 #[.pointer (some ⟨g, 0, none⟩)] w fun e w' => e = .returned (.int .i64 (s.N : Int)) ∧ w = w' := by
  have HH := Lib.hid H
  obtain ⟨A, c, a0, a1, i0, i1, h⟩ := H
  have c0 : w.cell? ⟨g, 0, none⟩ = some (.int .i64 (s.N : Int)) := h.blk.cell 0
  clear h
  go_enter Try.func25, Try.ntmps25
  go_wp2_with (go_at_call 53; refine (valid_yes _ _ _ _ HH.out).mono ?_; rintro e w' ⟨rfl, rfl⟩)
  go_ret
  exact ⟨rfl, rfl⟩

theorem info_link : (Try.prog.info? 26).map (fun i => (i.zero, i.size, i.bytes)) = some (some (.agg #[.int .i64 0, .int .i64 0, .int .i64 0]), 3, 24) := by kernel_rfl
theorem info_edge : (Try.prog.info? 74).map (fun i => (i.zero, i.size, i.bytes)) = some (some (.agg #[.int .i64 0, .int .i64 0, .int .i64 0]), 3, 24) := by kernel_rfl
theorem info_int : (Try.prog.info? 3).map (fun i => (i.zero, i.size, i.bytes)) = some (some (.int .i64 0), 1, 8) := by kernel_rfl
theorem info_bool : (Try.prog.info? 4).map (fun i => (i.zero, i.size, i.bytes)) = some (some (.bool false), 1, 1) := by kernel_rfl
theorem info_ints : (Try.prog.info? 58).map (fun i => (i.zero, i.size, i.bytes)) = some (some (.slice none 0 0), 1, 24) := by kernel_rfl
theorem info_set : (Try.prog.info? 48).map (fun i => (i.zero, i.size)) = some (some (.agg #[.int .u64 0, .int .u64 0]), 2) := by kernel_rfl

/-- The block of an empty literal. -/
theorem own_empty (w : World) (t : TypeId) (k : Nat) : (w.alloc (.cells #[] t)).ownsRow w.heap.size t k (.slice (some ⟨w.heap.size, 0, none⟩) 0 0) 0 [] :=
  ⟨by simp, .inr ⟨w.heap.size, 0, #[], rfl, Nat.le_refl _, heap_alloc_new w _, Nat.le_refl _, by simp, by simp, by simp⟩⟩

theorem grown_below {B : Nat} {a w w' : World} {row : Option Nat} (h : Below B a w) (k : w.grownBy w' row) (hg : ∀ r, row = some r → B ≤ r) (hB : B ≤ w.heap.size) : Below B a w' :=
  ⟨k.os.trans h.os, k.tape.trans h.tape, k.output.trans h.output, Nat.le_trans h.size k.size, fun i hi => (k.block i (by omega) (fun e => by have := hg i e.symm; omega)).trans (h.block i hi)⟩

/-- A copy of links. -/
def Cloned (w : World) (L : List LK) (e : Ending) (w' : World) : Prop := ∃ A c, e = .returned (.slice A L.length c) ∧ w'.ownsRow w.heap.size 26 3 (.slice A L.length c) L.length (flatL L) ∧ Below w.heap.size w w'
theorem own_form {w : World} {B k n : Nat} {t : TypeId} {v : Value} {xs : List Value} (h : w.ownsRow B t k v n xs) : ∃ A c, v = .slice A n c ∧ (A = none ∨ ∃ g, B ≤ g ∧ g < w.heap.size ∧ A = some ⟨g, 0, none⟩) := by
  rcases h.2 with ⟨rfl, rfl⟩ | ⟨g, cap, cur, rfl, hb, hh, _⟩
  · exact ⟨none, 0, rfl, .inl rfl⟩
  · exact ⟨_, cap, rfl, .inr ⟨g, hb, Has.lt (show Has w g t cur from hh), rfl⟩⟩

theorem clone_any (A : Option Addr) (n c : Nat) (L : List LK) (w : World) (H : Lks w A n c L) (hm : n ≤ 1000000) :
    Calls Try.prog 43 #[.slice A n c] w (Cloned w L) := by
  have hlen := H.len
  cases A with
  | none =>
    have h0 := H.nil rfl
    have hq := Lib.run_eql_slice_nil (P := Try.prog) w 22 26 none n c 0 0 Try.underlying22
    obtain rfl : L = [] := List.eq_nil_of_length_eq_zero (by omega)
    clear H hlen
    subst h0
    go_enter Try.func43, Try.ntmps43
    go_wp2
    go_ret
    exact ⟨none, 0, rfl, World.ownsRow_nil _ _ _ _, Below.refl _ _⟩
  | some ad =>
    obtain ⟨i0, hi0, hz0, hz1, hz2⟩ := info_parts info_link
    have hq := Lib.run_eql_slice_nil (P := Try.prog) w 22 26 (some ad) n c 0 0 Try.underlying22
    have HC := Lib.hid ((H.below ((Below.refl _ w).alloc (Nat.le_refl _) (.cells #[] 26))).cel ad rfl)
    have HL : Hid ((flatL L).length = n * 3) := Lib.hid (by rw [flatL_len, hlen])
    have HN := Lib.hid hlen
    have HO := flatL_one L
    have HE := Lib.hid (own_empty w 26 3)
    clear H hlen
    go_enter Try.func43, Try.ntmps43
    go_wp2_with (at_builtin; refine wpList_append_own _ rfl _ _ 22 rfl w.heap.size 26 i0 (.agg #[.int .i64 0, .int .i64 0, .int .i64 0]) 3 24 Try.underlying22 hi0 hz0 hz1 hz2 rfl (by decide) _ 0 [] rfl HE.out ad n c (flatL L) rfl HL.out HC.out HO (by unfold maxLen; omega) (by omega) (by simp) ?_)
    intro v' w1 hown hgrow hnil
    obtain ⟨A', c', rfl, _⟩ := own_form hown
    have HOwn := Lib.hid hown
    have hbel : Below w.heap.size w w1 := grown_below ((Below.refl _ w).alloc (Nat.le_refl _) (.cells #[] 26)) hgrow (by simp [Value.ownBlock]) (by simp)
    have HB := Lib.hid hbel
    clear hown hgrow hnil hbel HO
    go_wp2
    go_ret
    refine ⟨A', c', ?_, ?_, HB.out⟩
    · rw [← HN.out]; simp
    · have := HOwn.out
      rw [HN.out] at this
      exact this

theorem links_any (g b : Nat) (s : GS) (w : World) (H : Gr w g b s) :
    Calls Try.prog 26 #[.pointer (some ⟨g, 0, none⟩)] w (Cloned w s.L) := by
  have HH := Lib.hid H
  obtain ⟨A, c, a0, a1, i0, i1, h⟩ := H
  have c1 : w.cell? ⟨g, 1, none⟩ = some (.slice A s.L.length c) := h.blk.cell 1
  have HL := Lib.hid h.lks
  have hm := h.ok.m128
  clear h
  go_enter Try.func26, Try.ntmps26
  go_wp2_with (first
    | (go_at_call 53; refine (valid_yes _ _ _ _ HH.out).mono ?_; rintro e w' ⟨rfl, rfl⟩)
    | (go_at_call 43; refine (clone_any _ _ _ _ _ HL.out (by omega)).mono ?_; rintro e w1 ⟨A1, c1', rfl, h2, h3⟩; have H2 := Lib.hid h2; have H3 := Lib.hid h3; clear h2 h3))
  go_ret
  exact ⟨A1, c1', rfl, H2.out, H3.out⟩

def GS.setLi (s : GS) (i : Nat) (u : Bool) : GS := { s with li := put s.li i u }
def GS.setAl (s : GS) (i : Nat) (u : Bool) : GS := { s with al := put s.al i u }
theorem setLi_ok {s : GS} (h : s.ok) {i : Nat} (hi : i < s.L.length) (u : Bool) : (s.setLi i u).ok :=
  ⟨h.n1, h.n32, h.m128, h.fine, h.alN, fun k hk => by
    by_cases e : k = i
    · subst e; exact hi
    · exact h.liM k (by rw [← put_other (F := s.li) e u]; exact hk)⟩
theorem setAl_ok {s : GS} (h : s.ok) {i : Nat} (hi : i < s.N) (u : Bool) : (s.setAl i u).ok :=
  ⟨h.n1, h.n32, h.m128, h.fine, fun k hk => by
    by_cases e : k = i
    · subst e; exact hi
    · exact h.alN k (by rw [← put_other (F := s.al) e u]; exact hk), h.liM⟩
/-- What SetLink and SetNode return and leave. -/
def setLink (s : GS) (i : Int) (u : Bool) : Int × GS := if 0 ≤ i ∧ i < (s.L.length : Int) then (0, s.setLi i.toNat u) else (2, s)
def setNode (s : GS) (n : Int) (u : Bool) : Int × GS := if 0 ≤ n ∧ n < (s.N : Int) then (0, s.setAl n.toNat u) else (2, s)
/-- A call that turns a graph's own block alone. -/
def SetTo (w : World) (g b : Nat) (r : Int × GS) (e : Ending) (w' : World) : Prop := e = .returned (.int .i64 r.1) ∧ Gr w' g b r.2 ∧ Only w g w'

theorem setLink_any (g b : Nat) (s : GS) (w : World) (H : Gr w g b s) (i : Int) (u : Bool) :
    Calls Try.prog 17 #[.pointer (some ⟨g, 0, none⟩), .int .i64 i, .bool u] w (SetTo w g b (setLink s i u)) := by
  have HH := Lib.hid H
  obtain ⟨A, c, a0, a1, i0, i1, h⟩ := H
  have hm := h.ok.m128
  by_cases hn : i < 0 ∨ (s.L.length : Int) ≤ i
  · have hr : setLink s i u = (2, s) := by unfold setLink; rw [if_neg (by omega)]
    rw [hr]
    clear h hr
    go_enter Try.func17, Try.ntmps17
    go_wp2_with (first
      | (go_at_call 53; refine (valid_yes _ _ _ _ HH.out).mono ?_; rintro e w' ⟨rfl, rfl⟩)
      | (go_at_call 54; refine (hasLink_no _ _ _ _ HH.out _ hn).mono ?_; rintro e w' ⟨rfl, rfl⟩))
    go_ret
    exact ⟨rfl, HH.out, only_refl _ _⟩
  · obtain ⟨k, rfl⟩ : ∃ k : Nat, i = k := ⟨i.toNat, by omega⟩
    have hk : k < s.L.length := by omega
    have hr : setLink s k u = (0, s.setLi k u) := by unfold setLink; rw [if_pos (by omega)]; simp
    have HX := Lib.hid h
    rw [hr]
    clear h hr hn
    go_enter Try.func17, Try.ntmps17
    go_wp2_with (first
      | (go_at_call 53; refine (valid_yes _ _ _ _ HH.out).mono ?_; rintro e w' ⟨rfl, rfl⟩)
      | (go_at_call 54; refine (hasLink_yes _ _ _ _ HH.out k hk).mono ?_; rintro e w' ⟨rfl, rfl⟩)
      | (go_at_call 55; refine (put_any g 4 _ _ i0 i1 s.li k u (by omega) _ HX.out.blk rfl rfl HX.out.li).mono ?_; rintro e w1 ⟨⟨v1, rfl⟩, x0, x1, h2, h3, h4⟩; have H2 := Lib.hid h2; have H3 := Lib.hid h3; have H4 := Lib.hid h4; clear h2 h3 h4))
    go_ret
    refine ⟨rfl, ⟨A, c, a0, a1, x0, x1, H3.out, HX.out.row.kept H4.out (.inr ?_), HX.out.ad, HX.out.al, H2.out, setLi_ok HX.out.ok hk u, Nat.lt_of_lt_of_le HX.out.bl H4.out.size⟩, H4.out⟩
    exact own_not HX.out.blk (by decide) HX.out.row
theorem setNode_any (g b : Nat) (s : GS) (w : World) (H : Gr w g b s) (i : Int) (u : Bool) :
    Calls Try.prog 19 #[.pointer (some ⟨g, 0, none⟩), .int .i64 i, .bool u] w (SetTo w g b (setNode s i u)) := by
  have HH := Lib.hid H
  obtain ⟨A, c, a0, a1, i0, i1, h⟩ := H
  have hm := h.ok.n32
  by_cases hn : i < 0 ∨ (s.N : Int) ≤ i
  · have hr : setNode s i u = (2, s) := by unfold setNode; rw [if_neg (by omega)]
    rw [hr]
    clear h hr
    go_enter Try.func19, Try.ntmps19
    go_wp2_with (first
      | (go_at_call 53; refine (valid_yes _ _ _ _ HH.out).mono ?_; rintro e w' ⟨rfl, rfl⟩)
      | (go_at_call 56; refine (hasNode_no _ _ _ _ HH.out _ hn).mono ?_; rintro e w' ⟨rfl, rfl⟩))
    go_ret
    exact ⟨rfl, HH.out, only_refl _ _⟩
  · obtain ⟨k, rfl⟩ : ∃ k : Nat, i = k := ⟨i.toNat, by omega⟩
    have hk : k < s.N := by omega
    have hr : setNode s k u = (0, s.setAl k u) := by unfold setNode; rw [if_pos (by omega)]; simp
    have HX := Lib.hid h
    rw [hr]
    clear h hr hn
    go_enter Try.func19, Try.ntmps19
    go_wp2_with (first
      | (go_at_call 53; refine (valid_yes _ _ _ _ HH.out).mono ?_; rintro e w' ⟨rfl, rfl⟩)
      | (go_at_call 56; refine (hasNode_yes _ _ _ _ HH.out k hk).mono ?_; rintro e w' ⟨rfl, rfl⟩)
      | (go_at_call 55; refine (put_any g 2 _ _ a0 a1 s.al k u (by omega) _ HX.out.blk rfl rfl HX.out.al).mono ?_; rintro e w1 ⟨⟨v1, rfl⟩, x0, x1, h2, h3, h4⟩; have H2 := Lib.hid h2; have H3 := Lib.hid h3; have H4 := Lib.hid h4; clear h2 h3 h4))
    go_ret
    refine ⟨rfl, ⟨A, c, x0, x1, i0, i1, H3.out, HX.out.row.kept H4.out (.inr ?_), HX.out.ad, H2.out, HX.out.li, setAl_ok HX.out.ok hk u, Nat.lt_of_lt_of_le HX.out.bl H4.out.size⟩, H4.out⟩
    exact own_not HX.out.blk (by decide) HX.out.row

end Go.Proofs.Ytfmjcjkifjndgaa
