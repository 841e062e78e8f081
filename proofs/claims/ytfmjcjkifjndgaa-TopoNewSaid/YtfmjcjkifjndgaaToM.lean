/- Graphs: New, whole. -/
import Derived.Test.YtfmjcjkifjndgaaToL
import Derived.WalkLawsBesides
namespace Go.Proofs.Ytfmjcjkifjndgaa
open Go.RowKit
set_option linter.unusedVariables false
set_option linter.unusedSimpArgs false
set_option maxRecDepth 100000

def lkE (N : Int) (L : List LK) : List Int := L.flatMap fun x => [eR N x, eL x]
def ckE (N : Int) (n : Nat) (L : List LK) : List Int := [e0 N, e1 n] ++ lkE N L
/-- The error of a number of nodes and a list of links. -/
def valE (N : Int) (L : List LK) : Int := if ¬ (1 ≤ N ∧ N ≤ 32) then 2 else if 128 < L.length then 5 else fnz (lkE N L)
theorem ck_val (N : Int) (L : List LK) : fnz (ckE N L.length (L.take 128)) = valE N L := by
  unfold ckE valE
  show (if e0 N ≠ 0 then e0 N else if e1 L.length ≠ 0 then e1 L.length else fnz (lkE N (L.take 128))) = _
  unfold e0 e1
  by_cases h : 1 ≤ N ∧ N ≤ 32
  · have h9 : ¬ ¬ (1 ≤ N ∧ N ≤ 32) := fun h9 => h9 h
    by_cases h2 : L.length ≤ 128
    · have h3 : ¬ 128 < L.length := by omega
      simp only [h, h2, h3, if_true, if_false, not_true, ne_eq, List.take_of_length_le h2, and_self]
    · have h3 : 128 < L.length := by omega
      simp [h, h2, h3]
  · rw [if_neg h, if_pos (by simp), if_pos h]
theorem lkE_len (N : Int) (L : List LK) : (lkE N L).length = 2 * L.length := by
  induction L with
  | nil => rfl
  | cons x L ih =>
    have : lkE N (x :: L) = [eR N x, eL x] ++ lkE N L := by simp [lkE]
    rw [this, List.length_append, ih]; simp; omega
theorem lkE_snoc (N : Int) (L : List LK) (x : LK) : lkE N (L ++ [x]) = lkE N L ++ [eR N x, eL x] := by simp [lkE]

def Cks (w : World) (vs : List Value) (rs : List Int) : Prop := vs.length = rs.length ∧ ∀ (j : Nat) (v : Value) (r : Int), vs[j]? = some v → rs[j]? = some r → CkIs w v r
theorem Cks.keep {w w' : World} {vs : List Value} {rs : List Int} (h : Cks w vs rs) (hk : ∀ g t cs, t ≠ 93 → Has w g t cs → Has w' g t cs) : Cks w' vs rs := ⟨h.1, fun j v r h1 h2 => (h.2 j v r h1 h2).keep hk⟩
theorem Cks.app {w : World} {vs us : List Value} {rs ss : List Int} (h : Cks w vs rs) (k : Cks w us ss) : Cks w (vs ++ us) (rs ++ ss) := by
  refine ⟨by simp [h.1, k.1], fun j v r h1 h2 => ?_⟩
  by_cases hj : j < vs.length
  · rw [List.getElem?_append_left hj] at h1
    rw [List.getElem?_append_left (by rw [← h.1]; exact hj)] at h2
    exact h.2 j v r h1 h2
  · rw [List.getElem?_append_right (by omega)] at h1
    rw [List.getElem?_append_right (by rw [← h.1]; omega), ← h.1] at h2
    exact k.2 _ v r h1 h2
theorem cks_two {w : World} {u v : Value} {r s : Int} (h1 : CkIs w u r) (h2 : CkIs w v s) : Cks w [u, v] [r, s] := by
  refine ⟨rfl, fun j x y hx hy => ?_⟩
  match j, hx, hy with
  | 0, hx, hy => simp at hx hy; subst hx hy; exact h1
  | 1, hx, hy => simp at hx hy; subst hx hy; exact h2
  | j + 2, hx, _ => simp at hx

theorem info_fn : (Try.prog.info? 93).map (fun i => (i.zero, i.size, i.bytes)) = some (some .nilFunc, 1, 8) := by kernel_rfl

/-- What checks returns. -/
def CksTo (w : World) (N : Int) (L : List LK) (e : Ending) (w' : World) : Prop := ∃ g c m vs, e = .returned (.slice (some ⟨g, 0, none⟩) m c) ∧ vs.length = m ∧ m ≤ c ∧ m ≤ 1000 ∧ (∀ (j : Nat) (v : Value), vs[j]? = some v → w'.cell? ⟨g, j, none⟩ = some v) ∧ Cks w' vs (ckE N L.length (L.take 128)) ∧ Below w.heap.size w w'

abbrev fn60 (w : World) : Value := .func (.func 60) #[] #[.pointer (some ⟨w.heap.size, 0, none⟩)]
abbrev fn61 (w : World) : Value := .func (.func 61) #[] #[.pointer (some ⟨w.heap.size, 0, none⟩)]
abbrev fn63 (w : World) : Value := .func (.func 63) #[] #[.pointer (some ⟨w.heap.size + 1, 0, none⟩)]

/-- Four blocks laid ahead of the loop. -/
structure CW (w : World) (N : Int) (A : Option Addr) (n c : Nat) (W : World) : Prop where
  b2 : Has W w.heap.size 3 #[.int .i64 N]
  b3 : Has W (w.heap.size + 1) 22 #[.slice A n c]
  b5 : Has W (w.heap.size + 2) 44 #[fn60 w]
theorem cw_start (w : World) (N : Int) (A : Option Addr) (n c : Nat) : CW w N A n c ((((w.alloc (.cells #[.int .i64 N] 3)).alloc (.cells #[.slice A n c] 22)).alloc (.cells #[fn60 w] 44)).alloc (.cells #[fn61 w, fn63 w] 93)) ∧
    ((((w.alloc (.cells #[.int .i64 N] 3)).alloc (.cells #[.slice A n c] 22)).alloc (.cells #[fn60 w] 44)).alloc (.cells #[fn61 w, fn63 w] 93)).ownsRow w.heap.size 93 1 (.slice (some ⟨w.heap.size + 3, 0, none⟩) 2 2) 2 [fn61 w, fn63 w] := by
  have up : ∀ {w : World} {g : Nat} {t : TypeId} {cs : Array Value} (o : Obj), Has w g t cs → Has (w.alloc o) g t cs := fun o h => h.below ((Below.refl _ _).alloc (Nat.le_refl _) _)
  have h1 := Has.new w 3 #[.int .i64 N]
  have h2 := Has.new (w.alloc (.cells #[.int .i64 N] 3)) 22 #[.slice A n c]
  have h3 := Has.new ((w.alloc (.cells #[.int .i64 N] 3)).alloc (.cells #[.slice A n c] 22)) 44 #[fn60 w]
  have h4 := Has.new (((w.alloc (.cells #[.int .i64 N] 3)).alloc (.cells #[.slice A n c] 22)).alloc (.cells #[fn60 w] 44)) 93 #[fn61 w, fn63 w]
  simp only [World.size_alloc] at h2 h3 h4
  exact ⟨⟨up _ (up _ (up _ h1)), up _ (up _ h2), up _ h3⟩, rfl, .inr ⟨w.heap.size + 3, 2, _, rfl, by omega, h4, by omega, by simp [maxLen], rfl, rfl⟩⟩
theorem CW.keep {w : World} {N : Int} {A : Option Addr} {n c : Nat} {W W' : World} (h : CW w N A n c W) (hk : ∀ g t cs, t ≠ 93 → Has W g t cs → Has W' g t cs) : CW w N A n c W' :=
  ⟨hk _ _ _ (by decide) h.b2, hk _ _ _ (by decide) h.b3, hk _ _ _ (by decide) h.b5⟩

/-- At the head of the loop over the links. -/
def CkR (w : World) (N : Int) (A : Option Addr) (n c : Nat) (L : List LK) (k : Nat) (v : Value) (wr : World) : Prop :=
  ∃ A6 c6 m vs, v = .slice A6 m c6 ∧ m = 2 + 2 * k ∧ wr.ownsRow w.heap.size 93 1 (.slice A6 m c6) m vs ∧ Cks wr vs (ckE N n (L.take k)) ∧ CW w N A n c wr ∧ Below w.heap.size w wr

set_option maxHeartbeats 2000000 in
theorem checks_any (N : Int) (A : Option Addr) (n c : Nat) (L : List LK) (w : World) (H : Lks w A n c L) :
    Calls Try.prog 42 #[.int .i64 N, .slice A n c] w (CksTo w N L) := by
  obtain ⟨hcw, hrw⟩ := cw_start w N A n c
  have hb0 : Below w.heap.size w ((((w.alloc (.cells #[.int .i64 N] 3)).alloc (.cells #[.slice A n c] 22)).alloc (.cells #[fn60 w] 44)).alloc (.cells #[fn61 w, fn63 w] 93)) :=
    ((((Below.refl _ w).alloc (Nat.le_refl _) _).alloc (by simp) _).alloc (by simp; omega) _).alloc (by simp; omega) _
  obtain ⟨W0, hW0⟩ : ∃ W0, ((((w.alloc (.cells #[.int .i64 N] 3)).alloc (.cells #[.slice A n c] 22)).alloc (.cells #[fn60 w] 44)).alloc (.cells #[fn61 w, fn63 w] 93)) = W0 := ⟨_, rfl⟩
  rw [hW0] at hcw hrw hb0
  have hcap := H.cap
  have hcapm := H.capm
  unfold maxLen at hcapm
  have hR0 : CkR w N A n c L 0 (.slice (some ⟨w.heap.size + 3, 0, none⟩) 2 2) W0 :=
    ⟨_, 2, 2, _, rfl, rfl, hrw, cks_two (.a N _ hcw.b2) (.b A n c _ (by omega) hcw.b3), hcw, hb0⟩
  have c3 : W0.cell? ⟨w.heap.size + 1, 0, none⟩ = some (.slice A n c) := hcw.b3.cell 0
  have HR0 := Lib.hid hR0
  have HW := Lib.hid hW0
  have HLen := Lib.hid H.len
  have HL := Lib.hid H
  obtain ⟨i0, hi0, hz0, hz1, hz2⟩ := info_parts info_fn
  clear hR0 hW0 H hcw hrw hb0
  by_cases hn : n ≤ 128
  · have hm1 : (n : Int) ≤ 128 := by omega
    have hm2 : ¬ (128 : Int) < (n : Int) := by omega
    have hm3 : (n : Int) ≤ (c : Int) := by omega
    have HE : Hid (ckE N n (L.take n) = ckE N L.length (L.take 128)) := Lib.hid (by rw [← HLen.out, List.take_of_length_le (by rw [← HLen.out]; exact Nat.le_refl _), List.take_of_length_le (by rw [← HLen.out]; exact hn)])
    go_enter Try.func42, Try.ntmps42
    go_upto_region 3 with fail
    rw [HW.out]
    go_wp2_with fail
    go_loopw [6, 19] (fun v i wr => ∃ k : Nat, k ≤ n ∧ i = .int .i64 k ∧ CkR w N A n c L k v wr) (fun _ i _ => n - (intOf i).toNat)
    case atStart => exact ⟨0, Nat.zero_le _, rfl, HR0.out⟩
    case round =>
      obtain ⟨k, hk, rfl, A6, c6, m, vs, rfl, hm, hown, hck, hcw, hbl⟩ := hrel
      clear HR0
      by_cases hlt : k < n
      · obtain ⟨x, hx⟩ : ∃ x, L[k]? = some x := ⟨L[k]'(by rw [← HLen.out]; omega), by rw [List.getElem?_eq_getElem]⟩
        obtain ⟨b, o, rfl, hbw⟩ := HL.out.plain (by omega)
        obtain ⟨q0, q1, q2⟩ := (HL.out.below hbl).at_ hx
        have hkl : (k : Int) < (n : Int) := by omega
        have hba : Below wr.heap.size wr (wr.alloc (.cells #[.int .i64 x.a, .int .i64 x.b, .int .i64 x.c] 26)) := (Below.refl _ _).alloc (Nat.le_refl _) _
        have HO5 := Lib.hid (hown.alloc (.cells #[.int .i64 x.a, .int .i64 x.b, .int .i64 x.c] 26))
        have HBa := Lib.hid hba
        have HN5 : Hid (Has (wr.alloc (.cells #[.int .i64 x.a, .int .i64 x.b, .int .i64 x.c] 26)) wr.heap.size 26 #[.int .i64 x.a, .int .i64 x.b, .int .i64 x.c]) := Lib.hid (Has.new _ _ _)
        have HS : Hid (ckE N n (L.take (k + 1)) = ckE N n (L.take k) ++ [eR N x, eL x]) := Lib.hid (by
          unfold ckE
          rw [List.take_add_one, hx, Option.toList_some, lkE_snoc, List.append_assoc])
        have HM := Lib.hid hm
        have HCk := Lib.hid hck
        have HCw := Lib.hid hcw
        have HBl := Lib.hid hbl
        have hm9 : m ≤ 300 := by omega
        have hsz9 := hbl.size
        clear hown hba hx hm hck hcw hbl
        go_upto_region 6 with fail
        generalize wr.alloc (.cells #[.int .i64 x.a, .int .i64 x.b, .int .i64 x.c] 26) = W5 at *
        go_wp2_with (at_builtin; refine wpList_append_own _ rfl (.tmp 23) (.tmp 26) 82 rfl w.heap.size 93 i0 .nilFunc 1 8 Try.underlying82 hi0 hz0 hz1 hz2 rfl (by decide) _ _ _ rfl (HO5.out.alloc _) ⟨W5.heap.size, 0, none⟩ 2 2 [.func (.func 64) #[] #[.pointer (some ⟨w.heap.size + 1 + 1, 0, none⟩), .pointer (some ⟨wr.heap.size, 0, none⟩)], .func (.func 65) #[] #[.pointer (some ⟨wr.heap.size, 0, none⟩)]] rfl rfl (laid_block W5 _ _) (by simp [Value.oneCell']) (by unfold maxLen; omega) (by omega) (by have := HBa.out.size; simp; omega) ?_)
        intro v' w7 hown hgrow hnil
        obtain ⟨A', c', rfl, _⟩ := own_form hown
        have hbb : Below W5.heap.size W5 (W5.alloc (.cells #[.func (.func 64) #[] #[.pointer (some ⟨w.heap.size + 1 + 1, 0, none⟩), .pointer (some ⟨wr.heap.size, 0, none⟩)], .func (.func 65) #[] #[.pointer (some ⟨wr.heap.size, 0, none⟩)]] 93)) := (Below.refl _ _).alloc (Nat.le_refl _) _
        have hk7 : ∀ (g : Nat) (t : TypeId) (cs : Array Value), t ≠ 93 → Has W5 g t cs → Has w7 g t cs := fun g t cur ht h => (h.below hbb).grown hgrow (fun e => own_not (h.below hbb) ht (HO5.out.alloc _) e.symm)
        have hk5 : ∀ (g : Nat) (t : TypeId) (cs : Array Value), t ≠ 93 → Has wr g t cs → Has w7 g t cs := fun g t cur ht h => hk7 g t cur ht (h.below HBa.out)
        have hcw7 := HCw.out.keep hk5
        have HR8 : Hid (CkR w N (some ⟨b, o, none⟩) n c L (k + 1) (.slice A' (m + 2) c') w7) := by
          refine Lib.hid ⟨A', c', m + 2, _, rfl, by rw [HM.out]; omega, hown, ?_, hcw7, grown_below ((HBl.out.trans (HBa.out.mono hsz9)).alloc (by have := HBa.out.size; omega) _) hgrow (fun r hr => (HO5.out.lt r hr).1) (by have := HBa.out.size; simp; omega)⟩
          rw [HS.out]
          exact (HCk.out.keep hk5).app (cks_two (.c N x _ _ _ hcw7.b2 hcw7.b5 (hk7 _ _ _ (by decide) HN5.out)) (.d x _ (hk7 _ _ _ (by decide) HN5.out)))
        clear hown hgrow hnil hbb hk7 hk5 hcw7
        go_wp2_with fail
        go_roundw
        case rel => exact ⟨k + 1, by omega, by go_num, HR8.out⟩
        case measure => simp [intOf]; omega
      · obtain rfl : k = n := by omega
        have hm0 : 0 < m := by omega
        obtain ⟨g6, cap6, hv6, hg6, hl6⟩ := hown.form hm0
        have HF : Hid (CksTo w N L (.returned (.slice A6 m c6)) wr) := by
          cases hv6
          refine Lib.hid ⟨g6, c6, m, vs, rfl, by have := hown.1; omega, ?_, by omega, fun j v hv => ?_, by rw [← HE.out]; exact hck, hbl⟩
          · rcases hown.2 with ⟨h9, _⟩ | ⟨g, cap, cur, h9, _, _, hc, _⟩
            · cases h9
            · cases h9; exact hc
          · have := hown.cells (g := g6) rfl j v hv
            rw [add_plain, Nat.zero_add] at this
            exact this
        clear hown hck hcw hbl hm hv6
        go_wp2_with fail
        go_ret
        exact HF.out
  · have hm1 : ¬ (n : Int) ≤ 128 := by omega
    have hm2 : (128 : Int) < (n : Int) := by omega
    have hm3 : (128 : Int) ≤ (c : Int) := by omega
    have HE : Hid (ckE N n (L.take 128) = ckE N L.length (L.take 128)) := Lib.hid (by rw [← HLen.out])
    go_enter Try.func42, Try.ntmps42
    go_upto_region 3 with fail
    rw [HW.out]
    go_wp2_with fail
    go_loopw [6, 19] (fun v i wr => ∃ k : Nat, k ≤ 128 ∧ i = .int .i64 k ∧ CkR w N A n c L k v wr) (fun _ i _ => 128 - (intOf i).toNat)
    case atStart => exact ⟨0, Nat.zero_le _, rfl, HR0.out⟩
    case round =>
      obtain ⟨k, hk, rfl, A6, c6, m, vs, rfl, hm, hown, hck, hcw, hbl⟩ := hrel
      clear HR0
      by_cases hlt : k < 128
      · obtain ⟨x, hx⟩ : ∃ x, L[k]? = some x := ⟨L[k]'(by rw [← HLen.out]; omega), by rw [List.getElem?_eq_getElem]⟩
        obtain ⟨b, o, rfl, hbw⟩ := HL.out.plain (by omega)
        obtain ⟨q0, q1, q2⟩ := (HL.out.below hbl).at_ hx
        have hkl : (k : Int) < 128 := by omega
        have hba : Below wr.heap.size wr (wr.alloc (.cells #[.int .i64 x.a, .int .i64 x.b, .int .i64 x.c] 26)) := (Below.refl _ _).alloc (Nat.le_refl _) _
        have HO5 := Lib.hid (hown.alloc (.cells #[.int .i64 x.a, .int .i64 x.b, .int .i64 x.c] 26))
        have HBa := Lib.hid hba
        have HN5 : Hid (Has (wr.alloc (.cells #[.int .i64 x.a, .int .i64 x.b, .int .i64 x.c] 26)) wr.heap.size 26 #[.int .i64 x.a, .int .i64 x.b, .int .i64 x.c]) := Lib.hid (Has.new _ _ _)
        have HS : Hid (ckE N n (L.take (k + 1)) = ckE N n (L.take k) ++ [eR N x, eL x]) := Lib.hid (by
          unfold ckE
          rw [List.take_add_one, hx, Option.toList_some, lkE_snoc, List.append_assoc])
        have HM := Lib.hid hm
        have HCk := Lib.hid hck
        have HCw := Lib.hid hcw
        have HBl := Lib.hid hbl
        have hm9 : m ≤ 300 := by omega
        have hsz9 := hbl.size
        clear hown hba hx hm hck hcw hbl
        go_upto_region 6 with fail
        generalize wr.alloc (.cells #[.int .i64 x.a, .int .i64 x.b, .int .i64 x.c] 26) = W5 at *
        go_wp2_with (at_builtin; refine wpList_append_own _ rfl (.tmp 23) (.tmp 26) 82 rfl w.heap.size 93 i0 .nilFunc 1 8 Try.underlying82 hi0 hz0 hz1 hz2 rfl (by decide) _ _ _ rfl (HO5.out.alloc _) ⟨W5.heap.size, 0, none⟩ 2 2 [.func (.func 64) #[] #[.pointer (some ⟨w.heap.size + 1 + 1, 0, none⟩), .pointer (some ⟨wr.heap.size, 0, none⟩)], .func (.func 65) #[] #[.pointer (some ⟨wr.heap.size, 0, none⟩)]] rfl rfl (laid_block W5 _ _) (by simp [Value.oneCell']) (by unfold maxLen; omega) (by omega) (by have := HBa.out.size; simp; omega) ?_)
        intro v' w7 hown hgrow hnil
        obtain ⟨A', c', rfl, _⟩ := own_form hown
        have hbb : Below W5.heap.size W5 (W5.alloc (.cells #[.func (.func 64) #[] #[.pointer (some ⟨w.heap.size + 1 + 1, 0, none⟩), .pointer (some ⟨wr.heap.size, 0, none⟩)], .func (.func 65) #[] #[.pointer (some ⟨wr.heap.size, 0, none⟩)]] 93)) := (Below.refl _ _).alloc (Nat.le_refl _) _
        have hk7 : ∀ (g : Nat) (t : TypeId) (cs : Array Value), t ≠ 93 → Has W5 g t cs → Has w7 g t cs := fun g t cur ht h => (h.below hbb).grown hgrow (fun e => own_not (h.below hbb) ht (HO5.out.alloc _) e.symm)
        have hk5 : ∀ (g : Nat) (t : TypeId) (cs : Array Value), t ≠ 93 → Has wr g t cs → Has w7 g t cs := fun g t cur ht h => hk7 g t cur ht (h.below HBa.out)
        have hcw7 := HCw.out.keep hk5
        have HR8 : Hid (CkR w N (some ⟨b, o, none⟩) n c L (k + 1) (.slice A' (m + 2) c') w7) := by
          refine Lib.hid ⟨A', c', m + 2, _, rfl, by rw [HM.out]; omega, hown, ?_, hcw7, grown_below ((HBl.out.trans (HBa.out.mono hsz9)).alloc (by have := HBa.out.size; omega) _) hgrow (fun r hr => (HO5.out.lt r hr).1) (by have := HBa.out.size; simp; omega)⟩
          rw [HS.out]
          exact (HCk.out.keep hk5).app (cks_two (.c N x _ _ _ hcw7.b2 hcw7.b5 (hk7 _ _ _ (by decide) HN5.out)) (.d x _ (hk7 _ _ _ (by decide) HN5.out)))
        clear hown hgrow hnil hbb hk7 hk5 hcw7
        go_wp2_with fail
        go_roundw
        case rel => exact ⟨k + 1, by omega, by go_num, HR8.out⟩
        case measure => simp [intOf]; omega
      · obtain rfl : k = 128 := by omega
        have hm0 : 0 < m := by omega
        obtain ⟨g6, cap6, hv6, hg6, hl6⟩ := hown.form hm0
        have HF : Hid (CksTo w N L (.returned (.slice A6 m c6)) wr) := by
          cases hv6
          refine Lib.hid ⟨g6, c6, m, vs, rfl, by have := hown.1; omega, ?_, by omega, fun j v hv => ?_, by rw [← HE.out]; exact hck, hbl⟩
          · rcases hown.2 with ⟨h9, _⟩ | ⟨g, cap, cur, h9, _, _, hc, _⟩
            · cases h9
            · cases h9; exact hc
          · have := hown.cells (g := g6) rfl j v hv
            rw [add_plain, Nat.zero_add] at this
            exact this
        clear hown hck hcw hbl hm hv6
        go_wp2_with fail
        go_ret
        exact HF.out

end Go.Proofs.Ytfmjcjkifjndgaa
