/- Graphs: Component. -/
import Derived.Test.YtfmjcjkifjndgaaToH
namespace Go.Proofs.Ytfmjcjkifjndgaa
open Go.RowKit Go.Shelf
set_option linter.unusedVariables false
set_option linter.unusedSimpArgs false
set_option maxRecDepth 100000

attribute [local go_sem] Oper.semAt_some

def RchI (s : GS) (n : Int) (m : Nat) : Prop := 0 ≤ n ∧ Rch s n.toNat m
noncomputable def GS.compI (s : GS) (n : Int) : List Nat := if 0 ≤ n then s.comp n.toNat else []
theorem rchI_dead {s : GS} {n : Int} (h : s.alive n = false) (m : Nat) : ¬ RchI s n m := by
  rintro ⟨h0, hr⟩
  have := hr.al.1
  unfold GS.alive at h
  simp [h0, this] at h

theorem reach1_dead (l Bg Bn g b : Nat) (s : GS) (n : Int) (hal : s.alive n = false) (J : List N7 → World → Prop) (W : World) (hgr : Gr W g b s) (hbg : Has W Bg 27 #[.pointer (some ⟨g, 0, none⟩)]) (hbn : Has W Bn 3 #[.int .i64 n]) (h0 : J [] W) :
    CallsIn Fence.wide 3 Try.prog 66 #[.func (.yield l) #[] #[], .pointer (some ⟨Bg, 0, none⟩), .pointer (some ⟨Bn, 0, none⟩)] W fun en W' => (∃ v, en = .returned v) ∧ ∃ ys : List N7, (∀ m, m ∈ ys.map (·.1) ↔ RchI s n m) ∧ J ys W' := by
  refine callsIn_of_wp Try.func66 rfl trivial ?_ rfl
  simp only [Try.ntmps66, List.size_toArray, List.length_cons, List.length_nil, Nat.reduceAdd, Nat.reduceSub, Array.replicate_succ, Array.replicate_zero, List.push_toArray, List.append_toArray, List.nil_append, List.cons_append]
  have HA := Lib.hid hal
  have b0 : W.cell? ⟨Bg, 0, none⟩ = some (.pointer (some ⟨g, 0, none⟩)) := hbg.cell 0
  have b1 : W.cell? ⟨Bn, 0, none⟩ = some (.int .i64 n) := hbn.cell 0
  have HE : Hid (∀ m, m ∈ ([] : List N7).map (·.1) ↔ RchI s n m) := Lib.hid (fun m => ⟨fun h => by simp at h, fun h => absurd h (rchI_dead HA.out m)⟩)
  have H0 := Lib.hid h0
  have HG := Lib.hid hgr
  clear hal hbg hbn h0 hgr
  gi_wp2_with fail
  refine ⟨trivial, ?_⟩
  refine (callsIn_wide.2 (alive_any g b s W HG.out n)).mono ?_
  rintro e w' ⟨rfl, rfl⟩
  rw [HA.out]
  gi_wp2_with fail
  refine bodyPost_ret (results_none rfl _ _ _) rfl ?_
  exact ⟨⟨_, rfl⟩, [], HE.out, H0.out⟩

theorem Has.kept {X Y : World} {row : Option Nat} {g : Nat} {t : TypeId} {cs : Array Value} (h : Has X g t cs) (hg : X.grownBy Y row) (hrow : ∀ r, row = some r → ∃ o : Obj, X.heap[r]? = some o ∧ o.isCells = false) : Has Y g t cs :=
  h.grown hg (fun e => by
    obtain ⟨o, ho, hc⟩ := hrow g e.symm
    rw [show X.heap[g]? = _ from h] at ho
    cases ho
    cases hc)
theorem keepsFrom_only {B R : Nat} {t : TypeId} {cs : Array Value} {W W' : World} (h : Only W R W') (hR : Has W R t cs) : KeepsFrom B W W' :=
  ⟨h.size, fun k o _ hk hc => (h.block k (Array.getElem?_eq_some_iff.1 hk).1 (by
    intro e
    injection e with e
    subst e
    rw [show W.heap[k]? = _ from hR] at hk
    cases hk
    cases hc)).trans hk⟩

/-- Those that were visited, as a set. -/
def visF (ys : List N7) : Nat → Bool := fun m => decide (m ∈ ys.map (·.1))
theorem visF_snoc (ys : List N7) (x : N7) : visF (ys ++ [x]) = put (visF ys) x.1 true := by
  funext m
  unfold visF put
  by_cases h : m = x.1
  · simp [h]
  · simp [h]
/-- Between two rounds of Component's loop. -/
def IC (w : World) (ys : List N7) (W : World) : Prop := (∃ x0 x1 : Int, Has W w.heap.size 48 #[.int .u64 x0, .int .u64 x1] ∧ Bs x0 x1 (visF ys)) ∧ Below w.heap.size w W
theorem ic_own (w : World) {B : Nat} (hB : w.heap.size ≤ B) : OwnFrom B (IC w) := by
  rintro ys X Y row ⟨⟨x0, x1, h1, h2⟩, h3⟩ hg hr
  exact ⟨⟨x0, x1, h1.kept hg (fun r e => (hr r e).2), h2⟩, grown_below h3 hg (fun r e => by have := (hr r e).1; omega) h3.size⟩

theorem run_list (F : Nat → Bool) (s : GS) (ys : List N7) (n : Int) (ok : s.ok) (h : ∀ m, m ∈ ys.map (·.1) ↔ RchI s n m) : elems (visF ys) 128 = s.compI n := by
  have hN : ∀ m, visF ys m = true → m < s.N := fun m hm => by
    unfold visF at hm
    have := (h m).1 (by simpa using hm)
    exact ok.alN m this.2.al.2
  rw [elems_less hN (by have := ok.n32; omega)]
  unfold GS.compI elems
  by_cases h0 : 0 ≤ n
  · rw [if_pos h0]
    unfold GS.comp
    refine List.filter_congr fun m _ => ?_
    rw [Bool.eq_iff_iff, rb_iff]
    unfold visF
    rw [decide_eq_true_iff, h]
    exact ⟨fun h => h.2, fun h => ⟨h0, h⟩⟩
  · rw [if_neg h0, List.filter_eq_nil_iff]
    intro m _ hm
    unfold visF at hm
    exact h0 ((h m).1 (by simpa using hm)).1

set_option maxHeartbeats 2000000 in
theorem comp_core (P : Option Addr) (n : Int) (w : World) (S : List N7 → Prop) (xs : List Nat) (hS : ∀ ys, S ys → elems (visF ys) 128 = xs)
    (hst : ∀ W0, Below w.heap.size w W0 → Has W0 (w.heap.size + 1) 27 #[.pointer P] → Has W0 (w.heap.size + 2) 3 #[.int .i64 n] → W0.heap.size = w.heap.size + 3 →
      SeqW Fence.wide (4 - 1) Try.prog 66 #[.pointer (some ⟨w.heap.size + 1, 0, none⟩), .pointer (some ⟨w.heap.size + 2, 0, none⟩)] n7E (Keep3 w.heap.size w.heap.size) S 128 W0) :
    Calls Try.prog 30 #[.pointer P, .int .i64 n] w (Gives w 3 1 xs.length (natv xs)) := by
  obtain ⟨W0, hW0⟩ : ∃ W0, (((w.alloc (.cells #[.int .u64 0, .int .u64 0] 48)).alloc (.cells #[.pointer P] 27)).alloc (.cells #[.int .i64 n] 3)) = W0 := ⟨_, rfl⟩
  have hB0 : Below w.heap.size w W0 := by
    rw [← hW0]
    exact (((Below.refl _ w).alloc (Nat.le_refl _) _).alloc (by simp) _).alloc (by simp; omega) _
  have hsz : W0.heap.size = w.heap.size + 3 := by rw [← hW0]; simp
  have up : ∀ {w : World} {g : Nat} {t : TypeId} {cs : Array Value} (o : Obj), Has w g t cs → Has (w.alloc o) g t cs := fun o h => h.below ((Below.refl _ _).alloc (Nat.le_refl _) _)
  have hR : Has W0 w.heap.size 48 #[.int .u64 0, .int .u64 0] := by rw [← hW0]; exact up _ (up _ (Has.new _ _ _))
  have hbg : Has W0 (w.heap.size + 1) 27 #[.pointer P] := by
    have := Has.new (w.alloc (.cells #[.int .u64 0, .int .u64 0] 48)) 27 #[.pointer P]
    rw [World.size_alloc] at this
    rw [← hW0]; exact up _ this
  have hbn : Has W0 (w.heap.size + 2) 3 #[.int .i64 n] := by
    have := Has.new ((w.alloc (.cells #[.int .u64 0, .int .u64 0] 48)).alloc (.cells #[.pointer P] 27)) 3 #[.int .i64 n]
    rw [World.size_alloc, World.size_alloc] at this
    rw [← hW0]; exact this
  have HSt := Lib.hid (hst W0 hB0 hbg hbn hsz)
  have HSS := Lib.hid hS
  clear hst hS
  refine (callsIn_wide (n := 4)).1 ?_
  have h1 : 1 ≤ 4 := by omega
  refine callsIn_of_wp_marks Try.func30 rfl trivial ?_ rfl
  simp only [Try.ntmps30, List.size_toArray, List.length_cons, List.length_nil, Nat.reduceAdd, Nat.reduceSub, Array.replicate_succ, Array.replicate_zero, List.push_toArray, List.append_toArray, List.nil_append, List.cons_append]
  gi_wp2_with fail
  refine ⟨trivial, ?_⟩
  refine (reach_in Fence.wide 3 trivial rfl P n _).mono ?_
  rintro e w' ⟨rfl, rfl⟩
  rw [hW0]
  simp only [World.size_alloc]
  gi_wp2_with fail
  have hIC : IC w [] W0 := ⟨⟨0, 0, hR, by
    have : visF [] = fun _ => false := by funext m; simp [visF]
    rw [this]; exact Bs.none⟩, hB0⟩
  have HIC := Lib.hid hIC
  clear hIC hbn hbg hR up hW0
  refine range_wr rfl h1 (gf := 66) (lb := #[.pointer (some ⟨w.heap.size + 1, 0, none⟩), .pointer (some ⟨w.heap.size + 2, 0, none⟩)]) rfl trivial (enters_of Try.func66 (by kernel_rfl) rfl)
    HSt.out (fun h k => h.trans k) ?keepb (fun _ => rfl) (IC w) (ic_own w (by omega)) ?icb HIC.out
    (fun x => { tmps := #[.pointer P, .int .i64 n, undef, undef, .slice none 0 0, .pointer (some ⟨w.heap.size, 0, none⟩), .int .i64 (x.1 : Int), .pointer P, .int .i64 n, .func (.func 66) #[] #[.pointer (some ⟨w.heap.size + 1, 0, none⟩), .pointer (some ⟨w.heap.size + 2, 0, none⟩)], .int .i64 (x.1 : Int), undef, undef, undef], defers := [] }) ?assign ?body ?done
  case keepb =>
    intro W l o o' hl h hc
    have hg := grownBy_putObj' W l o'
    refine ⟨(Below.refl _ W).grown hg (by have := (Array.getElem?_eq_some_iff.1 h).1; omega) (fun k e => by cases e; omega), fun k t cs _ hk => hk.kept hg (fun r e => ?_)⟩
    cases e
    exact ⟨o, h, hc⟩
  case icb =>
    rintro ys A B ⟨⟨x0, x1, h1, h2⟩, h3⟩ hb
    exact ⟨⟨x0, x1, (hb.block _ (by omega)).trans h1, h2⟩, h3.trans (hb.mono (by omega))⟩
  case assign =>
    intro l x W K hK
    simp only [n7E]
    gi_wp2
    exact hK
  case body =>
    rintro l pre x W ⟨⟨x0, x1, hx, hB⟩, hBl⟩ hlen
    have HX := Lib.hid hx
    have HB := Lib.hid hB
    have HBl := Lib.hid hBl
    clear hx hB hBl
    gi_wp2_with fail
    refine ⟨trivial, ?_⟩
    refine (CallsIn.inRound l (callsIn_wide.2 (put_any w.heap.size 0 48 _ x0 x1 (visF pre) x.1 true x.2 W HX.out rfl rfl HB.out))).mono ?_
    rintro e W6 ⟨⟨v6, rfl⟩, z0, z1, hB6, hH6, hO6⟩
    have HB6 := Lib.hid hB6
    have HH6 := Lib.hid hH6
    have HO6 := Lib.hid hO6
    clear hB6 hH6 hO6
    gi_wp2_with fail
    have hb6 : Below w.heap.size W W6 := below_only (Below.refl _ _) HO6.out (Nat.le_refl _) HBl.out.size
    refine ⟨keepsFrom_only HO6.out HX.out, ⟨hb6, fun k t cs hk h => h.grown HO6.out (by intro h9; injection h9 with h9; exact hk h9)⟩, ⟨z0, z1, HH6.out, ?_⟩, HBl.out.trans hb6⟩
    rw [visF_snoc]; exact HB6.out
  case done =>
    rintro D ys W hD hys ⟨⟨x0, x1, hx, hB⟩, hBl⟩ hK
    have HE := Lib.hid (HSS.out ys hys)
    have HBA : Hid (BsAt W w.heap.size 0 (visF ys)) := Lib.hid ⟨x0, x1, hx.cell 0, hx.cell 1, hB⟩
    have HK := Lib.hid hK
    have HBl := Lib.hid hBl
    clear hys hx hB hK hBl HIC HSt
    gi_wp2_with fail
    refine ⟨trivial, ?_⟩
    refine (callsIn_wide.2 (list_any w.heap.size 0 (visF ys) W HBA.out)).mono ?_
    rintro e W7 ⟨A7, c7, rfl, h7, hb7⟩
    rw [HE.out] at h7 ⊢
    have H7 := Lib.hid h7
    have HB7 := Lib.hid hb7
    clear h7 hb7
    gi_wp2_with fail
    have hDl : D < W.heap.size := (Array.getElem?_eq_some_iff.1 HK.out).1
    have hK7 := (HB7.out.block D hDl).trans HK.out
    refine ⟨by simp, .inl ⟨_, _, rfl, run_takeDeferred hK7, ?_⟩⟩
    refine ⟨.slice A7 xs.length c7, ?_, ?_⟩
    · first | kernel_rfl | rfl
    · refine ⟨A7, c7, rfl, (ownsRow_putObj H7.out _ hK7 rfl).mono HBl.out.size, (HBl.out.trans (HB7.out.mono HBl.out.size)).trans ?_⟩
      exact belowK_b (w := w) (Nat.le_refl _) W7 D _ _ (by omega) hK7 rfl rfl

theorem comp_any (g b : Nat) (s : GS) (w : World) (H : Gr w g b s) (n : Int) :
    Calls Try.prog 30 #[.pointer (some ⟨g, 0, none⟩), .int .i64 n] w (Gives w 3 1 (s.compI n).length (natv (s.compI n))) := by
  have hok := H.ok
  have hgl := H.lt
  have hbl := H.lb
  refine comp_core _ n w (fun ys => ∀ m, m ∈ ys.map (·.1) ↔ RchI s n m) _ (fun ys h => run_list (visF ys) s ys n hok h) ?_
  intro W0 hB0 hbg hbn hsz l J W hW hJ hY h0
  have hG0 := H.belowN hB0 hgl hbl
  cases hal : s.alive n
  · exact reach1_dead l _ _ g b s n hal J W (hG0.below hW) (hbg.below hW) (hbn.below hW) h0
  · have hn0 : 0 ≤ n ∧ s.al n.toNat = true := by
      unfold GS.alive at hal
      simpa using hal
    obtain ⟨k, rfl⟩ : ∃ k : Nat, n = k := ⟨n.toNat, by omega⟩
    refine (reach1_in l (w.heap.size + 1) (w.heap.size + 2) w.heap.size w.heap.size g b s k (by simpa using hn0.2) J W (hG0.below hW) (fun A B hb h => h.belowN hb hgl hbl) (hbg.below hW) (hbn.below hW) (by have := hW.size; omega) (by omega) (by omega) (by have := hW.size; omega) hJ hY h0).mono ?_
    rintro e W' ⟨he, ys, hys, hj⟩
    exact ⟨he, ys, fun m => by rw [hys]; unfold RchI; simp, hj⟩

end Go.Proofs.Ytfmjcjkifjndgaa
