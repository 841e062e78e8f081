/- Routes read: Read. -/
import Derived.Test.YthhajknmokomjaaZNrI
namespace Go.Proofs.Ythhajknmokomjaa
open Go.RowKit Go.Shelf
set_option linter.unusedVariables false
set_option linter.unusedSimpArgs false

attribute [local go_sem] Oper.semAt_some

/-- What Read returns: a slice that owns the routes, and the fault. -/
def ReadsTo (w : World) (r : List NL × Int × Int) (e : Ending) (w' : World) : Prop :=
  ∃ v, e = .returned (.tuple #[v, .agg #[.int .i64 r.2.1, .int .i64 r.2.2]]) ∧ w'.ownsRow w.heap.size 31 21 v r.1.length (flatN r.1) ∧ Below w.heap.size w w'

abbrev rts (bs : List Int) (pre : List (At bs)) : List NL := pre.map fun x => (dec (piece bs x.1)).1
/-- All of these pieces are right. -/
def AllOk (bs : List Int) (pre : List (At bs)) : Prop := ∀ x ∈ pre, (dec (piece bs x.1)).2 = 0

/-- Between two rounds. -/
structure RI (w0 : World) (bx : Value) (L : List NL) (W : World) : Prop where
  box : ∃ v, Boxed W (w0.heap.size + 1 + 1) 45 v ∧ W.ownsRow w0.heap.size 31 21 v L.length (flatN L)
  r2 : Has W w0.heap.size 45 #[.slice none 0 0]
  r3 : Has W (w0.heap.size + 1) 47 #[.int .i64 0, .int .i64 0]
  bb : Has W (w0.heap.size + 1 + 1 + 1) 34 #[bx]
/-- A round has left. -/
structure RX (w0 : World) (er i : Int) (W : World) : Prop where
  r2 : Has W w0.heap.size 45 #[.slice none 0 0]
  r3 : Has W (w0.heap.size + 1) 47 #[.int .i64 er, .int .i64 i]

theorem ri_own (w0 : World) (bx : Value) (bs : List Int) : Own (fun (pre : List (At bs)) W => RI w0 bx (rts bs pre) W) := fun s X Y row hs hg hr =>
  ⟨holdsRow_own w0.heap.size (w0.heap.size + 1 + 1) 45 31 21 (fun s : List (At bs) => (rts bs s).length) (fun s => flatN (rts bs s)) (fun _ _ => True) s X Y row (by obtain ⟨v, h1, h2⟩ := hs.box; exact ⟨v, h1, h2, trivial⟩) hg hr |>.imp fun v h => ⟨h.1, h.2.1⟩,
   hs.r2.kept hg hr, hs.r3.kept hg hr, hs.bb.kept hg hr⟩
theorem rx_own (w0 : World) (c : Code) (bs : List Int) : Own (fun (pre : List (At bs)) W => c = .ret ∧ ∃ (p : List (At bs)) (x : At bs), pre = p ++ [x] ∧ AllOk bs p ∧ (dec (piece bs x.1)).2 ≠ 0 ∧ RX w0 (dec (piece bs x.1)).2 (x.1 : Int) W) := fun s X Y row hs hg hr => by
  obtain ⟨h1, p, x, h2, h3, h4, h5⟩ := hs
  exact ⟨h1, p, x, h2, h3, h4, h5.r2.kept hg hr, h5.r3.kept hg hr⟩
theorem ri_start (w0 : World) (bx : Value) : RI w0 bx [] ((((w0.alloc (.cells #[.slice none 0 0] 45)).alloc (.cells #[.int .i64 0, .int .i64 0] 47)).alloc (.cells #[.slice none 0 0] 45)).alloc (.cells #[bx] 34)) := by
  have a1 := Has.new w0 45 #[.slice none 0 0]
  have a2 := Has.new (w0.alloc (.cells #[.slice none 0 0] 45)) 47 #[.int .i64 0, .int .i64 0]
  have a3 := Has.new ((w0.alloc (.cells #[.slice none 0 0] 45)).alloc (.cells #[.int .i64 0, .int .i64 0] 47)) 45 #[.slice none 0 0]
  have a4 := Has.new (((w0.alloc (.cells #[.slice none 0 0] 45)).alloc (.cells #[.int .i64 0, .int .i64 0] 47)).alloc (.cells #[.slice none 0 0] 45)) 34 #[bx]
  have up : ∀ {w : World} {g : Nat} {t : TypeId} {cs : Array Value} (o : Obj), Has w g t cs → Has (w.alloc o) g t cs := fun o h => h.below ((Below.refl _ _).alloc (Nat.le_refl _) _)
  simp only [World.size_alloc] at a2 a3 a4
  exact ⟨⟨_, up _ a3, World.ownsRow_nil _ _ _ _⟩, up _ (up _ (up _ a1)), up _ (up _ a2), a4⟩
theorem own_form {W : World} {base size k : Nat} {e : TypeId} {v : Value} {xs : List Value} (h : W.ownsRow base e size v k xs) : ∃ A c, v = .slice A k c := by
  rcases h.2 with ⟨rfl, rfl⟩ | ⟨g, cap, cur, rfl, _⟩
  · exact ⟨none, 0, rfl⟩
  · exact ⟨_, cap, rfl⟩
theorem piece_len (bs : List Int) (i : Nat) : (piece bs i).length = cut (bs.drop i) := by
  have := cut_le (bs.drop i)
  simp only [piece, List.length_take]
  omega

theorem RI.below {w0 W W' : World} {bx : Value} {L : List NL} (h : RI w0 bx L W) (hb : Below W.heap.size W W') : RI w0 bx L W' :=
  ⟨by
    obtain ⟨v, h1, h2⟩ := h.box
    exact ⟨v, Has.below (t := 45) (cs := #[v]) h1 hb, own_keep h2 hb⟩, h.r2.below hb, h.r3.below hb, h.bb.below hb⟩
theorem RI.more {w0 W w1 : World} {bx v v' : Value} {L : List NL} {x : NL} {tmp : Obj} {k : Nat} {ys : List Value} (h : RI w0 bx L W) (hrow : W.ownsRow w0.heap.size 31 21 v k ys)
    (hgrow : (W.alloc tmp).grownBy w1 v.ownBlock) (h2 : Boxed (w1.setCell ⟨w0.heap.size + 1 + 1, 0, none⟩ v') (w0.heap.size + 1 + 1) 45 v')
    (h3 : (w1.setCell ⟨w0.heap.size + 1 + 1, 0, none⟩ v').ownsRow w0.heap.size 31 21 v' (L.length + 1) (flatN (L ++ [x]))) : RI w0 bx (L ++ [x]) (w1.setCell ⟨w0.heap.size + 1 + 1, 0, none⟩ v') := by
  have up : ∀ {g : Nat} {t : TypeId} {cs : Array Value}, Has W g t cs → t ≠ 31 → g ≠ w0.heap.size + 1 + 1 → Has (w1.setCell ⟨w0.heap.size + 1 + 1, 0, none⟩ v') g t cs := fun hh ht hg =>
    ((hh.below ((Below.refl _ W).alloc (Nat.le_refl _) tmp)).grown hgrow (hh.not_own ht hrow)).far1 hg
  exact ⟨⟨v', h2, by rw [List.length_append]; exact h3⟩, up h.r2 (by decide) (by omega), up h.r3 (by decide) (by omega), up h.bb (by decide) (by omega)⟩

/-- What holds between two rounds, and where one has left. -/
def IR (w : World) (bx : Value) (bs : List Int) (pre : List (At bs)) (W : World) : Prop := AllOk bs pre ∧ RI w bx (rts bs pre) W ∧ Below w.heap.size w W
def XR (w : World) (bs : List Int) (c : Code) (pre : List (At bs)) (W : World) : Prop := (c = .ret ∧ ∃ (p : List (At bs)) (x : At bs), pre = p ++ [x] ∧ AllOk bs p ∧ (dec (piece bs x.1)).2 ≠ 0 ∧ RX w (dec (piece bs x.1)).2 (x.1 : Int) W) ∧ Below w.heap.size w W
theorem ir_own (w : World) (bx : Value) (bs : List Int) {B : Nat} (hB : w.heap.size ≤ B) : OwnFrom B (IR w bx bs) := OwnFrom.and (ownFrom_pure _ _) (OwnFrom.and (Own.from (ri_own w _ bs) _) (ownFrom_below (Nat.le_refl _) hB))
theorem xr_own (w : World) (bs : List Int) (c : Code) {B : Nat} (hB : w.heap.size ≤ B) : OwnFrom B (XR w bs c) := OwnFrom.and (Own.from (rx_own w c bs) _) (ownFrom_below (Nat.le_refl _) hB)

theorem read_results {w W : World} {v : Value} {er i : Int} (tmps : Array Value) (h2 : tmps[2]?.getD undef = .pointer (some ⟨w.heap.size, 0, none⟩)) (h3 : tmps[3]?.getD undef = .pointer (some ⟨w.heap.size + 1, 0, none⟩)) (hl : ∃ A n c, v = .slice A n c)
    (q2 : Has W w.heap.size 45 #[v]) (q3 : Has W (w.heap.size + 1) 47 #[.int .i64 er, .int .i64 i]) :
    (results Try.f18 tmps).run Try.prog W = .ok (.tuple #[v, .agg #[.int .i64 er, .int .i64 i]]) W := by
  have c2 : W.cell? ⟨w.heap.size, 0, none⟩ = some v := q2.cell 0
  have c30 : W.cell? ⟨w.heap.size + 1, 0, none⟩ = some (.int .i64 er) := q3.cell 0
  have c31 : W.cell? ⟨w.heap.size + 1, 1, none⟩ = some (.int .i64 i) := q3.cell 1
  obtain ⟨A, n, c, rfl⟩ := hl
  simp [results, Try.f18, go_sem, h2, h3, c2, c30, c31]
theorem read_end {w W : World} {D : Nat} {v : Value} {er i : Int} {r : List NL × Int × Int} {B : Nat} (hr : r.2 = (er, i)) (hD : B ≤ D) (hwB : w.heap.size ≤ B)
    (q2 : Has W w.heap.size 45 #[v]) (q3 : Has W (w.heap.size + 1) 47 #[.int .i64 er, .int .i64 i]) (hrow : W.ownsRow w.heap.size 31 21 v r.1.length (flatN r.1)) (hB : Below w.heap.size w W) (hK : W.heap[D]? = some (.deferred (some []))) :
    Has (W.putObj D (.deferred none)) w.heap.size 45 #[v] ∧ Has (W.putObj D (.deferred none)) (w.heap.size + 1) 47 #[.int .i64 er, .int .i64 i] ∧ ReadsTo w r (.returned (.tuple #[v, .agg #[.int .i64 er, .int .i64 i]])) (W.putObj D (.deferred none)) := by
  have hk : ∀ q, some D = some q → ∃ o : Obj, W.heap[q]? = some o ∧ o.isCells = false := fun q e => by cases e; exact ⟨_, hK, rfl⟩
  have hw := hB.size
  have hlt := q2.lt
  refine ⟨q2.kept (grownBy_putObj' W D (.deferred none)) hk, q3.kept (grownBy_putObj' W D (.deferred none)) hk, v, ?_, ownsRow_putObj hrow _ hK rfl, ?_⟩
  · rw [hr]
  · exact hB.trans ((Below.refl w.heap.size W).grown (grownBy_putObj' W D (.deferred none)) (by omega) (fun k e => by cases e; omega))

set_option maxRecDepth 100000 in
set_option maxHeartbeats 4000000 in
theorem read_b (bs : List Int) (b o cap : Nat) (A : Option Addr) (hA : 0 < bs.length → A = some ⟨b, o, none⟩) (hcap : bs.length ≤ cap) (hm : bs.length ≤ 4000) (hmc : cap ≤ 9223372036854775807) (hby : ∀ v ∈ bs, 0 ≤ v ∧ v ≤ 255) (w : World) (hb : 0 < bs.length → b < w.heap.size) (hsl : 0 < bs.length → Sl w b o bs) :
    Calls Try.prog 18 #[.slice A bs.length cap] w (ReadsTo w (readP bs)) := by
  obtain ⟨W0, hW0⟩ : ∃ W0, ((((w.alloc (.cells #[.slice none 0 0] 45)).alloc (.cells #[.int .i64 0, .int .i64 0] 47)).alloc (.cells #[.slice none 0 0] 45)).alloc (.cells #[.slice A bs.length cap] 34)) = W0 := ⟨_, rfl⟩
  have hR0 : RI w (.slice A bs.length cap) [] W0 := hW0 ▸ ri_start w _
  have hB0 : Below w.heap.size w W0 := by
    rw [← hW0]
    exact ((((Below.refl _ w).alloc (Nat.le_refl _) _).alloc (by simp) _).alloc (by simp; omega) _).alloc (by simp; omega) _
  have hsz : W0.heap.size = w.heap.size + 4 := by rw [← hW0]; simp
  refine (callsIn_wide (n := 4)).1 ?_
  have h1 : 1 ≤ 4 := by omega
  refine callsIn_of_wp_marks Try.func18 rfl trivial ?_ rfl
  simp only [Try.ntmps18, List.size_toArray, List.length_cons, List.length_nil, Nat.reduceAdd, Nat.reduceSub, Array.replicate_succ, Array.replicate_zero, List.push_toArray, List.append_toArray, List.nil_append, List.cons_append]
  gi_wp2_with fail
  refine ⟨trivial, ?_⟩
  refine (pieces_in Fence.wide 3 trivial rfl _ A bs.length cap rfl _).mono ?_
  rintro e w' ⟨rfl, rfl⟩
  rw [hW0]
  gi_wp2_with fail
  have hst : SeqStopsK Fence.wide (4 - 1) Try.prog 61 #[.pointer (some ⟨w.heap.size + 1 + 1 + 1, 0, none⟩)] (pcE b o cap bs) (Keep2 w.heap.size (w.heap.size + 1 + 1 + 1)) (fun ys => ys.map (·.1) = pos bs bs.length 0) (fun pre => pre.map (·.1) <+: pos bs bs.length 0) bs.length W0 := by
    by_cases h0 : 0 < bs.length
    · exact pieces_stops Fence.wide 3 trivial rfl (by omega) (w.heap.size + 1 + 1 + 1) w.heap.size b o cap bs hcap (by omega) hmc (hb h0) hby W0 (by omega) (by omega) (by rw [← hA h0]; exact hR0.bb.cell 0) ((hsl h0).below hB0)
    · obtain rfl : bs = [] := List.eq_nil_of_length_eq_zero (by omega)
      exact pieces_stops_none Fence.wide 3 trivial rfl (w.heap.size + 1 + 1 + 1) w.heap.size A cap b o W0 (by omega) (hR0.bb.cell 0)
  refine wpIn_rangeFunc_ownG rfl h1 (gf := 61) (lb := #[.pointer (some ⟨w.heap.size + 1 + 1 + 1, 0, none⟩)]) rfl trivial (enters_of Try.func61 (by kernel_rfl) rfl)
    hst (fun h k => h.trans k) (fun W l o o' hl h hc hw => ⟨belowK_b (w := W0) (by omega) W l o o' hl h hc hw, (grownBy_putObj' W l o').block _ (by have := (Array.getElem?_eq_some_iff.1 h).1; omega) (by intro h9; injection h9 with h9; omega)⟩) (Below.refl _ _) (fun _ => rfl)
    (IR w (.slice A bs.length cap) bs) (XR w bs) (ir_own w _ bs (by omega)) (fun c => xr_own w bs c (by omega))
    ⟨fun x hx => (by cases hx), hR0, hB0⟩
    (fun x => { tmps := #[.slice A bs.length cap, undef, .pointer (some ⟨w.heap.size, 0, none⟩), .pointer (some ⟨w.heap.size + 1, 0, none⟩), .pointer (some ⟨w.heap.size + 1 + 1, 0, none⟩), .int .i64 (x.1 : Int), .slice (some ⟨b, o + x.1, none⟩) (cut (bs.drop x.1)) (cap - x.1), undef, undef, .slice A bs.length cap, .func (.func 61) #[] #[.pointer (some ⟨w.heap.size + 1 + 1 + 1, 0, none⟩)], .int .i64 (x.1 : Int), .slice (some ⟨b, o + x.1, none⟩) (cut (bs.drop x.1)) (cap - x.1), undef, undef, undef, undef, undef, undef, undef, undef, undef, undef, undef, undef, undef, undef, undef, undef, undef, undef, undef, undef, undef], defers := [] }) ?assign ?body ?done ?stop
  case assign =>
    intro l x W K hK
    simp only [pcE]
    gi_wp2
    exact hK
  case body =>
    rintro l pre x W ⟨hok, hRI, hB⟩ hlen
    clear hA
    obtain ⟨v, hv, hrow⟩ := hRI.box
    have hLl : (rts bs pre).length < 4000 := by simp only [rts, List.length_map]; omega
    have hx0 : 0 < bs.length := by omega
    have hcl := cut_le (bs.drop x.1)
    have hcp := cut_pos (b := bs.drop x.1) (by have := x.2; simp; omega)
    have HArr : Hid (Arr W (.slice (some ⟨b, o + x.1, none⟩) (cut (bs.drop x.1)) (cap - x.1)) (piece bs x.1)) := Lib.hid (by
      refine .inr ⟨_, cap - x.1, by rw [piece_len], ?_⟩
      refine Sl.at_ (fun j hj => ?_)
      have hpl := piece_len bs x.1
      simp only [List.length_drop] at hcl
      have h2 := ((hsl hx0).below hB) (x.1 + j) (by omega)
      rw [Nat.add_assoc, h2]
      simp [piece])
    have HPos : Hid (0 < (piece bs x.1).length) := Lib.hid (by rw [piece_len]; exact hcp)
    have HSm : Hid ((piece bs x.1).length ≤ 1000000) := Lib.hid (by rw [piece_len]; simp only [List.length_drop] at hcl; omega)
    have HBy : Hid (∀ v ∈ piece bs x.1, 0 ≤ v ∧ v ≤ 255) := Lib.hid (fun v hv => hby v (List.mem_of_mem_drop (List.mem_of_mem_take hv)))
    have HRI := Lib.hid hRI
    have HB := Lib.hid hB
    have HRow := Lib.hid hrow
    have HV := Lib.hid hv
    have HOk := Lib.hid hok
    have hc := hv.cell
    obtain ⟨Av, cv, rfl⟩ := own_form hrow
    obtain ⟨Ln, hLn⟩ : ∃ Ln, (rts bs pre).length = Ln := ⟨_, rfl⟩
    have HLn := Lib.hid hLn
    rw [hLn] at hc hLl
    have hne : ((Ln : Int) == 4096) = false := by simp; omega
    clear hRI hB hv hrow hok hcl hcp hLn hst hR0 hB0 hW0
    gi_wp2_with fail
    refine ⟨trivial, ?_⟩
    refine (CallsIn.inRound l (callsIn_wide.2 (decode_any (piece bs x.1) (some ⟨b, o + x.1, none⟩) (cut (bs.drop x.1)) (cap - x.1) W HArr.out HPos.out HSm.out HBy.out))).mono ?_
    rintro e W1 ⟨rfl, hb1⟩
    obtain ⟨y, hy⟩ : ∃ y, (dec (piece bs x.1)).1 = y := ⟨_, rfl⟩
    obtain ⟨er, her⟩ : ∃ er, (dec (piece bs x.1)).2 = er := ⟨_, rfl⟩
    rw [hy, her]
    have HY := Lib.hid (And.intro hy her)
    clear hy her
    have HN1 : Hid (Has (W1.alloc (.cells zcs 31)) W1.heap.size 31 zcs) := Lib.hid (Has.new _ _ _)
    have hb2 : Below W.heap.size W ((W1.alloc (.cells zcs 31)).setRow W1.heap.size y.cs) := setRow_below (hb1.alloc hb1.size _) hb1.size (hb1.alloc hb1.size _).size
    have HN2 : Hid (Has ((W1.alloc (.cells zcs 31)).setRow W1.heap.size y.cs) W1.heap.size 31 y.cs) := Lib.hid (setRow_heap _ _ _ _ _ _ HN1.out)
    have HB2 := Lib.hid hb2
    clear hb2 hb1 hc hne
    by_cases her0 : er = 0
    · subst her0
      obtain ⟨i0, hi, hz0, hz1, hz2⟩ := info_parts info_nlb
      gi_wp2_with (first
        | (refine inStore rfl 31 (.tmp 7) (.tmp 21) rfl W1.heap.size y.cs rfl rfl 31 zcs HN1.out y.fit rfl y.one ?_; obtain ⟨W2, hW2⟩ : ∃ W2, ((W1.alloc (.cells zcs 31)).setRow W1.heap.size y.cs) = W2 := ⟨_, rfl⟩; have HN3 := HN2; have HB3 := HB2; rw [hW2] at HN3 HB3 ⊢; clear hW2 HN2 HB2; have HR3 := Lib.hid (HRI.out.below HB3.out); have HB3s := HB3.out.size; obtain ⟨vv, hvv, hrow2⟩ := HR3.out.box; obtain ⟨Av2, cv2, rfl⟩ := own_form hrow2; have HV2 := Lib.hid hvv; have HRow2 := Lib.hid hrow2; have hc2 := hvv.cell; clear hvv hrow2; rw [HLn.out] at hc2 HV2 HRow2)
        | (refine inLoad rfl 31 (.tmp 7) rfl W1.heap.size rfl 31 y.cs (0, 0) _ HN3.out Try.underlying31 rfl y.fit ?_)
        | (refine inBuildNl rfl (.tmp 29) rfl y rfl ?_)
        | (gi_at_builtin; refine wpListIn_append_own _ rfl _ _ 45 rfl w.heap.size 31 i0 nl0.v 21 80 Try.underlying45 hi hz0 hz1 hz2 rfl (by decide) _ _ _ rfl (HRow2.out.alloc _) ⟨W2.heap.size, 0, none⟩ 1 1 y.l rfl rfl (laid_nl W2 y) y.l_one (by unfold maxLen; omega) (by omega) (by have := HB.out.size; simp; omega) ?_; intro v' w3 hown' hgrow _; obtain ⟨g', cap', rfl⟩ := ownsRow_succ hown'; obtain ⟨hv1, hv2, hr2, hk2, hb2⟩ := HV2.out.appended (by decide) HRow2.out (by have := HB.out.size; omega) (by omega) hown' hgrow; have hc3 := hv1.cell; have hf3 := hv1.frozen))
      have hbr := HR3.out.bb
      have hRI3 := RI.more (x := y) HR3.out (k := Ln) (v := .slice Av2 Ln cv2) HRow2.out hgrow hv2 (by rw [flatN_app, HLn.out]; simpa [flatN] using hr2)
      refine ⟨(keepsFrom_below HB3.out).trans (hk2.from _), ⟨(HB3.out.mono HB.out.size).trans hb2, ?_⟩, ?_⟩
      · exact (show _ = _ from hRI3.bb).trans (show _ = _ from HRI.out.bb).symm
      · refine ⟨?_, ?_, HB.out.trans ((HB3.out.mono HB.out.size).trans hb2)⟩
        · intro z hz
          rcases List.mem_append.1 hz with hz | hz
          · exact HOk.out z hz
          · rw [List.mem_singleton.1 hz]; exact HY.out.2
        · have e : rts bs (pre ++ [x]) = rts bs pre ++ [y] := by simp only [rts, List.map_append, List.map_cons, List.map_nil, HY.out.1]
          rw [e]
          exact hRI3
    · have hne2 : (er != 0) = true := by simpa using her0
      gi_wp2_with (refine inStore rfl 31 (.tmp 7) (.tmp 21) rfl W1.heap.size y.cs rfl rfl 31 zcs HN1.out y.fit rfl y.one ?_; obtain ⟨W2, hW2⟩ : ∃ W2, ((W1.alloc (.cells zcs 31)).setRow W1.heap.size y.cs) = W2 := ⟨_, rfl⟩; have HN3 := HN2; have HB3 := HB2; rw [hW2] at HN3 HB3 ⊢; clear hW2 HN2 HB2; have HR3 := Lib.hid (HRI.out.below HB3.out); have HB3s := HB3.out.size; have c2 := HR3.out.r2.cell 0; have f2 := HR3.out.r2.free 0; have c30 := HR3.out.r3.cell 0; have f30 := HR3.out.r3.free 0; have c31 := HR3.out.r3.cell 1; have f31 := HR3.out.r3.free 1)
      have q2 := ((HR3.out.r2.set_ 0 (.slice none 0 0)).far1 (g := w.heap.size + 1) (i := 0) (v := .int .i64 er) (by omega)).far1 (g := w.heap.size + 1) (i := 1) (v := .int .i64 (x.1 : Int)) (by omega)
      have q3 := ((HR3.out.r3.far1 (g := w.heap.size) (i := 0) (v := .slice none 0 0) (by omega)).set_ 0 (.int .i64 er)).set_ 1 (.int .i64 (x.1 : Int))
      have hb4 : Below w.heap.size W2 (((W2.setCell ⟨w.heap.size, 0, none⟩ (.slice none 0 0)).setCell ⟨w.heap.size + 1, 0, none⟩ (.int .i64 er)).setCell ⟨w.heap.size + 1, 1, none⟩ (.int .i64 (x.1 : Int))) := (((Below.refl _ W2).setCell (p := ⟨w.heap.size, 0, none⟩) (Nat.le_refl _) _).setCell (p := ⟨w.heap.size + 1, 0, none⟩) (by show w.heap.size ≤ w.heap.size + 1; omega) _).setCell (p := ⟨w.heap.size + 1, 1, none⟩) (by show w.heap.size ≤ w.heap.size + 1; omega) _
      refine ⟨(keepsFrom_below HB3.out).trans (((KeepsOthers.setCell _ _ _).trans ((KeepsOthers.setCell _ _ _).trans (KeepsOthers.setCell _ _ _))).from _), ⟨rfl, pre, x, rfl, HOk.out, by rw [HY.out.2]; exact her0, ?_⟩, HB.out.trans ((HB3.out.mono HB.out.size).trans hb4)⟩
      rw [HY.out.2]
      exact ⟨q2, q3⟩
  case done =>
    rintro D ys W hD hys ⟨hok, hRI, hB⟩ hK
    clear hA
    obtain ⟨v, hv, hrow⟩ := hRI.box
    have HRow := Lib.hid hrow
    obtain ⟨Av, cv, rfl⟩ := own_form hrow
    obtain ⟨Ln, hLn⟩ : ∃ Ln, (rts bs ys).length = Ln := ⟨_, rfl⟩
    have HLn := Lib.hid hLn
    have hc := hv.cell
    rw [hLn] at hc
    have c2 := hRI.r2.cell 0
    have f2 := hRI.r2.free 0
    have c30 := hRI.r3.cell 0
    have f30 := hRI.r3.free 0
    have c31 := hRI.r3.cell 1
    have f31 := hRI.r3.free 1
    have HRI := Lib.hid hRI
    have HB := Lib.hid hB
    have HK := Lib.hid hK
    have HR : Hid (readP bs = (rts bs ys, 0, 0)) := Lib.hid ((readP_all (bs := bs) hys.symm (fun i hi => by obtain ⟨z, hz, rfl⟩ := List.mem_map.1 hi; exact hok z hz)).trans (by rw [List.map_map]; rfl))
    clear hRI hB hv hrow hok hLn hst hR0 hB0 hW0 hK hys
    gi_wp2_with fail
    have q2 := ((HRI.out.r2.set_ 0 (.slice Av Ln cv)).far1 (g := w.heap.size + 1) (i := 0) (v := .int .i64 0) (by omega)).far1 (g := w.heap.size + 1) (i := 1) (v := .int .i64 0) (by omega)
    have q3 := ((HRI.out.r3.far1 (g := w.heap.size) (i := 0) (v := .slice Av Ln cv) (by omega)).set_ 0 (.int .i64 0)).set_ 1 (.int .i64 0)
    have hb4 : Below w.heap.size W (((W.setCell ⟨w.heap.size, 0, none⟩ (.slice Av Ln cv)).setCell ⟨w.heap.size + 1, 0, none⟩ (.int .i64 0)).setCell ⟨w.heap.size + 1, 1, none⟩ (.int .i64 0)) := (((Below.refl _ W).setCell (p := ⟨w.heap.size, 0, none⟩) (Nat.le_refl _) _).setCell (p := ⟨w.heap.size + 1, 0, none⟩) (by show w.heap.size ≤ w.heap.size + 1; omega) _).setCell (p := ⟨w.heap.size + 1, 1, none⟩) (by show w.heap.size ≤ w.heap.size + 1; omega) _
    have hk4 : KeepsOthers W (((W.setCell ⟨w.heap.size, 0, none⟩ (.slice Av Ln cv)).setCell ⟨w.heap.size + 1, 0, none⟩ (.int .i64 0)).setCell ⟨w.heap.size + 1, 1, none⟩ (.int .i64 0)) := (KeepsOthers.setCell _ _ _).trans ((KeepsOthers.setCell _ _ _).trans (KeepsOthers.setCell _ _ _))
    have hK4 := hk4.same D _ HK.out rfl
    have hr4 : (((W.setCell ⟨w.heap.size, 0, none⟩ (.slice Av Ln cv)).setCell ⟨w.heap.size + 1, 0, none⟩ (.int .i64 0)).setCell ⟨w.heap.size + 1, 1, none⟩ (.int .i64 0)).ownsRow w.heap.size 31 21 (.slice Av Ln cv) (rts bs ys).length (flatN (rts bs ys)) := by
      have h0 := HRow.out
      rw [HLn.out] at h0 ⊢
      have n1 := HRI.out.r2.not_own (by decide) h0
      have n2 := HRI.out.r3.not_own (by decide) h0
      exact ((h0.kept (only_set (only_refl W _) (p := ⟨w.heap.size, 0, none⟩) (.inl rfl) _) (.inr n1.symm)).kept (only_set (only_refl _ _) (p := ⟨w.heap.size + 1, 0, none⟩) (.inl rfl) _) (.inr n2.symm)).kept (only_set (only_refl _ _) (p := ⟨w.heap.size + 1, 1, none⟩) (.inl rfl) _) (.inr n2.symm)
    refine ⟨by simp, .inl ⟨_, _, rfl, run_takeDeferred hK4, ?_⟩⟩
    rw [HR.out]
    obtain ⟨z2, z3, z4⟩ := read_end (r := (rts bs ys, 0, 0)) rfl hD (by omega) q2 q3 hr4 (HB.out.trans hb4) hK4
    exact ⟨.tuple #[.slice Av Ln cv, .agg #[.int .i64 0, .int .i64 0]], read_results _ rfl rfl ⟨_, _, _, rfl⟩ z2 z3, z4⟩
  case stop =>
    rintro D c pre W hD hSp ⟨⟨rfl, p, x, hp, hok, hx, hRX⟩, hB⟩ hK
    have HRX := Lib.hid hRX
    have HB := Lib.hid hB
    have HK := Lib.hid hK
    have HR : Hid (readP bs = ([], (dec (piece bs x.1)).2, (x.1 : Int))) := Lib.hid (by
      obtain ⟨r, hr⟩ := hSp
      rw [hp] at hr
      refine readP_bad (is := p.map (·.1)) (r := r) (i := x.1) ?_ (fun i hi => by obtain ⟨z, hz, rfl⟩ := List.mem_map.1 hi; exact hok z hz) hx
      rw [← hr]
      simp)
    clear hRX hB hst hR0 hB0 hW0 hK hSp hp hok hx hA
    gi_wp2_with fail
    refine ⟨by simp, .inl ⟨_, _, rfl, run_takeDeferred HK.out, ?_⟩⟩
    rw [HR.out]
    obtain ⟨z2, z3, z4⟩ := read_end (r := ([], (dec (piece bs x.1)).2, (x.1 : Int))) rfl hD (by omega) HRX.out.r2 HRX.out.r3 (World.ownsRow_nil _ _ _ _) HB.out HK.out
    exact ⟨.tuple #[.slice none 0 0, .agg #[.int .i64 (dec (piece bs x.1)).2, .int .i64 (x.1 : Int)]], read_results _ rfl rfl ⟨_, _, _, rfl⟩ z2 z3, z4⟩

/-- **Read, of whatever slice.** -/
theorem read_arr (v : Value) (bs : List Int) (w : World) (h : Arr w v bs) (hc : ∃ A n c, v = .slice A n c ∧ n ≤ c ∧ c ≤ 9223372036854775807) (hm : bs.length ≤ 4000) (hby : ∀ v ∈ bs, 0 ≤ v ∧ v ≤ 255) :
    Calls Try.prog 18 #[v] w (ReadsTo w (readP bs)) := by
  obtain ⟨A0, n0, c0, rfl, hnc, hmc⟩ := hc
  rcases h with ⟨h1, rfl⟩ | ⟨ad, c, h1, h2⟩
  · injection h1 with e1 e2 e3
    subst e1 e2 e3
    exact read_b [] 0 0 0 none (fun h => by simp at h) (by simp) (by simp) (by omega) (by simp) w (fun h => by simp at h) (fun h => by simp at h)
  · injection h1 with e1 e2 e3
    subst e1 e2 e3
    by_cases h0 : 0 < bs.length
    · obtain ⟨b, o, rfl, hs⟩ := h2.plain h0
      exact read_b bs b o c0 _ (fun _ => rfl) hnc hm hmc hby w (fun _ => cell_block (hs 0 h0)) (fun _ => hs)
    · exact read_b bs 0 0 c0 _ (fun h => absurd h h0) hnc hm hmc hby w (fun h => absurd h h0) (fun h => absurd h h0)

end Go.Proofs.Ythhajknmokomjaa
