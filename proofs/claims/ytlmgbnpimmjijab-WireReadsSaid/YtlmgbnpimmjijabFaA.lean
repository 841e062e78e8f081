/- WireFaults: the walk. -/
import Derived.Test.YtlmgbnpimmjijabLwB
import Derived.Deep.RegionHeld3
import Derived.Deep.DeepCutAuto
import Derived.Deep.CutBlock
namespace Go.Proofs.Ytlmgbnpimmjijab
open Go.RowKit Go.Maps
set_option maxRecDepth 100000
set_option linter.unusedVariables false

/-- A slice of pairs of numbers. -/
def Pairs (w : World) (v : Value) (ks : List (Int × Int)) : Prop := (v = .slice none 0 0 ∧ ks = []) ∨ ∃ ad c, v = .slice (some ad) ks.length c ∧ ∀ i (hi : i < ks.length), w.cell? (ad.add (i * 2)) = some (.int .i64 ks[i].1) ∧ w.cell? (ad.add (i * 2 + 1)) = some (.int .i64 ks[i].2)

/-- The end of the law: true, and nothing old has turned. -/
def Fine (w : World) (e : Ending) (w' : World) : Prop := e = .returned (.bool true) ∧ Below w.heap.size w w'

theorem faults_long (v v3 : Value) (A A3 : Option Addr) (n n3 c c3 : Nat) (hv : v = .slice A n c) (hv3 : v3 = .slice A3 n3 c3) (skip e : Int) (h : 400 < n ∨ 60 < n3) (hb : n ≤ 9223372036854775807) (hb3 : n3 ≤ 9223372036854775807) (w : World) :
    Calls Try.prog 8 #[v, .int .i64 skip, .int .i64 e, v3] w (Fine w) := by
  subst hv hv3
  by_cases h1 : 400 < n
  · clear h
    go_enter Try.func8, Try.ntmps8
    go_wp2_with fail
    refine (lives_any _).mono ?_
    rintro en w1 ⟨rfl, hb1⟩
    go_wp2_with fail
    go_ret
    exact ⟨rfl, hb1⟩
  · have h2 : 60 < n3 := by omega
    clear h
    go_enter Try.func8, Try.ntmps8
    go_wp2_with fail
    refine (lives_any _).mono ?_
    rintro en w1 ⟨rfl, hb1⟩
    go_wp2_with fail
    go_ret
    exact ⟨rfl, hb1⟩

/-- What every round leaves: the reader with its fault, the fault that is asked, all that was. -/
structure FK (w : World) (g h cap : Nat) (xs : List Int) (p : Nat) (f : Int) (W : Nat) (wr : World) : Prop where
  rd : Rd wr g h cap xs 0 p f p
  has : Has wr W 39 #[.int .i64 f, .int .i64 p]
  bel : Below w.heap.size w wr

section
variable {w wr w' : World} {g h cap : Nat} {xs : List Int} {p : Nat} {f : Int} {W : Nat}
theorem FK.d0 (H : FK w g h cap xs p f W wr) : wr.cell? ⟨W, 0, none⟩ = some (.int .i64 f) := H.has.cell 0
theorem FK.d1 (H : FK w g h cap xs p f W wr) : wr.cell? ⟨W, 1, none⟩ = some (.int .i64 p) := H.has.cell 1
theorem FK.below (H : FK w g h cap xs p f W wr) (hb : Below wr.heap.size wr w') : FK w g h cap xs p f W w' := ⟨H.rd.below hb, H.has.below hb, H.bel.trans (hb.mono H.bel.size)⟩
theorem FK.alloc (H : FK w g h cap xs p f W wr) (o : Obj) : FK w g h cap xs p f W (wr.alloc o) := H.below ((Below.refl _ wr).alloc (Nat.le_refl _) o)
theorem FK.drew (H : FK w g h cap xs p f W wr) : FK w g h cap xs p f W wr.drew := H.below (Below.refl _ wr).drew
theorem FK.drewN (H : FK w g h cap xs p f W wr) (n : Nat) : FK w g h cap xs p f W (wr.drewN n) := ⟨H.rd.drewN n, H.has, ⟨H.bel.os, H.bel.tape, H.bel.output, H.bel.size, H.bel.block⟩⟩
theorem FK.all (H : FK w g h cap xs p f W wr) : wr.cell? ⟨W, 0, none⟩ = some (.int .i64 f) ∧ wr.cell? ⟨W, 1, none⟩ = some (.int .i64 p) ∧ FK w g h cap xs p f W wr := ⟨H.d0, H.d1, H⟩
/-- The reader's own block, and new ones, have turned. -/
theorem FK.only (H : FK w g h cap xs p f W wr) (hg : w.heap.size ≤ g) (ho : Only wr g w') (hr : Rd w' g h cap xs 0 p f p) : FK w g h cap xs p f W w' :=
  ⟨hr, H.has.grown ho (by rintro ⟨⟩; exact H.rd.blk.unlike H.has (by decide) rfl), below_only H.bel ho hg H.bel.size⟩
end

/-- .. and a reader without bytes beside it. -/
structure FS (w : World) (g h cap : Nat) (xs : List Int) (p : Nat) (f : Int) (W g2 h2 c2 : Nat) (wr : World) : Prop where
  fk : FK w g h cap xs p f W wr
  sub : Rd wr g2 h2 c2 [] p p f p

section
variable {w wr w' : World} {g h cap : Nat} {xs : List Int} {p : Nat} {f : Int} {W g2 h2 c2 : Nat}
theorem FS.below (H : FS w g h cap xs p f W g2 h2 c2 wr) (hb : Below wr.heap.size wr w') : FS w g h cap xs p f W g2 h2 c2 w' := ⟨H.fk.below hb, H.sub.below hb⟩
theorem FS.alloc (H : FS w g h cap xs p f W g2 h2 c2 wr) (o : Obj) : FS w g h cap xs p f W g2 h2 c2 (wr.alloc o) := ⟨H.fk.alloc o, H.sub.below ((Below.refl _ wr).alloc (Nat.le_refl _) o)⟩
theorem FS.drew (H : FS w g h cap xs p f W g2 h2 c2 wr) : FS w g h cap xs p f W g2 h2 c2 wr.drew := H.below (Below.refl _ wr).drew
theorem FS.drewN (H : FS w g h cap xs p f W g2 h2 c2 wr) (n : Nat) : FS w g h cap xs p f W g2 h2 c2 (wr.drewN n) := ⟨H.fk.drewN n, H.sub.drewN n⟩
theorem FS.all (H : FS w g h cap xs p f W g2 h2 c2 wr) : wr.cell? ⟨W, 0, none⟩ = some (.int .i64 f) ∧ wr.cell? ⟨W, 1, none⟩ = some (.int .i64 p) ∧ FS w g h cap xs p f W g2 h2 c2 wr := ⟨H.fk.d0, H.fk.d1, H⟩
end

set_option maxHeartbeats 4000000 in
theorem faults_walk (v v3 : Value) (xs : List Int) (ks : List (Int × Int)) (skip e : Int) (w : World) (hx : Arr w v xs) (hk : Pairs w v3 ks) (h1 : xs.length ≤ 400) (h2 : ks.length ≤ 60) (hr : ∀ u ∈ xs, 0 ≤ u ∧ u ≤ 255) :
    Calls Try.prog 8 #[v, .int .i64 skip, .int .i64 e, v3] w (Fine w) := by
  obtain ⟨A, c, rfl⟩ := hx.form
  have hk3 : ∃ A3 c3, v3 = .slice A3 ks.length c3 := by
    rcases hk with ⟨rfl, rfl⟩ | ⟨ad, c3, h, _⟩
    · exact ⟨none, 0, rfl⟩
    · exact ⟨_, c3, h⟩
  obtain ⟨A3, c3, rfl⟩ := hk3
  have HX := Lib.hid hx
  have HK := Lib.hid hk
  have HR := Lib.hid hr
  have hd1 : decide ((400 : Int) < (xs.length : Int)) = false := by simp; omega
  have hd2 : decide ((60 : Int) < (ks.length : Int)) = false := by simp; omega
  clear hx hk hr
  go_enter Try.func8, Try.ntmps8
  go_wp2_with fail
  refine (lives_any _).mono ?_
  rintro en w1 ⟨rfl, hb1⟩
  have HB1 := Lib.hid hb1
  clear hb1
  go_wp2_with fail
  refine (rnewA _ xs _ (HX.out.below HB1.out) (by omega) HR.out).mono ?_
  rintro en w2 ⟨g, h, cap, rfl, hg, hh, hrd, hb2⟩
  have HR2 := Lib.hid hrd
  have HB2 : Hid (Below w.heap.size w w2) := Lib.hid (HB1.out.trans (hb2.mono HB1.out.size))
  have HG : Hid (w.heap.size ≤ g) := Lib.hid (Nat.le_trans HB1.out.size hg)
  clear hrd hb2 hg hh HB1
  go_wp2_with fail
  refine (pick_any skip ((xs.length : Int) + 1) (by omega) (by omega) _).mono ?_
  rintro en w2' ⟨rfl, rfl⟩
  have hp0 := Int.emod_nonneg skip (show ((xs.length : Int) + 1) ≠ 0 by omega)
  have hp1 := Int.emod_lt_of_pos skip (show 0 < ((xs.length : Int) + 1) by omega)
  obtain ⟨p, hp⟩ : ∃ p : Nat, skip % ((xs.length : Int) + 1) = p := ⟨(skip % ((xs.length : Int) + 1)).toNat, by omega⟩
  rw [hp] at hp0 hp1 ⊢
  have hpl : p ≤ xs.length := by omega
  clear hp hp0 hp1
  go_wp2_with fail
  refine (rbytes _ _ _ ⟨xs, 0, 0, 0, 0⟩ _ HR2.out p).mono ?_
  rw [take_c (s := ⟨xs, 0, 0, 0, 0⟩) p rfl (by simpa using hpl)]
  rintro en w3 ⟨⟨vb, rfl, hgot⟩, hrd, ho⟩
  have HR3 : Hid (RdS w3 g h cap ⟨xs, 0, p, 0, 0⟩) := Lib.hid (by simpa using hrd)
  have HB3 : Hid (Below w.heap.size w w3) := Lib.hid (below_only HB2.out ho HG.out HB2.out.size)
  clear hgot hrd ho HR2 HB2
  go_wp2_with fail
  refine (rat _ _ _ _ _ _ _ _ _ HR3.out).mono ?_
  rintro en w3' ⟨rfl, rfl⟩
  go_wp2_with fail
  refine (rfail _ _ _ ⟨xs, 0, p, 0, 0⟩ _ HR3.out 0).mono ?_
  rw [show RS.fail ⟨xs, 0, p, 0, 0⟩ 0 = ⟨xs, 0, p, 0, 0⟩ from by simp [RS.fail]]
  rintro en w4 ⟨rfl, hrd, ho⟩
  have HR4 := Lib.hid hrd
  have HB4 : Hid (Below w.heap.size w w4) := Lib.hid (below_only HB3.out ho HG.out HB3.out.size)
  clear hrd ho HR3 HB3
  go_wp2_with fail
  refine (rfault _ _ _ _ _ _ _ _ _ HR4.out).mono ?_
  rintro en w5 ⟨rfl, rfl⟩
  have hb5 : Below w4.heap.size w4 (w4.alloc (.cells #[.int .i64 0, .int .i64 0] 39)) := (Below.refl _ w4).alloc (Nat.le_refl _) _
  have HR5 := Lib.hid (HR4.out.below hb5)
  have HB5 : Hid (Below w.heap.size w (w4.alloc (.cells #[.int .i64 0, .int .i64 0] 39))) := Lib.hid (HB4.out.trans (hb5.mono HB4.out.size))
  clear hb5 HR4 HB4
  generalize w4.alloc (.cells #[.int .i64 0, .int .i64 0] 39) = w5 at *
  go_wp2_with fail
  refine (pick_any e 20 (by omega) (by omega) _).mono ?_
  rintro en w5' ⟨rfl, rfl⟩
  have hp0 := Int.emod_nonneg e (show (20 : Int) ≠ 0 by omega)
  have hp1 := Int.emod_lt_of_pos e (show (0 : Int) < 20 by omega)
  obtain ⟨q, hq⟩ : ∃ q, e % 20 = q := ⟨_, rfl⟩
  rw [hq] at hp0 hp1 ⊢
  clear hq
  go_wp2_with fail
  have hq1 : 1 ≤ 1 + q := by omega
  have hq2 : 1 + q ≤ 20 := by omega
  generalize 1 + q = f at *
  clear hp0 hp1
  refine (rfail _ _ _ ⟨xs, 0, p, 0, 0⟩ _ HR5.out f).mono ?_
  rw [show RS.fail ⟨xs, 0, p, 0, 0⟩ f = ⟨xs, 0, p, f, p⟩ from by unfold RS.fail; rw [if_pos ⟨by omega, rfl⟩]]
  rintro en w6 ⟨rfl, hrd, ho⟩
  have HR6 := Lib.hid hrd
  have HB6 : Hid (Below w.heap.size w w6) := Lib.hid (below_only HB5.out ho HG.out HB5.out.size)
  clear hrd ho HR5 HB5
  go_wp2_with fail
  have hb7 : Below w6.heap.size w6 (w6.alloc (.cells #[.int .i64 f, .int .i64 p] 39)) := (Below.refl _ w6).alloc (Nat.le_refl _) _
  have HR7 := Lib.hid (HR6.out.below hb7)
  have HB7 : Hid (Below w.heap.size w (w6.alloc (.cells #[.int .i64 f, .int .i64 p] 39))) := Lib.hid (HB6.out.trans (hb7.mono HB6.out.size))
  have HW7 := Lib.hid (Has.new w6 39 #[.int .i64 f, .int .i64 p])
  clear hb7 HR6 HB6
  generalize hW : w6.heap.size = W at *
  generalize w6.alloc (.cells #[.int .i64 f, .int .i64 p] 39) = w7 at *
  clear hW
  go_loopw [12] (fun i wr => ∃ k : Nat, k ≤ ks.length ∧ i = .int .i64 k ∧ FK w g h cap xs p f W wr) (fun i _ => ks.length - (intOf i).toNat)
  case atStart => exact ⟨0, Nat.zero_le _, rfl, ⟨HR7.out, HW7.out, HB7.out⟩⟩
  case round =>
    obtain ⟨k, hk, rfl, hfk⟩ := hrel
    by_cases hlt : k < ks.length
    · obtain ⟨ad, c3', hA3, hcells⟩ : ∃ ad c, Value.slice A3 ks.length c3 = .slice (some ad) ks.length c ∧ ∀ i (hi : i < ks.length), w.cell? (ad.add (i * 2)) = some (.int .i64 ks[i].1) ∧ w.cell? (ad.add (i * 2 + 1)) = some (.int .i64 ks[i].2) := by
        rcases HK.out with ⟨_, h0⟩ | h0
        · rw [h0] at hlt; simp at hlt
        · exact h0
      injection hA3 with hA3 _ hcap
      subst hA3
      subst hcap
      obtain ⟨b3, o3, spot⟩ := ad
      have hspot : spot = none := by
        have h0 := (hcells 0 (by omega)).1
        simpa [Addr.add] using World.cell?_spot h0
      subst hspot
      have hk0 : wr.cell? ⟨b3, o3 + k * 2, none⟩ = some (.int .i64 ks[k].1) := by
        have h0 := (hcells k hlt).1
        have h1 := cell_block h0
        rw [block_add] at h1
        have h2 : w.cell? ⟨b3, o3 + k * 2, none⟩ = some (.int .i64 ks[k].1) := by
          unfold Addr.add at h0
          by_cases hz : k * 2 = 0
          · rw [hz] at h0 ⊢; simpa using h0
          · rw [if_neg hz] at h0; exact h0
        exact (hfk.bel.cell (p := ⟨b3, o3 + k * 2, none⟩) h1).trans h2
      have hk1 : wr.cell? ⟨b3, o3 + k * 2 + 1, none⟩ = some (.int .i64 ks[k].2) := by
        have h0 := (hcells k hlt).2
        have h1 := cell_block h0
        rw [block_add] at h1
        have h2 : w.cell? ⟨b3, o3 + (k * 2 + 1), none⟩ = some (.int .i64 ks[k].2) := by
          unfold Addr.add at h0
          rw [if_neg (by omega)] at h0; exact h0
        rw [Nat.add_assoc]
        exact (hfk.bel.cell (p := ⟨b3, o3 + (k * 2 + 1), none⟩) h1).trans h2
      obtain ⟨x, hx⟩ : ∃ x, ks[k].1 = x := ⟨_, rfl⟩
      obtain ⟨y, hy⟩ : ∃ y, ks[k].2 = y := ⟨_, rfl⟩
      rw [hx] at hk0
      rw [hy] at hk1
      have HF := Lib.hid hfk
      clear hfk hcells hx hy
      go_wp2_with fail
      refine (pick_any x 11 (by omega) (by omega) _).mono ?_
      rintro en wr' ⟨rfl, rfl⟩
      have hp0 := Int.emod_nonneg x (show (11 : Int) ≠ 0 by omega)
      have hp1 := Int.emod_lt_of_pos x (show (0 : Int) < 11 by omega)
      obtain ⟨m, hm⟩ : ∃ m : Nat, x % 11 = m := ⟨(x % 11).toNat, by omega⟩
      rw [hm] at hp0 hp1 ⊢
      have hm11 : m < 11 := by omega
      clear hm hp0 hp1 hk0
      go_upto_block 2 with fail
      go_cut [] (fun wx => FK w g h cap xs p f W wx)
      case first =>
        by_cases hm6 : m < 6
        · go_wp2_with fail
          refine (lawget _ _ _ ⟨xs, 0, p, f, p⟩ _ HF.out.rd m hm6).mono ?_
          unfold RS.got
          rw [take_a (s := ⟨xs, 0, p, f, p⟩) _ (by show f ≠ 0; omega)]
          rintro en w8 ⟨rfl, hrd, ho⟩
          have HF8 := Lib.hid (HF.out.only HG.out ho hrd)
          clear hrd ho HF hk1
          go_wp2_with fail
          go_meet
          exact HF8.out
        · by_cases hm7 : m = 6
          · subst hm7
            go_wp2_with fail
            refine (rbytes _ _ _ ⟨xs, 0, p, f, p⟩ _ HF.out.rd y).mono ?_
            rw [take_a (s := ⟨xs, 0, p, f, p⟩) _ (by show f ≠ 0; omega)]
            rintro en w8 ⟨⟨v8, rfl, hgot⟩, hrd, ho⟩
            have HF8 := Lib.hid (HF.out.only HG.out ho hrd)
            obtain ⟨A8, c8, rfl⟩ := hgot.arr.form
            clear hrd ho HF hk1 hgot
            go_wp2_with fail
            go_meet
            exact HF8.out
          · by_cases hm9 : m < 9
            · go_wp2_with fail
              refine (rsub _ _ _ ⟨xs, 0, p, f, p⟩ _ HF.out.rd y).mono ?_
              have e1 : RS.sub ⟨xs, 0, p, f, p⟩ y = ⟨[], p, p, f, p⟩ := by
                unfold RS.sub
                rw [take_a (s := ⟨xs, 0, p, f, p⟩) _ (by show f ≠ 0; omega)]
                rfl
              rw [e1, take_a (s := ⟨xs, 0, p, f, p⟩) _ (by show f ≠ 0; omega)]
              rintro en w8 ⟨⟨g2, h2', c2, rfl, _, _, hsub⟩, hrd, ho⟩
              have HF8 : Hid (FS w g h cap xs p f W g2 h2' c2 w8) := Lib.hid ⟨HF.out.only HG.out ho hrd, hsub⟩
              clear hrd ho HF hk1 e1 hsub
              have d0 := HF8.out.fk.d0
              have d1 := HF8.out.fk.d1
              go_wp2_with fail
              go_region_held3 (fun w' => w'.cell? ⟨W, 0, none⟩ = some (.int .i64 f) ∧ w'.cell? ⟨W, 1, none⟩ = some (.int .i64 p) ∧ FS w g h cap xs p f W g2 h2' c2 w')
                (first | exact HF8.out.drew.all | (go_split_ands; exact (FS.alloc (by assumption) _).all) | (go_split_ands; exact (FS.drewN (by assumption) _).all) | (go_split_ands; exact FS.all (by assumption)) | exact ((FS.alloc HF8.out _).drewN _).all | exact ((FS.drewN HF8.out _).alloc _).all)
                (first
                  | (go_at_call 19; go_split_ands; refine (rfault _ _ _ _ _ _ _ _ _ (FS.sub (by assumption))).mono ?_; rintro en w' ⟨rfl, rfl⟩)
                  | (go_at_call 27; go_split_ands; refine (rleftOf _ _ _ _ _ _ _ _ _ (FS.sub (by assumption))).mono ?_; rintro en w' ⟨rfl, nq, rfl⟩))
              go_wp2_with fail
              go_meet
              go_split_ands
              first | exact FS.fk (by assumption) | exact ((FS.alloc HF8.out _).drewN _).fk | exact ((FS.drewN HF8.out _).alloc _).fk
            · go_wp2_with fail
              refine (rfail _ _ _ ⟨xs, 0, p, f, p⟩ _ HF.out.rd y).mono ?_
              rw [show RS.fail ⟨xs, 0, p, f, p⟩ y = ⟨xs, 0, p, f, p⟩ from by unfold RS.fail; rw [if_neg (by rintro ⟨_, h0⟩; have h0' : f = 0 := h0; omega)]]
              rintro en w8 ⟨rfl, hrd, ho⟩
              have HF8 := Lib.hid (HF.out.only HG.out ho hrd)
              clear hrd ho HF hk1
              go_wp2_with fail
              go_meet
              exact HF8.out
      case rest =>
        have HF8 := Lib.hid hcut
        have d0 := HF8.out.d0
        have d1 := HF8.out.d1
        clear hcut HF hk1
        go_wp2_with fail
        have hbn : (((xs.length - p : Nat) : Int) != ((xs.length : Int) - (p : Int))) = false := by simp; omega
        have hsum : IntKind.i64.wrap ((xs.length : Int) - (p : Int)) = (xs.length : Int) - (p : Int) := IntWalk.i64_in _ (by omega)
        go_region_held3 (fun w' => w'.cell? ⟨W, 0, none⟩ = some (.int .i64 f) ∧ w'.cell? ⟨W, 1, none⟩ = some (.int .i64 p) ∧ FK w g h cap xs p f W w')
          (first | exact HF8.out.drew.all | (go_split_ands; exact (FK.alloc (by assumption) _).all) | (go_split_ands; exact (FK.drewN (by assumption) _).all) | (go_split_ands; exact FK.all (by assumption)) | exact ((FK.alloc HF8.out _).drewN _).all | exact ((FK.drewN HF8.out _).alloc _).all)
          (first
            | (go_at_call 19; go_split_ands; refine (rfault _ _ _ _ _ _ _ _ _ (FK.rd (by assumption))).mono ?_; rintro en w' ⟨rfl, rfl⟩)
            | (go_at_call 17; go_split_ands; refine (rat _ _ _ _ _ _ _ _ _ (FK.rd (by assumption))).mono ?_; rintro en w' ⟨rfl, rfl⟩)
            | (go_at_call 27; go_split_ands; refine (rleftOf _ _ _ _ _ _ _ _ _ (FK.rd (by assumption))).mono ?_; rintro en w' ⟨rfl, nq, rfl⟩))
        go_wp2_with fail
        clear hbn hsum
        refine ⟨⟨k + 1, by omega, by go_num, ?_⟩, by simp [intOf]; omega⟩
        go_split_ands
        first | assumption | exact ((FK.alloc HF8.out _).drewN _) | exact ((FK.drewN HF8.out _).alloc _)
    · have hke : k = ks.length := by omega
      subst hke
      have HF := Lib.hid hfk
      clear hfk
      go_wp2
      go_ret
      exact ⟨rfl, HF.out.bel⟩

end Go.Proofs.Ytlmgbnpimmjijab
