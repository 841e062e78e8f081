/- WireSubs: the walk. -/
import Derived.Test.YtlmgbnpimmjijabLwB
import Derived.Maps.AppendAt
import Derived.Laws.AppendOwnNone
namespace Go.Proofs.Ytlmgbnpimmjijab
open Go.RowKit Go.Maps
set_option maxRecDepth 100000
set_option linter.unusedVariables false

/-- A slice of numbers. -/
def Nums (w : World) (v : Value) (zs : List Int) : Prop := (v = .slice none 0 0 ∧ zs = []) ∨ ∃ ad c, v = .slice (some ad) zs.length c ∧ ∀ i (hi : i < zs.length), w.cell? (ad.add i) = some (.int .i64 zs[i])

theorem own_far {w : World} {B n g : Nat} {v : Value} {xs : List Value} {cs : Array Value} (h : w.ownsRow B 5 1 v n xs) (hh : Has w g 90 cs) : v.ownBlock ≠ some g := by
  intro he
  rcases h.2 with ⟨rfl, _⟩ | ⟨g', cap, cur, rfl, _, hg, _⟩
  · cases he
  · injection he with he
    subst he
    exact Has.unlike (t := 5) hg hh (by decide) rfl

theorem own_only {w w' : World} {B n g : Nat} {v : Value} {xs : List Value} {cs : Array Value} (h : w.ownsRow B 5 1 v n xs) (hh : Has w g 90 cs) (ho : Only w g w') : w'.ownsRow B 5 1 v n xs :=
  h.kept ho (.inr (own_far h hh))

theorem own_below {w w' : World} {B n : Nat} {v : Value} {xs : List Value} (h : w.ownsRow B 5 1 v n xs) (hb : Below w.heap.size w w') : w'.ownsRow B 5 1 v n xs := by
  have hg : w.grownBy w' none := ⟨hb.os, hb.tape, hb.output, hb.size, fun k hk _ => hb.block k hk⟩
  exact h.kept hg (by cases hv : v.ownBlock <;> simp)

/-- What every round keeps: the reader at p, the bytes before p, all that was. -/
structure SI (w : World) (g h cap B2 : Nat) (xs : List Int) (p : Nat) (v : Value) (wr : World) : Prop where
  rd : RdS wr g h cap ⟨xs, 0, p, 0, 0⟩
  own : wr.ownsRow B2 5 1 v p (u8s (xs.take p))
  bel : Below w.heap.size w wr
  hg : w.heap.size ≤ g
  gB : g < B2
  hB : h < B2
  wB : w.heap.size ≤ B2
  top : B2 ≤ wr.heap.size

section
variable {w wr w' : World} {g h cap B2 : Nat} {xs : List Int} {p : Nat} {v : Value}
theorem SI.below (H : SI w g h cap B2 xs p v wr) (hb : Below wr.heap.size wr w') : SI w g h cap B2 xs p v w' :=
  ⟨H.rd.below hb, own_below H.own hb, H.bel.trans (hb.mono H.bel.size), H.hg, H.gB, H.hB, H.wB, Nat.le_trans H.top hb.size⟩
theorem SI.drewN (H : SI w g h cap B2 xs p v wr) (n : Nat) : SI w g h cap B2 xs p v (wr.drewN n) :=
  ⟨H.rd.drewN n, H.own, ⟨H.bel.os, H.bel.tape, H.bel.output, H.bel.size, H.bel.block⟩, H.hg, H.gB, H.hB, H.wB, H.top⟩
/-- Another reader's block, made later, turns. -/
theorem SI.other (H : SI w g h cap B2 xs p v wr) {g2 : Nat} {cs : Array Value} (hh : Has wr g2 90 cs) (ho : Only wr g2 w') (h2 : B2 ≤ g2) : SI w g h cap B2 xs p v w' :=
  ⟨H.rd.other hh ho (by have := H.gB; omega), own_only H.own hh ho, below_only H.bel ho (by have := H.wB; omega) H.bel.size, H.hg, H.gB, H.hB, H.wB, Nat.le_trans H.top ho.size⟩
/-- The reader itself goes on; what was read stays. -/
theorem SI.mid (H : SI w g h cap B2 xs p v wr) (ho : Only wr g w') : w'.ownsRow B2 5 1 v p (u8s (xs.take p)) ∧ Below w.heap.size w w' ∧ B2 ≤ w'.heap.size :=
  ⟨own_only H.own H.rd.blk ho, below_only H.bel ho H.hg H.bel.size, Nat.le_trans H.top ho.size⟩
end

/-- .. in the midst of a round: the reader at p + n, a part of it beside it. -/
structure SK (w : World) (g h cap B2 : Nat) (xs : List Int) (p n : Nat) (v : Value) (g2 h2 cap2 : Nat) (s : RS) (wr : World) : Prop where
  rd : RdS wr g h cap ⟨xs, 0, p + n, 0, 0⟩
  own : wr.ownsRow B2 5 1 v p (u8s (xs.take p))
  bel : Below w.heap.size w wr
  sub : RdS wr g2 h2 cap2 s
  hg : w.heap.size ≤ g
  gB : g < B2
  hB : h < B2
  wB : w.heap.size ≤ B2
  top : B2 ≤ wr.heap.size
  low : B2 ≤ g2

section
variable {w wr w' : World} {g h cap B2 : Nat} {xs : List Int} {p n g2 h2 cap2 : Nat} {v : Value} {s s' : RS}
theorem SK.below (H : SK w g h cap B2 xs p n v g2 h2 cap2 s wr) (hb : Below wr.heap.size wr w') : SK w g h cap B2 xs p n v g2 h2 cap2 s w' :=
  ⟨H.rd.below hb, own_below H.own hb, H.bel.trans (hb.mono H.bel.size), H.sub.below hb, H.hg, H.gB, H.hB, H.wB, Nat.le_trans H.top hb.size, H.low⟩
theorem SK.drewN (H : SK w g h cap B2 xs p n v g2 h2 cap2 s wr) (k : Nat) : SK w g h cap B2 xs p n v g2 h2 cap2 s (wr.drewN k) :=
  ⟨H.rd.drewN k, H.own, ⟨H.bel.os, H.bel.tape, H.bel.output, H.bel.size, H.bel.block⟩, H.sub.drewN k, H.hg, H.gB, H.hB, H.wB, H.top, H.low⟩
theorem SK.alloc (H : SK w g h cap B2 xs p n v g2 h2 cap2 s wr) (o : Obj) : SK w g h cap B2 xs p n v g2 h2 cap2 s (wr.alloc o) := H.below ((Below.refl _ wr).alloc (Nat.le_refl _) o)
theorem SK.step (H : SK w g h cap B2 xs p n v g2 h2 cap2 s wr) (hr : RdS w' g2 h2 cap2 s') (ho : Only wr g2 w') : SK w g h cap B2 xs p n v g2 h2 cap2 s' w' :=
  ⟨H.rd.other H.sub.blk ho (by have := H.gB; have := H.low; omega), own_only H.own H.sub.blk ho, below_only H.bel ho (by have := H.wB; have := H.low; omega) H.bel.size, hr, H.hg, H.gB, H.hB, H.wB, Nat.le_trans H.top ho.size, H.low⟩
end

theorem SB.drewN {w wr : World} {B : Nat} (h : Below B w wr) (n : Nat) : Below B w (wr.drewN n) := ⟨h.os, h.tape, h.output, h.size, h.block⟩

theorem same_b (v v2 : Value) (xs : List Int) (w : World) (h : Arr w v xs) (h2 : Arr w v2 xs) (hm : xs.length ≤ 1000000) :
    Calls Try.prog 38 #[v, v2] w fun e w' => e = .returned (.bool true) ∧ Below w.heap.size w w' := by
  refine (same_yes v v2 xs w h h2 hm).mono ?_
  rintro e w' ⟨he, n, rfl⟩
  exact ⟨he, SB.drewN (Below.refl _ w) n⟩

theorem left_b (g h cap : Nat) (bs : List Int) (st p : Nat) (ef ea : Int) (w : World) (H : Rd w g h cap bs st p ef ea) :
    Calls Try.prog 27 #[.pointer (some ⟨g, 0, none⟩)] w fun e w' => e = .returned (.int .i64 ((st + bs.length - p : Nat) : Int)) ∧ Below w.heap.size w w' := by
  refine (rleftOf g h cap bs st p ef ea w H).mono ?_
  rintro e w' ⟨he, n, rfl⟩
  exact ⟨he, SB.drewN (Below.refl _ w) n⟩

theorem own_low {w : World} {B n : Nat} {v : Value} {xs : List Value} (h : w.ownsRow B 5 1 v n xs) : ∀ b, v.ownBlock = some b → B ≤ b := by
  intro b hb
  rcases h.2 with ⟨rfl, _⟩ | ⟨g', cap, cur, rfl, hl, _⟩
  · cases hb
  · injection hb with hb
    subst hb
    exact hl

theorem own_form {w : World} {B n : Nat} {v : Value} {xs : List Value} (h : w.ownsRow B 5 1 v n xs) : ∃ A c, v = .slice A n c := by
  rcases h.2 with ⟨rfl, rfl⟩ | ⟨g', cap, cur, rfl, _⟩
  · exact ⟨_, _, rfl⟩
  · exact ⟨_, _, rfl⟩

theorem own_arr {w : World} {B n : Nat} {v : Value} {xs : List Int} (h : w.ownsRow B 5 1 v n (u8s xs)) (hn : xs.length = n) : Arr w v xs := by
  rcases h.2 with ⟨rfl, h0⟩ | ⟨g', cap, cur, rfl, _, hg, h1, h2, h3, h4⟩
  · exact .inl ⟨rfl, List.eq_nil_of_length_eq_zero (by omega)⟩
  · have hr : Row w g' cap xs := ⟨cur, hg, by simpa using h3, by rw [hn]; simpa using h4, by omega, h2⟩
    subst hn
    exact .inr ⟨_, cap, rfl, hr.all.at_⟩

/-- An append to what was read. -/
theorem SI.more {w w9 w' : World} {g h cap B2 : Nat} {xs part : List Int} {p n : Nat} {v v' : Value} (hrd : RdS w9 g h cap ⟨xs, 0, p + n, 0, 0⟩) (hown : w9.ownsRow B2 5 1 v p (u8s (xs.take p))) (hbel : Below w.heap.size w w9)
    (hg : w.heap.size ≤ g) (gB : g < B2) (hB : h < B2) (wB : w.heap.size ≤ B2) (top : B2 ≤ w9.heap.size) (hpart : (xs.drop p).take n = part)
    (h2 : w'.ownsRow B2 5 1 v' (p + n) (u8s (xs.take p) ++ u8s part)) (hgr : w9.grownBy w' v.ownBlock) : SI w g h cap B2 xs (p + n) v' w' := by
  have hl := own_low hown
  refine ⟨hrd.grown hgr ?_ ?_, ?_, ?_, hg, gB, hB, wB, Nat.le_trans top hgr.size⟩
  · intro he; have := hl g he.symm; omega
  · intro he; have := hl h he.symm; omega
  · rw [List.take_add, hpart]
    simpa [u8s] using h2
  · exact ⟨hgr.os.trans hbel.os, hgr.tape.trans hbel.tape, hgr.output.trans hbel.output, Nat.le_trans hbel.size hgr.size, fun i hi => (hgr.block i (by have := hbel.size; omega) (fun he => by have := hl i he.symm; omega)).trans (hbel.block i hi)⟩

theorem subs_long (v v3 : Value) (A A3 : Option Addr) (n n3 c c3 : Nat) (hv : v = .slice A n c) (hv3 : v3 = .slice A3 n3 c3) (h : 400 < n ∨ 40 < n3) (hb : n ≤ 9223372036854775807) (hb3 : n3 ≤ 9223372036854775807) (w : World) :
    Calls Try.prog 7 #[v, v3] w fun e w' => e = .returned (.bool true) ∧ Below w.heap.size w w' := by
  subst hv hv3
  by_cases h1 : 400 < n
  · clear h
    go_enter Try.func7, Try.ntmps7
    go_wp2_with fail
    refine (lives_any _).mono ?_
    rintro en w1 ⟨rfl, hb1⟩
    go_wp2_with fail
    go_ret
    exact ⟨rfl, hb1⟩
  · have h2 : 40 < n3 := by omega
    clear h
    go_enter Try.func7, Try.ntmps7
    go_wp2_with fail
    refine (lives_any _).mono ?_
    rintro en w1 ⟨rfl, hb1⟩
    go_wp2_with fail
    go_ret
    exact ⟨rfl, hb1⟩

set_option maxHeartbeats 4000000 in
theorem subs_walk (v v3 : Value) (xs : List Int) (zs : List Int) (w : World) (hx : Arr w v xs) (hk : Nums w v3 zs) (h1 : xs.length ≤ 400) (h2 : zs.length ≤ 40) (hr : ∀ u ∈ xs, 0 ≤ u ∧ u ≤ 255) :
    Calls Try.prog 7 #[v, v3] w fun e w' => e = .returned (.bool true) ∧ Below w.heap.size w w' := by
  obtain ⟨A, c, rfl⟩ := hx.form
  have hk3 : ∃ A3 c3, v3 = .slice A3 zs.length c3 := by
    rcases hk with ⟨rfl, rfl⟩ | ⟨ad, c3, h, _⟩
    · exact ⟨none, 0, rfl⟩
    · exact ⟨_, c3, h⟩
  obtain ⟨A3, c3, rfl⟩ := hk3
  have HX := Lib.hid hx
  have HK := Lib.hid hk
  have HR := Lib.hid hr
  have hd1 : decide ((400 : Int) < (xs.length : Int)) = false := by simp; omega
  have hd2 : decide ((40 : Int) < (zs.length : Int)) = false := by simp; omega
  clear hx hk hr
  go_enter Try.func7, Try.ntmps7
  go_wp2_with fail
  refine (lives_any _).mono ?_
  rintro en w1 ⟨rfl, hb1⟩
  have HB1 := Lib.hid hb1
  clear hb1
  go_wp2_with fail
  refine (rnewA _ xs _ (HX.out.below HB1.out) (by omega) HR.out).mono ?_
  rintro en w2 ⟨g, h, cap, rfl, hg, hh, hrd, hb2⟩
  have HI : Hid (SI w g h cap w2.heap.size xs 0 (.slice none 0 0) w2) := Lib.hid ⟨hrd, World.ownsRow_nil w2 _ _ _, HB1.out.trans (hb2.mono HB1.out.size), Nat.le_trans HB1.out.size hg, hrd.blk.lt, hrd.row.lt, Nat.le_trans HB1.out.size hb2.size, Nat.le_refl _⟩
  generalize hB2 : w2.heap.size = B2 at HI
  clear hrd hb2 hg hh HB1 hB2
  go_wp2_with fail
  go_loopw [6, 7] (fun v6 i wr => ∃ k p : Nat, k ≤ zs.length ∧ p ≤ xs.length ∧ i = .int .i64 k ∧ (∃ A6 c6, v6 = .slice A6 p c6) ∧ SI w g h cap B2 xs p v6 wr) (fun _ i _ => zs.length - (intOf i).toNat)
  case atStart => exact ⟨0, 0, Nat.zero_le _, Nat.zero_le _, rfl, ⟨none, 0, rfl⟩, HI.out⟩
  case round =>
    obtain ⟨k, p, hk, hp, rfl, ⟨A6, c6, rfl⟩, hsi⟩ := hrel
    have HS := Lib.hid hsi
    clear hsi HI
    by_cases hlt : k < zs.length
    · obtain ⟨ad, c3', hA3, hcells⟩ : ∃ ad c, Value.slice A3 zs.length c3 = .slice (some ad) zs.length c ∧ ∀ i (hi : i < zs.length), w.cell? (ad.add i) = some (.int .i64 zs[i]) := by
        rcases HK.out with ⟨_, h0⟩ | h0
        · rw [h0] at hlt; simp at hlt
        · exact h0
      injection hA3 with hA3 _ hcap
      subst hA3
      subst hcap
      obtain ⟨b3, o3, spot⟩ := ad
      have hspot : spot = none := by
        have h0 := hcells 0 (by omega)
        simpa [Addr.add] using World.cell?_spot h0
      subst hspot
      have hk0 : wr.cell? ⟨b3, o3 + k, none⟩ = some (.int .i64 zs[k]) := by
        have h0 := hcells k hlt
        have h1 := cell_block h0
        rw [block_add] at h1
        have h2 : w.cell? ⟨b3, o3 + k, none⟩ = some (.int .i64 zs[k]) := by
          unfold Addr.add at h0
          by_cases hz : k = 0
          · subst hz; simpa using h0
          · rw [if_neg hz] at h0; exact h0
        exact (HS.out.bel.cell (p := ⟨b3, o3 + k, none⟩) h1).trans h2
      obtain ⟨x, hx⟩ : ∃ x, zs[k] = x := ⟨_, rfl⟩
      rw [hx] at hk0
      clear hcells hx
      go_wp2_with fail
      go_quiet ((first
        | (go_at_call 27; exact Calls.quiet_of (rleftOf _ _ _ _ _ _ _ _ _ (HS.out.drewN _).rd))
        | (go_at_call 30; exact Calls.quiet_of_same ((pick_any _ _ (by omega) (by omega) _).mono fun _ _ h => ⟨h.1, h.2.symm⟩))))
      have hp0 := Int.emod_nonneg x (show (((xs.length - p : Nat) : Int) + 1) ≠ 0 by omega)
      have hp1 := Int.emod_lt_of_pos x (show 0 < (((xs.length - p : Nat) : Int) + 1) by omega)
      obtain ⟨n, hn⟩ : ∃ n : Nat, x % (((xs.length - p : Nat) : Int) + 1) = n := ⟨(x % (((xs.length - p : Nat) : Int) + 1)).toNat, by omega⟩
      rw [hn] at hp0 hp1 ⊢
      have hnl : n ≤ xs.length - p := by omega
      clear hn hp0 hp1 hk0
      have HS1 := Lib.hid (HS.out.drewN nq)
      clear HS
      generalize wr.drewN nq = wq at *
      go_wp2_with fail
      refine (rat _ _ _ _ _ _ _ _ _ HS1.out.rd).mono ?_
      rintro en wq' ⟨rfl, rfl⟩
      go_wp2_with fail
      refine (rsub _ _ _ ⟨xs, 0, p, 0, 0⟩ _ HS1.out.rd n).mono ?_
      have htk : RS.take ⟨xs, 0, p, 0, 0⟩ n = (some ((xs.drop p).take n), ⟨xs, 0, p + n, 0, 0⟩) := by
        rw [take_c (s := ⟨xs, 0, p, 0, 0⟩) n rfl (by simpa using hnl)]
        rfl
      have hlen : ((xs.drop p).take n).length = n := by simp; omega
      have e1 : RS.sub ⟨xs, 0, p, 0, 0⟩ n = ⟨(xs.drop p).take n, p, p, 0, 0⟩ := by
        unfold RS.sub
        rw [htk]
        rfl
      have hbyte : ∀ u ∈ (xs.drop p).take n, 0 ≤ u ∧ u ≤ 255 := fun u hu => HR.out u (List.mem_of_mem_drop (List.mem_of_mem_take hu))
      rw [e1, htk]
      rintro en w3 ⟨⟨g2, h2', cap2, rfl, hg2, hh2, hsub⟩, hrd, ho⟩
      obtain ⟨hown, hbel, htop⟩ := HS1.out.mid ho
      have HJ : Hid (SK w g h cap B2 xs p n (.slice A6 p c6) g2 h2' cap2 ⟨(xs.drop p).take n, p, p, 0, 0⟩ w3) := Lib.hid ⟨hrd, hown, hbel, hsub, HS1.out.hg, HS1.out.gB, HS1.out.hB, HS1.out.wB, htop, Nat.le_trans HS1.out.top hg2⟩
      have HLen := Lib.hid hlen
      have HByte := Lib.hid hbyte
      clear hrd ho hown hbel htop hsub hg2 hh2 e1 htk hlen hbyte HS1
      generalize hpart : (xs.drop p).take n = part at *
      have HPart := Lib.hid hpart
      clear hpart
      go_wp2_with fail
      refine (rat _ _ _ _ _ _ _ _ _ HJ.out.sub).mono ?_
      rintro en w3' ⟨rfl, rfl⟩
      go_wp2_with fail
      have hleft := rleftOf _ _ _ _ _ _ _ _ _ HJ.out.sub
      rw [show p + part.length - p = n from by have := HLen.out; omega] at hleft
      refine hleft.mono ?_
      rintro en w3' ⟨rfl, n3, rfl⟩
      have HJ4 := Lib.hid (HJ.out.drewN n3)
      clear HJ hleft
      generalize w3.drewN n3 = w4 at *
      go_wp2_with fail
      refine (rat _ _ _ _ _ _ _ _ _ HJ4.out.rd).mono ?_
      rintro en w4' ⟨rfl, rfl⟩
      go_wp2_with fail
      have hbt := rbytes _ _ _ _ _ HJ4.out.sub n
      have htk : RS.take ⟨part, p, p, 0, 0⟩ n = (some part, ⟨part, p, p + n, 0, 0⟩) := by
        have hl := HLen.out
        rw [take_c (s := ⟨part, p, p, 0, 0⟩) n rfl (by show n ≤ p + part.length - p; omega)]
        show (some ((part.drop (p - p)).take n), _) = _
        rw [Nat.sub_self, List.drop_zero, List.take_of_length_le (by omega)]
      rw [htk] at hbt
      refine hbt.mono ?_
      rintro en w5 ⟨⟨v5, rfl, hgot⟩, hrd, ho⟩
      have HJ5 := Lib.hid (HJ4.out.step hrd ho)
      have hgot2 : Got w5 w4.heap.size v5 part := hgot
      obtain ⟨A5, c5, hv5⟩ := hgot2.arr.form
      have hl5 := HLen.out
      rw [hl5] at hv5
      subst hv5
      have HGot : Hid (Got w5 w4.heap.size (.slice A5 n c5) part) := Lib.hid hgot
      clear hl5
      have HLow : Hid (B2 ≤ w4.heap.size) := Lib.hid HJ4.out.top
      clear htk hbt hgot hgot2 hrd ho HJ4
      go_wp2_with fail
      have hu := rU1 _ _ _ _ _ HJ5.out.sub
      have htk : RS.take ⟨part, p, p + n, 0, 0⟩ 1 = (none, ⟨part, p, p + n, 4, ((p + n : Nat) : Int)⟩) := by
        have hl := HLen.out
        exact take_b 1 rfl (.inr (by show ((p + part.length - (p + n) : Nat) : Int) < 1; omega))
      rw [htk] at hu
      refine hu.mono ?_
      rintro en w6 ⟨rfl, hrd, ho⟩
      have HJ6 := Lib.hid (HJ5.out.step hrd ho)
      have HGot6 : Hid (Got w6 w4.heap.size (.slice A5 n c5) part ∧ w5.heap.size ≤ w6.heap.size) := Lib.hid ⟨by
        rcases HGot.out with h0 | ⟨h', c', h3, h4, h5⟩
        · exact .inl h0
        · refine .inr ⟨h', c', h3, h4.grown ho ?_, h5⟩
          rintro ⟨⟩
          obtain ⟨cur, hh, _⟩ := h4
          exact hh.unlike HJ5.out.sub.blk (by decide) rfl, ho.size⟩
      clear htk hu hrd ho HJ5 HGot
      go_wp2_with fail
      have hf := rfail _ _ _ _ _ HJ6.out.sub 3
      rw [show RS.fail ⟨part, p, p + n, 4, ((p + n : Nat) : Int)⟩ 3 = ⟨part, p, p + n, 4, ((p + n : Nat) : Int)⟩ from rfl] at hf
      refine hf.mono ?_
      rintro en w7 ⟨rfl, hrd, ho⟩
      have HJ7 := Lib.hid (HJ6.out.step hrd ho)
      have HGot7 : Hid (Got w7 w4.heap.size (.slice A5 n c5) part) := Lib.hid (by
        rcases HGot6.out.1 with h0 | ⟨h', c', h3, h4, h5⟩
        · exact .inl h0
        · refine .inr ⟨h', c', h3, h4.grown ho ?_, h5⟩
          rintro ⟨⟩
          obtain ⟨cur, hh, _⟩ := h4
          exact hh.unlike HJ6.out.sub.blk (by decide) rfl)
      clear hf hrd ho HJ6 HGot6
      go_wp2_with fail
      refine (rfault _ _ _ _ _ _ _ _ _ HJ7.out.sub).mono ?_
      rintro en w8 ⟨rfl, rfl⟩
      have hb8 : Below w7.heap.size w7 (w7.alloc (.cells #[.int .i64 4, .int .i64 ((p + n : Nat) : Int)] 39)) := (Below.refl _ w7).alloc (Nat.le_refl _) _
      have HJ8 := Lib.hid (HJ7.out.below hb8)
      have HGot8 := Lib.hid (HGot7.out.below hb8)
      clear hb8 HJ7 HGot7
      generalize w7.alloc (.cells #[.int .i64 4, .int .i64 ((p + n : Nat) : Int)] 39) = w8 at *
      go_wp2_with fail
      refine (rfault _ _ _ _ _ _ _ _ _ HJ8.out.rd).mono ?_
      rintro en w9 ⟨rfl, rfl⟩
      have hb9 : Below w8.heap.size w8 (w8.alloc (.cells #[.int .i64 0, .int .i64 0] 39)) := (Below.refl _ w8).alloc (Nat.le_refl _) _
      have HJ9 := Lib.hid (HJ8.out.below hb9)
      have HGot9 := Lib.hid (HGot8.out.below hb9)
      clear hb9 HJ8 HGot8
      generalize w8.alloc (.cells #[.int .i64 0, .int .i64 0] 39) = w9 at *
      obtain ⟨i0, hi, hz0, hz1, hz2⟩ := info_parts info_u8
      rcases HGot9.out with ⟨hv0, hp0⟩ | ⟨h', c', hv1, hrow, _⟩
      · obtain ⟨rfl, rfl, rfl⟩ : A5 = none ∧ n = 0 ∧ c5 = 0 := by injection hv0 with x1 x2 x3; exact ⟨x1, x2, x3⟩
        have HN : Hid (SI w g h cap B2 xs (p + 0) (.slice A6 p c6) w9) := Lib.hid ⟨HJ9.out.rd, by simpa using HJ9.out.own, HJ9.out.bel, HJ9.out.hg, HJ9.out.gB, HJ9.out.hB, HJ9.out.wB, HJ9.out.top⟩
        clear hp0
        go_wp2_with (at_builtin; go_loud (refine wpList_append_own_none rfl _ _ 34 rfl B2 5 i0 1 Try.underlying34 hi _ p _ rfl HJ9.out.own rfl ?_))
        exact ⟨⟨k + 1, p, by omega, hp, by go_num, ⟨_, _, rfl⟩, by simpa using HN.out⟩, by simp [intOf]; omega⟩
      · obtain ⟨rfl, rfl⟩ : A5 = some ⟨h', 0, none⟩ ∧ c5 = c' := by injection hv1 with x1 x2 x3; exact ⟨x1, x3⟩
        clear hv1
        have hlp := HLen.out
        have HRow := Lib.hid hrow
        have HL1 : Hid ((u8s part).length = n * 1) := Lib.hid (by simp [hlp])
        clear hrow hlp
        go_wp2_with (at_builtin; go_loud (refine wpList_append_own _ rfl _ _ 34 rfl B2 5 i0 (.int .u8 0) 1 1 Try.underlying34 hi hz0 hz1 hz2 rfl (by decide) _ p _ rfl HJ9.out.own ⟨h', 0, none⟩ n c5 (u8s part) rfl HL1.out HRow.out.all.at_ (u8s_one part) (by unfold maxLen; omega) (by omega) HJ9.out.top ?_))
        intro v' w10 hown2 hgrow _
        obtain ⟨A7, c7, rfl⟩ := own_form hown2
        have HN : Hid (SI w g h cap B2 xs (p + n) (.slice A7 (p + n) c7) w10) := Lib.hid (SI.more HJ9.out.rd HJ9.out.own HJ9.out.bel HJ9.out.hg HJ9.out.gB HJ9.out.hB HJ9.out.wB HJ9.out.top HPart.out (by simpa [u8s] using hown2) hgrow)
        clear hown2 hgrow
        go_wp2_with fail
        exact ⟨⟨k + 1, p + n, by omega, by omega, by go_num, ⟨_, _, rfl⟩, HN.out⟩, by simp [intOf]; omega⟩
    · have hke : k = zs.length := by omega
      subst hke
      go_wp2_with fail
      have hleft := rleftOf _ _ _ _ _ _ _ _ _ HS.out.rd
      rw [show 0 + xs.length - p = xs.length - p from by omega] at hleft
      refine hleft.mono ?_
      rintro en w3' ⟨rfl, n3, rfl⟩
      have HS3 := Lib.hid (HS.out.drewN n3)
      clear HS hleft
      generalize wr.drewN n3 = w3 at *
      go_wp2_with fail
      have htk : RS.take ⟨xs, 0, p, 0, 0⟩ ((xs.length - p : Nat) : Int) = (some (xs.drop p), ⟨xs, 0, p + (xs.length - p), 0, 0⟩) := by
        rw [take_c (s := ⟨xs, 0, p, 0, 0⟩) (xs.length - p) rfl (by show xs.length - p ≤ 0 + xs.length - p; omega)]
        show (some ((xs.drop (p - 0)).take (xs.length - p)), _) = _
        rw [Nat.sub_zero, List.take_of_length_le (by simp)]
      have hbt := rbytes _ _ _ _ _ HS3.out.rd ((xs.length - p : Nat) : Int)
      rw [htk] at hbt
      refine hbt.mono ?_
      rintro en w4 ⟨⟨v4, rfl, hgot0⟩, hrd, ho⟩
      have hgot : Got w4 w3.heap.size v4 (xs.drop p) := hgot0
      obtain ⟨hown, hbel, htop⟩ := HS3.out.mid ho
      have HJ : Hid (RdS w4 g h cap ⟨xs, 0, p + (xs.length - p), 0, 0⟩ ∧ w4.ownsRow B2 5 1 (.slice A6 p c6) p (u8s (xs.take p)) ∧ Below w.heap.size w w4 ∧ w.heap.size ≤ g ∧ g < B2 ∧ h < B2 ∧ w.heap.size ≤ B2 ∧ B2 ≤ w4.heap.size) := Lib.hid ⟨hrd, hown, hbel, HS3.out.hg, HS3.out.gB, HS3.out.hB, HS3.out.wB, htop⟩
      have HGot := Lib.hid hgot
      obtain ⟨A4, c4, rfl⟩ := hgot.arr.form
      clear htk hbt hrd ho hgot0 hgot hown hbel htop HS3
      have hpe : p + (xs.length - p) = xs.length := by omega
      obtain ⟨i0, hi, hz0, hz1, hz2⟩ := info_parts info_u8
      have hdl : (xs.drop p).length = xs.length - p := by simp
      rw [hdl] at HGot ⊢
      rcases HGot.out with ⟨hv0, hp0⟩ | ⟨h', c', hv1, hrow, _⟩
      · obtain ⟨rfl, hnz, rfl⟩ : A4 = none ∧ xs.length - p = 0 ∧ c4 = 0 := by injection hv0 with x1 x2 x3; exact ⟨x1, x2, x3⟩
        have hpx : p = xs.length := by omega
        have HArr : Hid (Arr w4 (.slice A6 p c6) xs) := Lib.hid (own_arr (by have h0 := HJ.out.2.1; rw [hpx, List.take_length] at h0; rw [hpx]; exact h0) hpx.symm)
        have HRd : Hid (RdS w4 g h cap ⟨xs, 0, xs.length, 0, 0⟩) := Lib.hid (by have h0 := HJ.out.1; rw [hpe] at h0; exact h0)
        have HBel := Lib.hid HJ.out.2.2.1
        have HOwn := Lib.hid HJ.out.2.1
        have HG := Lib.hid HJ.out.2.2.2.1
        rw [hnz]
        clear hpx hnz hp0 hdl hpe hv0 HGot HJ
        go_wp2_with (at_builtin; go_loud (refine wpList_append_own_none rfl _ _ 34 rfl B2 5 i0 1 Try.underlying34 hi _ p _ rfl HOwn.out rfl ?_))
        refine (same_b _ _ xs _ HArr.out (HX.out.below HBel.out) (by omega)).mono ?_
        rintro en w11 ⟨rfl, hb11⟩
        have HRd1 := Lib.hid (HRd.out.below hb11)
        have HBel1 := Lib.hid (HBel.out.trans (hb11.mono HBel.out.size))
        clear HArr HRd HBel hb11
        go_wp2_with fail
        have hleft := left_b _ _ _ _ _ _ _ _ _ HRd1.out
        rw [show 0 + xs.length - xs.length = 0 from by omega] at hleft
        refine hleft.mono ?_
        rintro en w12 ⟨rfl, hb12⟩
        have HRd2 := Lib.hid (HRd1.out.below hb12)
        have HBel2 := Lib.hid (HBel1.out.trans (hb12.mono HBel1.out.size))
        clear hb12
        clear hleft HRd1 HBel1
        go_wp2_with fail
        have hbt := rbytes _ _ _ ⟨xs, 0, xs.length, 0, 0⟩ _ HRd2.out 0
        rw [show RS.take ⟨xs, 0, xs.length, 0, 0⟩ 0 = (some [], ⟨xs, 0, xs.length, 0, 0⟩) from by
          have h0 := take_c (s := ⟨xs, 0, xs.length, 0, 0⟩) 0 rfl (Nat.zero_le _)
          simpa using h0] at hbt
        refine hbt.mono ?_
        rintro en w13 ⟨⟨v13, rfl, hgot13⟩, hrd13, ho13⟩
        have hgot13' : Got w13 _ v13 [] := hgot13
        obtain ⟨A13, c13, rfl⟩ := hgot13'.arr.form
        have HRd3 := Lib.hid hrd13
        have HBel3 := Lib.hid (below_only HBel2.out ho13 HG.out HBel2.out.size)
        clear hbt hgot13 hgot13' hrd13 ho13 HRd2 HBel2
        go_wp2_with fail
        refine (rfault _ _ _ _ _ _ _ _ _ HRd3.out).mono ?_
        rintro en w14 ⟨rfl, rfl⟩
        have HBel4 := Lib.hid (HBel3.out.alloc HBel3.out.size (.cells #[.int .i64 0, .int .i64 0] 39))
        clear HRd3 HBel3
        go_wp2_with fail
        go_ret
        exact ⟨rfl, HBel4.out⟩
      · obtain ⟨rfl, rfl⟩ : A4 = some ⟨h', 0, none⟩ ∧ c4 = c' := by injection hv1 with x1 x2 x3; exact ⟨x1, x3⟩
        have HRow := Lib.hid hrow
        have HL1 : Hid ((u8s (xs.drop p)).length = (xs.length - p) * 1) := Lib.hid (by simp)
        clear hrow hv1 hdl hpe
        go_wp2_with (at_builtin; go_loud (refine wpList_append_own _ rfl _ _ 34 rfl B2 5 i0 (.int .u8 0) 1 1 Try.underlying34 hi hz0 hz1 hz2 rfl (by decide) _ p _ rfl HJ.out.2.1 ⟨h', 0, none⟩ (xs.length - p) c4 (u8s (xs.drop p)) rfl HL1.out HRow.out.all.at_ (u8s_one _) (by unfold maxLen; omega) (by omega) HJ.out.2.2.2.2.2.2.2 ?_))
        intro v' w10 hown2 hgrow _
        obtain ⟨A7, c7, rfl⟩ := own_form hown2
        have hpe : p + (xs.length - p) = xs.length := by omega
        have hown4 : w10.ownsRow B2 5 1 (.slice A7 xs.length c7) (p + (xs.length - p)) (u8s (xs.take p) ++ u8s (xs.drop p)) := by
          rw [hpe, ← List.map_append, List.take_append_drop]
          simpa [u8s] using hown2
        have hsi : SI w g h cap B2 xs (p + (xs.length - p)) (.slice A7 xs.length c7) w10 := SI.more HJ.out.1 HJ.out.2.1 HJ.out.2.2.1 HJ.out.2.2.2.1 HJ.out.2.2.2.2.1 HJ.out.2.2.2.2.2.1 HJ.out.2.2.2.2.2.2.1 HJ.out.2.2.2.2.2.2.2 (by rw [List.take_of_length_le (by simp)]) hown4 hgrow
        rw [hpe] at hsi
        have HArr : Hid (Arr w10 (.slice A7 xs.length c7) xs) := Lib.hid (own_arr (by have h0 := hsi.own; rw [List.take_length] at h0; exact h0) rfl)
        have HRd := Lib.hid hsi.rd
        have HBel := Lib.hid hsi.bel
        have HG := Lib.hid hsi.hg
        clear hsi hpe hown2 hown4 hgrow HGot HJ
        go_wp2_with fail
        refine (same_b _ _ xs _ HArr.out (HX.out.below HBel.out) (by omega)).mono ?_
        rintro en w11 ⟨rfl, hb11⟩
        have HRd1 := Lib.hid (HRd.out.below hb11)
        have HBel1 := Lib.hid (HBel.out.trans (hb11.mono HBel.out.size))
        clear HArr HRd HBel hb11
        go_wp2_with fail
        have hleft := left_b _ _ _ _ _ _ _ _ _ HRd1.out
        rw [show 0 + xs.length - xs.length = 0 from by omega] at hleft
        refine hleft.mono ?_
        rintro en w12 ⟨rfl, hb12⟩
        have HRd2 := Lib.hid (HRd1.out.below hb12)
        have HBel2 := Lib.hid (HBel1.out.trans (hb12.mono HBel1.out.size))
        clear hb12
        clear hleft HRd1 HBel1
        go_wp2_with fail
        have hbt := rbytes _ _ _ ⟨xs, 0, xs.length, 0, 0⟩ _ HRd2.out 0
        rw [show RS.take ⟨xs, 0, xs.length, 0, 0⟩ 0 = (some [], ⟨xs, 0, xs.length, 0, 0⟩) from by
          have h0 := take_c (s := ⟨xs, 0, xs.length, 0, 0⟩) 0 rfl (Nat.zero_le _)
          simpa using h0] at hbt
        refine hbt.mono ?_
        rintro en w13 ⟨⟨v13, rfl, hgot13⟩, hrd13, ho13⟩
        have hgot13' : Got w13 _ v13 [] := hgot13
        obtain ⟨A13, c13, rfl⟩ := hgot13'.arr.form
        have HRd3 := Lib.hid hrd13
        have HBel3 := Lib.hid (below_only HBel2.out ho13 HG.out HBel2.out.size)
        clear hbt hgot13 hgot13' hrd13 ho13 HRd2 HBel2
        go_wp2_with fail
        refine (rfault _ _ _ _ _ _ _ _ _ HRd3.out).mono ?_
        rintro en w14 ⟨rfl, rfl⟩
        have HBel4 := Lib.hid (HBel3.out.alloc HBel3.out.size (.cells #[.int .i64 0, .int .i64 0] 39))
        clear HRd3 HBel3
        go_wp2_with fail
        go_ret
        exact ⟨rfl, HBel4.out⟩

end Go.Proofs.Ytlmgbnpimmjijab
