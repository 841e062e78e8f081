/- Graphs, the document's side: Component. -/
import Derived.Test.YtfmjcjkifjndgaaRfB
import Derived.Deep.LoopGhost
import Derived.Deep.RegionHeld3
namespace Go.Proofs.Ytfmjcjkifjndgaa
open Go.RowKit
set_option linter.unusedVariables false
set_option linter.unusedSimpArgs false
set_option maxRecDepth 100000

theorem bits_set (N : Nat) (F : Nat → Bool) (a : Nat) (u : Bool) : (bits N F).toArray.setIfInBounds a (.bool u) = (bits N (put F a u)).toArray := by
  apply Array.toList_inj.1
  rw [Array.toList_setIfInBounds]
  refine List.ext_getElem (by simp [bits]) (fun j h1 h2 => ?_)
  rw [List.getElem_set]
  by_cases e : a = j
  · subst e; simp [bits, put_same]
  · rw [if_neg e]
    simp only [bits, List.getElem_map, List.getElem_range]
    rw [put_other (Ne.symm e)]
theorem bits_made (N : Nat) : madeCells #[.bool false] N = (bits N fun _ => false).toArray := by
  apply Array.toList_inj.1
  rw [toList_madeCells_one]
  exact List.ext_getElem (by simp [bits]) (fun i h1 h2 => by simp [bits])
theorem put_swap (F : Nat → Bool) (a b : Nat) (u : Bool) : put (put F a u) b u = put (put F b u) a u := by
  funext m
  unfold put
  by_cases h1 : m = b <;> by_cases h2 : m = a <;> simp [h1, h2]
theorem cnt_two {F : Nat → Bool} {n a b : Nat} (ha : a < n) (hb : b < n) (h : F a ≠ F b) : cnt (put (put F a true) b true) n < cnt F n := by
  have h2 := cnt_put_le (put F a true) n b
  cases hF : F a
  · have h1 := cnt_put ha hF
    omega
  · have hFb : F b = false := by cases h9 : F b <;> simp_all
    have hne : b ≠ a := by rintro rfl; exact h rfl
    have h1 := cnt_put (F := put F a true) hb (by rw [put_other hne]; exact hFb)
    have h3 := cnt_put_le F n a
    omega
/-- The ends of link j are both in, or both out. -/
def setl (s : GS) (F : Nat → Bool) (j : Nat) : Prop := ∀ x, s.L[j]? = some x → s.up j = true → F x.a.toNat = F x.b.toNat
def SndF (s : GS) (n : Nat) (F : Nat → Bool) : Prop := F n = true ∧ ∀ m, F m = true → Rch s n m
theorem SndF.two {s : GS} {n : Nat} {F : Nat → Bool} (h : SndF s n F) {a b : Nat} (ha : adj s a b) (hne : F a ≠ F b) : SndF s n (put (put F a true) b true) := by
  have hab : Rch s n a ∧ Rch s n b := by
    cases hF : F a
    · have hFb : F b = true := by cases h9 : F b <;> simp_all
      have := h.2 b hFb
      exact ⟨this.step (adj_symm ha), this⟩
    · have := h.2 a hF
      exact ⟨this, this.step ha⟩
  refine ⟨?_, fun m hm => ?_⟩
  · unfold put; split
    · rfl
    · split
      · rfl
      · exact h.1
  · unfold put at hm
    by_cases h1 : m = b
    · subst h1; exact hab.2
    · rw [if_neg h1] at hm
      by_cases h2 : m = a
      · subst h2; exact hab.1
      · rw [if_neg h2] at hm; exact h.2 m hm
theorem comp_fix {s : GS} {n : Nat} {F : Nat → Bool} (ok : s.ok) (hal : s.al n = true) (h : SndF s n F) (hc : ∀ j, j < s.L.length → setl s F j) : s.comp n = elems F s.N := by
  refine comp_of F hal h.1 (fun m k ha hm => ?_) (fun m _ hm => h.2 m hm)
  obtain ⟨i, x, hx, hu, he⟩ := ha
  have hi := (List.getElem?_eq_some_iff.1 hx).1
  have := hc i hi x hx hu
  rcases he with ⟨h1, h2⟩ | ⟨h1, h2⟩
  · rw [h1, h2] at this; simpa [hm] using this.symm
  · rw [h1, h2] at this; simpa [hm] using this

def ROut (w : World) (h : Nat) (s : GS) (n0 : Nat) (c : Nat) (v : Value) (wr : World) : Prop := ∃ (F : Nat → Bool) (b : Bool), v = .bool b ∧ Has wr h 4 (bits s.N F).toArray ∧ SndF s n0 F ∧ (b = false → ∀ j, j < s.L.length → setl s F j) ∧ c = cnt F s.N * 2 + (if b = true then 1 else 0) ∧ Below w.heap.size w wr

set_option maxHeartbeats 4000000 in
theorem rcomp_any (r : Nat) (s : GS) (w : World) (H : Rf w r s) (n : Int) :
    Calls Try.prog 50 #[.pointer (some ⟨r, 0, none⟩), .int .i64 n] w (Gives w 3 1 (s.compI n).length (natv (s.compI n))) := by
  have hok := H.ok
  have HH := Lib.hid H
  have HOK := Lib.hid hok
  have hrl := H.lt
  have hN := hok.n32
  have hM := hok.m128
  obtain ⟨A1, c1, A2, c2, A3, c3, h⟩ := H
  have y0 : w.cell? ⟨r, 0, none⟩ = some (.int .i64 s.N) := h.blk.cell 0
  have y1 : w.cell? ⟨r, 1, none⟩ = some (.slice A1 s.L.length c1) := h.blk.cell 1
  have HY0 := Lib.hid y0
  have HY1 := Lib.hid y1
  have HLK := Lib.hid h.lk
  clear h y0 y1
  cases hal : s.alive n
  · have HE : Hid (s.compI n = []) := Lib.hid (by
      unfold GS.compI
      split
      · rename_i h0
        refine comp_dead hok ?_
        unfold GS.alive at hal
        simpa [h0] using hal
      · rfl)
    clear hok
    go_enter Try.func50, Try.ntmps50
    go_wp2_with fail
    refine (ralive_any r s w HH.out n).mono ?_
    rintro e w1 ⟨rfl, hb1⟩
    rw [hal]
    have HB1 := Lib.hid hb1
    clear hb1 hal
    go_wp2_with fail
    go_ret
    rw [HE.out]
    exact ⟨none, 0, rfl, World.ownsRow_nil _ _ _ _, HB1.out⟩
  · obtain ⟨n0, rfl, hal0⟩ : ∃ k : Nat, n = k ∧ s.al k = true := by
      unfold GS.alive at hal
      simp only [Bool.and_eq_true, decide_eq_true_eq] at hal
      exact ⟨n.toNat, by omega, hal.2⟩
    have hn0 : n0 < s.N := hok.alN _ hal0
    have hn0I : (n0 : Int) < (s.N : Int) := by omega
    have HAl := Lib.hid hal0
    obtain ⟨j0, hj0, hz0, hz1, hz2⟩ := info_parts info_bool
    obtain ⟨ji, hji, hy0, hy1, hy2⟩ := info_parts info_int
    rw [compI_nat]
    clear hok hal0
    go_enter Try.func50, Try.ntmps50
    go_wp2_with fail
    refine (ralive_any r s w HH.out n0).mono ?_
    rintro e w1 ⟨rfl, hb1⟩
    rw [hal]
    have y0 : w1.cell? ⟨r, 0, none⟩ = some (.int .i64 s.N) := (hb1.cell (p := ⟨r, 0, none⟩) hrl).trans HY0.out
    have hw1 : w.heap.size ≤ w1.heap.size := hb1.size
    obtain ⟨h, hh⟩ : ∃ h, w1.heap.size = h := ⟨_, rfl⟩
    have hin := Has.new w1 4 (bits s.N fun _ => false).toArray
    rw [hh] at hin
    have hB2 := hb1.trans ((alloc_below w1 (.cells (bits s.N fun _ => false).toArray 4)).mono hb1.size)
    rw [← bits_made] at hB2 hin
    clear hal hb1
    go_upto_region 4 with (refine wpList_make_row _ rfl _ _ 54 rfl 4 j0 (.bool false) Try.underlying54 hj0 hz0 hz1 rfl .i64 .i64 s.N rfl rfl (by rw [hz2]; omega) (by omega) ?_)
    try rw [hh]
    rw [hh] at hw1
    generalize w1.alloc (.cells (madeCells #[.bool false] s.N) 4) = W2 at *
    rw [bits_made] at hin
    have c0 : W2.cell? ⟨h, n0, none⟩ = some (.bool false) := by rw [hin.cell]; simp [bits, hn0]
    have f0 := hin.free n0
    have hI3 := hin.set_ n0 (.bool true)
    rw [bits_set] at hI3
    have hB3 := hB2.setCell (p := ⟨h, n0, none⟩) hw1 (.bool true)
    have hR0 : ROut w h s n0 (cnt (put (fun _ => false) n0 true) s.N * 2 + 1) (.bool true) (W2.setCell ⟨h, n0, none⟩ (.bool true)) :=
      ⟨_, true, rfl, hI3, ⟨put_same _ _ _, fun m hm => by
        by_cases e : m = n0
        · subst e; exact .here HAl.out
        · rw [put_other e] at hm; cases hm⟩, (fun h => by cases h), by simp, hB3⟩
    have HR0 := Lib.hid hR0
    clear hR0 hB3 hI3 hin hB2 hh y0
    go_wp2_with fail
    clear c0 f0
    go_loopw [6] (fun v wr => ∃ c, ROut w h s n0 c v wr) (fun v wr => leastOf (fun c => ROut w h s n0 c v wr))
    case atStart => exact ⟨_, HR0.out⟩
    case round =>
      have hls := leastOf_spec hrel
      obtain ⟨K0, hK0⟩ : ∃ K0, leastOf (fun c => ROut w h s n0 c u6 wr) = K0 := ⟨_, rfl⟩
      rw [hK0] at hls
      obtain ⟨hout, _⟩ := hls
      clear hrel
      obtain ⟨F, b, rfl, hi, hsn, hcl, hk, hb⟩ := hout
      have HK0 := Lib.hid hK0
      have hil := hi.lt
      cases b
      · -- nothing has turned: the nodes that are in
        have HE : Hid (s.comp n0 = elems F s.N) := Lib.hid (comp_fix HOK.out HAl.out hsn (hcl rfl))
        have HI := Lib.hid hi
        have HB := Lib.hid hb
        clear hi hsn hcl hk hb hK0
        go_wp2_with fail
        clear HK0
        obtain ⟨wo, hwo⟩ : ∃ wo : World, wo = wr := ⟨_, rfl⟩
        rw [← hwo] at HI HB ⊢
        clear hwo
        go_loopw [9, 10] (fun v i wr => ∃ (k m : Nat) (A9 : Option Addr) (c9 : Nat), k ≤ s.N ∧ i = .int .i64 k ∧ Hid (m = (elems F k).length) ∧ v = .slice A9 m c9 ∧ wr.ownsRow wo.heap.size 3 1 (.slice A9 m c9) m (natv (elems F k)) ∧ Below wo.heap.size wo wr) (fun _ i _ => s.N - (intOf i).toNat)
        case atStart => exact ⟨0, 0, none, 0, Nat.zero_le _, rfl, Lib.hid rfl, rfl, World.ownsRow_nil _ _ _ _, Below.refl _ _⟩
        case round =>
          obtain ⟨k, m, A9, c9, hk, rfl, HM, rfl, hown, hb⟩ := hrel
          have hmk : m ≤ k := by rw [HM.out]; exact elems_len F k
          have hbw := HB.out.trans (hb.mono HB.out.size)
          have y0 : wr.cell? ⟨r, 0, none⟩ = some (.int .i64 s.N) := (hbw.cell (p := ⟨r, 0, none⟩) hrl).trans HY0.out
          clear hbw
          have HO := Lib.hid hown
          have HBk := Lib.hid hb
          by_cases hlt : k < s.N
          · have hkl : (k : Int) < (s.N : Int) := by omega
            have ic : wr.cell? ⟨h, k, none⟩ = some (.bool (F k)) := by rw [(HI.out.below hb).cell]; simp [bits, hlt]
            have HS := Lib.hid (elems_succ F k)
            clear hown hb
            cases hF : F k
            · rw [hF] at ic
              have HS2 : Hid (elems F (k + 1) = elems F k) := Lib.hid (by rw [HS.out, hF]; simp)
              clear hF
              go_wp2_with fail
              go_roundw
              case rel => exact ⟨k + 1, m, A9, c9, by omega, by go_num, Lib.hid (by rw [HS2.out]; exact HM.out), rfl, by rw [HS2.out]; exact HO.out, HBk.out⟩
              case measure => simp [intOf]; omega
            · rw [hF] at ic
              have HS2 : Hid (elems F (k + 1) = elems F k ++ [k]) := Lib.hid (by rw [HS.out, hF]; simp)
              clear hF
              go_wp2_with (at_builtin; refine wpList_append_own _ rfl _ _ 58 rfl wo.heap.size 3 ji (.int .i64 0) 1 8 Try.underlying58 hji hy0 hy1 hy2 rfl (by decide) _ _ _ rfl (HO.out.alloc _) ⟨wr.heap.size, 0, none⟩ 1 1 [.int .i64 (k : Int)] rfl rfl (laid_block wr _ _) (by simp [Value.oneCell']) (by unfold maxLen; omega) (by omega) (by have := HBk.out.size; simp; omega) ?_)
              intro v' w6 hown hgrow hnil
              obtain ⟨A', c', rfl, _⟩ := own_form hown
              have HO6 := Lib.hid hown
              have HB6 : Hid (Below wo.heap.size wo w6) := Lib.hid (grown_below (HBk.out.alloc HBk.out.size _) hgrow (fun r hr => (HO.out.lt r hr).1) (by have := HBk.out.size; simp; omega))
              clear hown hgrow hnil
              go_wp2_with fail
              go_roundw
              case rel => exact ⟨k + 1, m + 1, A', c', by omega, by go_num, Lib.hid (by rw [HS2.out, List.length_append, ← HM.out]; rfl), rfl, by rw [HS2.out]; simp only [natv, List.map_append]; exact HO6.out, HB6.out⟩
              case measure => simp [intOf]; omega
          · obtain rfl : k = s.N := by omega
            clear hown hb
            go_wp2_with fail
            go_ret
            refine ⟨A9, c9, ?_, ?_, HB.out.trans (HBk.out.mono HB.out.size)⟩
            · rw [HE.out, ← HM.out]; rfl
            · rw [HE.out, ← HM.out]; exact HO.out.mono HB.out.size
      · -- a pass over the links
        have HI := Lib.hid hi
        have HSn := Lib.hid hsn
        have HB := Lib.hid hb
        obtain ⟨q, hq⟩ : ∃ q, cnt F s.N = q := ⟨_, rfl⟩
        have HQ := Lib.hid hq
        rw [hq] at hk
        simp only [if_true] at hk
        have HK := Lib.hid hk
        clear hi hsn hcl hb hK0 hk hq
        go_wp2_with fail
        go_loopw [6, 7] (fun v i wr => ∃ (k : Nat) (F : Nat → Bool) (b : Bool), k ≤ s.L.length ∧ i = .int .i64 k ∧ v = .bool b ∧ Has wr h 4 (bits s.N F).toArray ∧ Hid (SndF s n0 F) ∧ Hid (b = false → cnt F s.N = q ∧ ∀ j, j < k → setl s F j) ∧ Hid (b = true → cnt F s.N < q) ∧ Below w.heap.size w wr) (fun _ i _ => s.L.length - (intOf i).toNat)
        case atStart => exact ⟨0, F, false, Nat.zero_le _, rfl, rfl, HI.out, HSn, Lib.hid (fun _ => ⟨HQ.out, fun j hj => by omega⟩), Lib.hid (fun h => by cases h), HB.out⟩
        case round =>
          clear HI HSn HB HQ
          obtain ⟨k, F, b, hk, rfl, rfl, hi, HSn, HC, HD, hb⟩ := hrel
          have y1 : wr.cell? ⟨r, 1, none⟩ = some (.slice A1 s.L.length c1) := (hb.cell (p := ⟨r, 1, none⟩) hrl).trans HY1.out
          by_cases hlt : k < s.L.length
          · obtain ⟨x, hx⟩ : ∃ x, s.L[k]? = some x := ⟨s.L[k], by simp [hlt]⟩
            have hlk := HLK.out.below hb
            obtain ⟨b1, o1, rfl, _⟩ := hlk.plain (by omega)
            have hc1 := hlk.cap
            obtain ⟨q0, q1, q2⟩ := hlk.at_ hx
            obtain ⟨a0, a1, b0, b1', _⟩ := fine_at HOK.out hx
            obtain ⟨a, ha⟩ : ∃ a : Nat, x.a = a := ⟨x.a.toNat, by omega⟩
            obtain ⟨d, hd⟩ : ∃ d : Nat, x.b = d := ⟨x.b.toNat, by omega⟩
            rw [ha] at q0 a1
            rw [hd] at q1 b1'
            have haN : a < s.N := by omega
            have hdN : d < s.N := by omega
            have hkl : (k : Int) < (s.L.length : Int) := by omega
            have HSet : Hid (∀ F' : Nat → Bool, (s.up k = true → F' a = F' d) → setl s F' k) := Lib.hid (fun F' h x' hx' hu => by
              rw [hx] at hx'
              cases hx'
              rw [ha, hd]
              exact h hu)
            have HAdj : Hid (s.up k = true → adj s a d) := Lib.hid (fun hu => ⟨k, x, hx, hu, .inl ⟨ha, hd⟩⟩)
            have hbx := Has.new wr 26 #[.int .i64 (a : Int), .int .i64 (d : Int), .int .i64 x.c]
            have HBX := Lib.hid hbx
            have HIB := Lib.hid (hi.below (alloc_below wr (.cells #[.int .i64 (a : Int), .int .i64 (d : Int), .int .i64 x.c] 26)))
            have HB1 := Lib.hid (hb.alloc hb.size (.cells #[.int .i64 (a : Int), .int .i64 (d : Int), .int .i64 x.c] 26))
            have hhl := hi.lt
            clear hbx hi hb hx hlk ha hd
            go_upto_region 12 with fail
            generalize wr.alloc (.cells #[.int .i64 (a : Int), .int .i64 (d : Int), .int .i64 x.c] 26) = Wb at *
            clear q0 q1 q2 y1
            obtain ⟨y9, hy9⟩ : ∃ y9, wr.heap.size = y9 := ⟨_, rfl⟩
            rw [hy9] at HBX hhl
            try rw [hy9]
            have v0 : Wb.cell? ⟨y9, 0, none⟩ = some (.int .i64 (a : Int)) := HBX.out.cell 0
            have v1 : Wb.cell? ⟨y9, 1, none⟩ = some (.int .i64 (d : Int)) := HBX.out.cell 1
            obtain ⟨ua, hua⟩ : ∃ u, F a = u := ⟨_, rfl⟩
            obtain ⟨ud, hud⟩ : ∃ u, F d = u := ⟨_, rfl⟩
            have ia : Wb.cell? ⟨h, a, none⟩ = some (.bool ua) := by rw [HIB.out.cell, ← hua]; simp [bits, haN]
            have id' : Wb.cell? ⟨h, d, none⟩ = some (.bool ud) := by rw [HIB.out.cell, ← hud]; simp [bits, hdN]
            have haI : (a : Int) < (s.N : Int) := by omega
            have hdI : (d : Int) < (s.N : Int) := by omega
            obtain ⟨u, hu⟩ : ∃ u, s.up k = u := ⟨_, rfl⟩
            have HU := Lib.hid hu
            have HUa := Lib.hid hua
            have HUd := Lib.hid hud
            have hd0 : Below Wb.heap.size Wb Wb.drew := below_drewN (Below.refl _ _) 1
            have HS : Hid (∀ W', Below Wb.heap.size Wb W' → (W'.cell? ⟨y9, 0, none⟩ = some (.int .i64 (a : Int)) ∧ W'.cell? ⟨y9, 1, none⟩ = some (.int .i64 (d : Int)) ∧ W'.cell? ⟨h, a, none⟩ = some (.bool ua) ∧ W'.cell? ⟨h, d, none⟩ = some (.bool ud)) ∧ Below Wb.heap.size Wb W') := Lib.hid (fun W' hW => ⟨⟨(hW.cell (p := ⟨y9, 0, none⟩) (World.block_lt_of_cell? _ _ v0)).trans v0, (hW.cell (p := ⟨y9, 1, none⟩) (World.block_lt_of_cell? _ _ v1)).trans v1, (hW.cell (p := ⟨h, a, none⟩) (World.block_lt_of_cell? _ _ ia)).trans ia, (hW.cell (p := ⟨h, d, none⟩) (World.block_lt_of_cell? _ _ id')).trans id'⟩, hW⟩)
            clear hu hua hud hy9
            cases u
            · clear HS
              have HQu : Hid (∀ t, Calls Try.prog 52 #[.pointer (some ⟨r, 0, none⟩), .int .i64 (k : Int)] (Wb.drewN t) fun e w' => e = .returned (.bool false) ∧ ∃ m, w' = (Wb.drewN t).drewN m) := Lib.hid (fun t => by
                have h := rup_q r s (Wb.drewN t) (HH.out.below (HB1.out.trans ((below_drewN (Below.refl _ _) t).mono HB1.out.size))) k
                rw [upI_nat, HU.out] at h
                exact h)
              go_quiet ((first | (go_at_call 52; exact Calls.quiet_of (HQu.out _))))
              have hb9' : Below Wb.heap.size Wb (Wb.drewN nq) := below_drewN (Below.refl _ _) nq
              have HI9 := Lib.hid (HIB.out.below hb9')
              have HB9 := Lib.hid (HB1.out.trans (hb9'.mono HB1.out.size))
              have HC9 : Hid (b = false → cnt F s.N = q ∧ ∀ j, j < k + 1 → setl s F j) := Lib.hid (fun h => ⟨(HC.out h).1, fun j hj => by
                by_cases e : j = k
                · subst e; exact HSet.out F (fun h9 => by rw [HU.out] at h9; cases h9)
                · exact (HC.out h).2 j (by omega)⟩)
              clear hd0 hb9' ia id' v0 v1
              go_wp2_with fail
              go_roundw
              case rel => exact ⟨k + 1, F, b, by omega, by go_num, rfl, HI9.out, HSn, HC9, HD, HB9.out⟩
              case measure => simp [intOf]; omega
            · cases ua
              · cases ud
                · go_region_held3 (fun w' => (w'.cell? ⟨y9, 0, none⟩ = some (.int .i64 (a : Int)) ∧ w'.cell? ⟨y9, 1, none⟩ = some (.int .i64 (d : Int)) ∧ w'.cell? ⟨h, a, none⟩ = some (.bool false) ∧ w'.cell? ⟨h, d, none⟩ = some (.bool false)) ∧ Below Wb.heap.size Wb w')
                    (first | exact HS.out _ (by assumption) | go_keep)
                    ((go_at_call 52; refine (rup_any r s _ (HH.out.below (HB1.out.trans (hd0.mono HB1.out.size))) k).mono ?_; rintro e w9 ⟨rfl, hb9⟩; have hb9' := hd0.trans (hb9.mono (Nat.le_refl _)); rw [upI_nat, HU.out]))
                  have HI9 := Lib.hid (HIB.out.below hb9')
                  have HB9 := Lib.hid (HB1.out.trans (hb9'.mono HB1.out.size))
                  have HC9 : Hid (b = false → cnt F s.N = q ∧ ∀ j, j < k + 1 → setl s F j) := Lib.hid (fun h => ⟨(HC.out h).1, fun j hj => by
                    by_cases e : j = k
                    · subst e
                      exact HSet.out F (fun _ => by rw [HUa.out, HUd.out])
                    · exact (HC.out h).2 j (by omega)⟩)
                  clear hd0 hb9 hb9' ia id' v0 v1
                  go_wp2_with fail
                  go_roundw
                  case rel => exact ⟨k + 1, F, b, by omega, by go_num, rfl, HI9.out, HSn, HC9, HD, HB9.out⟩
                  case measure => simp [intOf]; omega
                · have HNN : Hid (F a ≠ F d) := Lib.hid (by rw [HUa.out, HUd.out]; simp)
                  have had : a ≠ d := by rintro rfl; exact HNN.out rfl
                  have had' : d ≠ a := Ne.symm had
                  go_region_held3 (fun w' => (w'.cell? ⟨y9, 0, none⟩ = some (.int .i64 (a : Int)) ∧ w'.cell? ⟨y9, 1, none⟩ = some (.int .i64 (d : Int)) ∧ w'.cell? ⟨h, a, none⟩ = some (.bool false) ∧ w'.cell? ⟨h, d, none⟩ = some (.bool true)) ∧ Below Wb.heap.size Wb w')
                    (first | exact HS.out _ (by assumption) | go_keep)
                    ((go_at_call 52; refine (rup_any r s _ (HH.out.below (HB1.out.trans (hd0.mono HB1.out.size))) k).mono ?_; rintro e w9 ⟨rfl, hb9⟩; have hb9' := hd0.trans (hb9.mono (Nat.le_refl _)); rw [upI_nat, HU.out]))
                  have HI9 := Lib.hid (HIB.out.below hb9')
                  have HB9 := Lib.hid (HB1.out.trans (hb9'.mono HB1.out.size))
                  have hlt9 : cnt (put (put F a true) d true) s.N < q := by
                    have h1 := cnt_two haN hdN HNN.out
                    cases b
                    · have := (HC.out rfl).1; omega
                    · have := HD.out rfl; omega
                  have HLt := Lib.hid hlt9
                  have HSn9 : Hid (SndF s n0 (put (put F a true) d true)) := Lib.hid (HSn.out.two (HAdj.out HU.out) HNN.out)
                  obtain ⟨⟨v0, v1, ia, id'⟩, _⟩ := HS.out w9 hb9'
                  have fa := HI9.out.free a
                  have fd := HI9.out.free d
                  clear hd0 hb9 hb9' hlt9
                  go_wp2_with fail
                  go_region
                  all_goals
                    go_wp2_with fail
                    refine ⟨⟨k + 1, put (put F a true) d true, true, by omega, by go_num, rfl, ?_, HSn9, Lib.hid (fun h => by cases h), Lib.hid (fun _ => HLt.out), ?_⟩, by simp [intOf]; omega⟩
                    · have h9 := (HI9.out.set_ a (.bool true)).set_ d (.bool true)
                      rw [bits_set, bits_set] at h9
                      exact h9.below (below_drewN (Below.refl _ _) 1)
                    · exact below_drewN ((HB9.out.setCell (p := ⟨h, a, none⟩) hw1 _).setCell (p := ⟨h, d, none⟩) hw1 _) 1
              · cases ud
                · have HNN : Hid (F a ≠ F d) := Lib.hid (by rw [HUa.out, HUd.out]; simp)
                  have had : a ≠ d := by rintro rfl; exact HNN.out rfl
                  have had' : d ≠ a := Ne.symm had
                  go_region_held3 (fun w' => (w'.cell? ⟨y9, 0, none⟩ = some (.int .i64 (a : Int)) ∧ w'.cell? ⟨y9, 1, none⟩ = some (.int .i64 (d : Int)) ∧ w'.cell? ⟨h, a, none⟩ = some (.bool true) ∧ w'.cell? ⟨h, d, none⟩ = some (.bool false)) ∧ Below Wb.heap.size Wb w')
                    (first | exact HS.out _ (by assumption) | go_keep)
                    ((go_at_call 52; refine (rup_any r s _ (HH.out.below (HB1.out.trans (hd0.mono HB1.out.size))) k).mono ?_; rintro e w9 ⟨rfl, hb9⟩; have hb9' := hd0.trans (hb9.mono (Nat.le_refl _)); rw [upI_nat, HU.out]))
                  have HI9 := Lib.hid (HIB.out.below hb9')
                  have HB9 := Lib.hid (HB1.out.trans (hb9'.mono HB1.out.size))
                  have hlt9 : cnt (put (put F a true) d true) s.N < q := by
                    have h1 := cnt_two haN hdN HNN.out
                    cases b
                    · have := (HC.out rfl).1; omega
                    · have := HD.out rfl; omega
                  have HLt := Lib.hid hlt9
                  have HSn9 : Hid (SndF s n0 (put (put F a true) d true)) := Lib.hid (HSn.out.two (HAdj.out HU.out) HNN.out)
                  obtain ⟨⟨v0, v1, ia, id'⟩, _⟩ := HS.out w9 hb9'
                  have fa := HI9.out.free a
                  have fd := HI9.out.free d
                  clear hd0 hb9 hb9' hlt9
                  go_wp2_with fail
                  go_region
                  all_goals
                    go_wp2_with fail
                    refine ⟨⟨k + 1, put (put F a true) d true, true, by omega, by go_num, rfl, ?_, HSn9, Lib.hid (fun h => by cases h), Lib.hid (fun _ => HLt.out), ?_⟩, by simp [intOf]; omega⟩
                    · have h9 := (HI9.out.set_ a (.bool true)).set_ d (.bool true)
                      rw [bits_set, bits_set] at h9
                      exact h9.below (below_drewN (Below.refl _ _) 1)
                    · exact below_drewN ((HB9.out.setCell (p := ⟨h, a, none⟩) hw1 _).setCell (p := ⟨h, d, none⟩) hw1 _) 1
                · go_region_held3 (fun w' => (w'.cell? ⟨y9, 0, none⟩ = some (.int .i64 (a : Int)) ∧ w'.cell? ⟨y9, 1, none⟩ = some (.int .i64 (d : Int)) ∧ w'.cell? ⟨h, a, none⟩ = some (.bool true) ∧ w'.cell? ⟨h, d, none⟩ = some (.bool true)) ∧ Below Wb.heap.size Wb w')
                    (first | exact HS.out _ (by assumption) | go_keep)
                    ((go_at_call 52; refine (rup_any r s _ (HH.out.below (HB1.out.trans (hd0.mono HB1.out.size))) k).mono ?_; rintro e w9 ⟨rfl, hb9⟩; have hb9' := hd0.trans (hb9.mono (Nat.le_refl _)); rw [upI_nat, HU.out]))
                  have HI9 := Lib.hid (HIB.out.below hb9')
                  have HB9 := Lib.hid (HB1.out.trans (hb9'.mono HB1.out.size))
                  have HC9 : Hid (b = false → cnt F s.N = q ∧ ∀ j, j < k + 1 → setl s F j) := Lib.hid (fun h => ⟨(HC.out h).1, fun j hj => by
                    by_cases e : j = k
                    · subst e
                      exact HSet.out F (fun _ => by rw [HUa.out, HUd.out])
                    · exact (HC.out h).2 j (by omega)⟩)
                  clear hd0 hb9 hb9' ia id' v0 v1
                  go_wp2_with fail
                  go_roundw
                  case rel => exact ⟨k + 1, F, b, by omega, by go_num, rfl, HI9.out, HSn, HC9, HD, HB9.out⟩
                  case measure => simp [intOf]; omega
          · obtain rfl : k = s.L.length := by omega
            have HRo : Hid (ROut w h s n0 (cnt F s.N * 2 + (if b = true then 1 else 0)) (.bool b) wr) := Lib.hid ⟨F, b, rfl, hi, HSn.out, fun hbf => (HC.out hbf).2, rfl, hb⟩
            have hlo := (leastOf_spec (p := fun c => ROut w h s n0 c (.bool b) wr) ⟨_, HRo.out⟩).2 _ HRo.out
            have HLo := Lib.hid hlo
            clear hlo hi hb
            go_wp2_with fail
            go_roundw
            case rel => exact ⟨_, HRo.out⟩
            case measure =>
              refine Nat.lt_of_le_of_lt HLo.out ?_
              rw [HK0.out, HK.out]
              cases b
              · have := (HC.out rfl).1
                simp; omega
              · have := HD.out rfl
                simp; omega

end Go.Proofs.Ytfmjcjkifjndgaa
