/- Graphs: Components. -/
import Derived.Test.YtfmjcjkifjndgaaToI
namespace Go.Proofs.Ytfmjcjkifjndgaa
open Go.RowKit
set_option linter.unusedVariables false
set_option linter.unusedSimpArgs false
set_option maxRecDepth 100000

/-- Block h is an array whose first cells are these numbers. -/
def RowN (w : World) (h cap : Nat) (xs : List Nat) : Prop := ∃ cur : Array Value, Has w h 3 cur ∧ cur.size = cap ∧ cap ≤ maxLen ∧ xs.length ≤ cap ∧ cur.toList.take xs.length = natv xs
abbrev cellR (r : Nat × Nat × List Nat) : Value := .slice (some ⟨r.1, 0, none⟩) r.2.2.length r.2.1
/-- A list of lists that a call owns: each lies in a block of its own. -/
def RwsR (w : World) (base : Nat) (A : Option Addr) (p c : Nat) (R : List (Nat × Nat × List Nat)) : Prop := R.length = p ∧ w.ownsRow base 58 1 (.slice A p c) p (R.map cellR) ∧ (∀ r ∈ R, base ≤ r.1 ∧ RowN w r.1 r.2.1 r.2.2) ∧ (R.map (·.1)).Pairwise (· < ·)
def Rws (w : World) (base : Nat) (A : Option Addr) (p c : Nat) (ls : List (List Nat)) : Prop := ∃ R : List (Nat × Nat × List Nat), R.map (·.2.2) = ls ∧ RwsR w base A p c R
theorem RowN.keep {w w' : World} {h cap : Nat} {xs : List Nat} (H : RowN w h cap xs) (hk : ∀ cur, Has w h 3 cur → Has w' h 3 cur) : RowN w' h cap xs := by
  obtain ⟨cur, hh, r⟩ := H
  exact ⟨cur, hk cur hh, r⟩
theorem RowN.at_ {w : World} {h cap : Nat} {xs : List Nat} (H : RowN w h cap xs) {j x : Nat} (hx : xs[j]? = some x) : w.cell? ⟨h, j, none⟩ = some (.int .i64 (x : Int)) := by
  obtain ⟨cur, hh, _, _, hl, ht⟩ := H
  have hj := (List.getElem?_eq_some_iff.1 hx).1
  rw [hh.cell j, ← Array.getElem?_toList]
  have : (natv xs)[j]? = some (.int .i64 (x : Int)) := by simp [natv, hx]
  rw [← ht, List.getElem?_take_of_lt hj] at this
  exact this
theorem RowN.of_own {w : World} {B n c : Nat} {A : Option Addr} {xs : List Nat} (h : w.ownsRow B 3 1 (.slice A n c) n (natv xs)) (hn : n = xs.length) (h0 : 0 < n) : ∃ g, A = some ⟨g, 0, none⟩ ∧ B ≤ g ∧ RowN w g c xs := by
  rcases h.2 with ⟨_, h1⟩ | ⟨g, cap, cur, hv, hb, hh, h2, h3, h4, h5⟩
  · omega
  · cases hv
    exact ⟨g, rfl, hb, cur, hh, by simpa using h4, h3, by omega, by rw [← hn]; simpa using h5⟩
theorem RwsR.keep {w w' : World} {base p c : Nat} {A : Option Addr} {R : List (Nat × Nat × List Nat)} (H : RwsR w base A p c R) (hk : ∀ g t cur, t = 3 ∨ t = 58 → Has w g t cur → Has w' g t cur) : RwsR w' base A p c R := by
  obtain ⟨h2, h3, h4, h5⟩ := H
  refine ⟨h2, ⟨h3.1, ?_⟩, fun r hr => ⟨(h4 r hr).1, (h4 r hr).2.keep fun cur => hk _ _ cur (.inl rfl)⟩, h5⟩
  rcases h3.2 with h | ⟨g, cap, cur, hv, hb, hh, r⟩
  · exact .inl h
  · exact .inr ⟨g, cap, cur, hv, hb, hk _ _ _ (.inr rfl) hh, r⟩
theorem Rws.keep {w w' : World} {base p c : Nat} {A : Option Addr} {ls : List (List Nat)} (H : Rws w base A p c ls) (hk : ∀ g t cur, t = 3 ∨ t = 58 → Has w g t cur → Has w' g t cur) : Rws w' base A p c ls := by
  obtain ⟨R, h1, h2⟩ := H
  exact ⟨R, h1, h2.keep hk⟩
theorem Rws.lt {w : World} {base p c : Nat} {A : Option Addr} {ls : List (List Nat)} (H : Rws w base A p c ls) : p = ls.length := by
  obtain ⟨R, h1, h2, _⟩ := H
  rw [← h1, ← h2]; simp
theorem Rws.form {w : World} {base p c : Nat} {A : Option Addr} {ls : List (List Nat)} (H : Rws w base A p c ls) : A = none ∨ ∃ g, base ≤ g ∧ A = some ⟨g, 0, none⟩ := by
  obtain ⟨R, h1, h2, h3, _⟩ := H
  obtain ⟨A', c', e, h | ⟨g, hg, _, h⟩⟩ := own_form h3
  · cases e; exact .inl h
  · cases e; exact .inr ⟨g, hg, h⟩

/-- Those that components up to node k hold. -/
def DoneF (s : GS) (k : Nat) (F : Nat → Bool) : Prop := ∀ m, F m = true ↔ ∃ n, n < k ∧ Rch s n m
theorem DoneF.dead {s : GS} {k : Nat} {F : Nat → Bool} (h : DoneF s k F) (hal : s.al k = false) : DoneF s (k + 1) F := fun m => by
  rw [h m]
  refine ⟨fun ⟨n, hn, hr⟩ => ⟨n, by omega, hr⟩, fun ⟨n, hn, hr⟩ => ⟨n, ?_, hr⟩⟩
  by_cases e : n = k
  · subst e; have := hr.al.1; rw [hal] at this; cases this
  · omega
theorem DoneF.old {s : GS} {k : Nat} {F : Nat → Bool} (h : DoneF s k F) (hF : F k = true) : DoneF s (k + 1) F := fun m => by
  rw [h m]
  refine ⟨fun ⟨n, hn, hr⟩ => ⟨n, by omega, hr⟩, fun ⟨n, hn, hr⟩ => ?_⟩
  by_cases e : n = k
  · subst e
    obtain ⟨n', hn', hr'⟩ := (h n).1 hF
    exact ⟨n', hn', hr'.trans hr⟩
  · exact ⟨n, by omega, hr⟩
theorem DoneF.new {s : GS} {k : Nat} {F F' : Nat → Bool} (ok : s.ok) (h : DoneF s k F) (hF : ∀ m, F' m = true ↔ F m = true ∨ m ∈ s.comp k) : DoneF s (k + 1) F' := fun m => by
  rw [hF, h m, mem_comp ok]
  constructor
  · rintro (⟨n, hn, hr⟩ | hr)
    · exact ⟨n, by omega, hr⟩
    · exact ⟨k, by omega, hr⟩
  · rintro ⟨n, hn, hr⟩
    by_cases e : n = k
    · subst e; exact .inr hr
    · exact .inl ⟨n, by omega, hr⟩
theorem rep_dead {s : GS} {k : Nat} (h : s.al k = false) : s.isRep k = false := by unfold GS.isRep; simp [h]
theorem rep_old {s : GS} {k : Nat} {F : Nat → Bool} (h : DoneF s k F) (hF : F k = true) : s.isRep k = false := by
  rw [← Bool.not_eq_true, rep_iff]
  rintro ⟨_, h2⟩
  obtain ⟨n, hn, hr⟩ := (h k).1 hF
  exact h2 n hn hr.symm
theorem rep_new {s : GS} {k : Nat} {F : Nat → Bool} (h : DoneF s k F) (hal : s.al k = true) (hF : F k = false) : s.isRep k = true := by
  rw [rep_iff]
  refine ⟨hal, fun m hm hr => ?_⟩
  have := (h k).2 ⟨m, hm, hr.symm⟩
  rw [hF] at this
  cases this

theorem cmps_len (s : GS) (k : Nat) : (cmpsTo s k).length ≤ k := by
  unfold cmpsTo; rw [List.length_map]; exact Nat.le_trans (List.length_filter_le _ _) (by simp)

/-- A call returns a list of lists of its own. -/
def GivesR (w : World) (ls : List (List Nat)) (e : Ending) (w' : World) : Prop := ∃ A c, e = .returned (.slice A ls.length c) ∧ Rws w' w.heap.size A ls.length c ls ∧ Below w.heap.size w w'

/-- At the head of the loop over the nodes. -/
def CmR (w : World) (s : GS) (k : Nat) (v : Value) (wr : World) : Prop := ∃ p A3 c3 F, v = .slice A3 p c3 ∧ p ≤ k ∧ Rws wr w.heap.size A3 p c3 (cmpsTo s k) ∧ (∃ x0 x1 : Int, Has wr w.heap.size 48 #[.int .u64 x0, .int .u64 x1] ∧ Bs x0 x1 F) ∧ DoneF s k F ∧ Below w.heap.size w wr

set_option maxHeartbeats 2000000 in
theorem comps_any (g b : Nat) (s : GS) (w : World) (H : Gr w g b s) :
    Calls Try.prog 31 #[.pointer (some ⟨g, 0, none⟩)] w (GivesR w s.comps) := by
  have hok := H.ok
  have hN := hok.n32
  have HH := Lib.hid H
  have HOK := Lib.hid hok
  have hF0 : Has (w.alloc (.cells #[.int .u64 0, .int .u64 0] 48)) w.heap.size 48 #[.int .u64 0, .int .u64 0] := Has.new _ _ _
  have hB0 : Below w.heap.size w (w.alloc (.cells #[.int .u64 0, .int .u64 0] 48)) := (Below.refl _ w).alloc (Nat.le_refl _) _
  have HR0 : Hid (CmR w s 0 (.slice none 0 0) (w.alloc (.cells #[.int .u64 0, .int .u64 0] 48))) :=
    Lib.hid ⟨0, none, 0, _, rfl, Nat.le_refl _, ⟨[], rfl, rfl, World.ownsRow_nil _ _ _ _, by simp, by simp⟩, ⟨0, 0, hF0, Bs.none⟩, fun m => by simp, hB0⟩
  have HB0 := Lib.hid hB0
  clear H hok hF0 hB0
  go_enter Try.func31, Try.ntmps31
  go_upto_region 3 with fail
  generalize (w.alloc (.cells #[.int .u64 0, .int .u64 0] 48)) = W1 at *
  go_wp2_with (go_at_call 25; refine (nodes_any _ _ _ _ (HH.out.below HB0.out)).mono ?_; rintro e w' ⟨rfl, rfl⟩)
  go_loopw [3, 11] (fun v i wr => ∃ k : Nat, k ≤ s.N ∧ i = .int .i64 k ∧ CmR w s k v wr) (fun _ i _ => s.N - (intOf i).toNat)
  case atStart => exact ⟨0, Nat.zero_le _, rfl, HR0.out⟩
  case round =>
    obtain ⟨k, hk, rfl, p, A3, c3, F, rfl, hpk, hRw, ⟨x0, x1, hx, hB⟩, hD, hBl⟩ := hrel
    clear HR0
    by_cases hlt : k < s.N
    · have hkN : (k : Int) < (s.N : Int) := by omega
      have HG := Lib.hid (HH.out.below hBl)
      have HS := Lib.hid (cmps_succ s k)
      have HBA : Hid (BsAt wr w.heap.size 0 F) := Lib.hid ⟨x0, x1, hx.cell 0, hx.cell 1, hB⟩
      have HRw := Lib.hid hRw
      have HX := Lib.hid hx
      have HB := Lib.hid hB
      have HD := Lib.hid hD
      have HBl := Lib.hid hBl
      clear hRw hx hB hD hBl
      cases hal : s.al k
      · have HA : Hid (s.alive (k : Int) = false) := Lib.hid (by unfold GS.alive; simp [hal])
        have HR1 : Hid (CmR w s (k + 1) (.slice A3 p c3) wr) := Lib.hid ⟨p, A3, c3, F, rfl, by omega, by rw [HS.out, rep_dead hal]; simpa using HRw.out, ⟨x0, x1, HX.out, HB.out⟩, HD.out.dead hal, HBl.out⟩
        clear hal
        go_wp2_with (go_at_call 23; refine (alive_any _ _ _ _ HG.out _).mono ?_; rintro e w' ⟨rfl, rfl⟩; rw [HA.out])
        go_roundw
        case rel => exact ⟨k + 1, by omega, by go_num, HR1.out⟩
        case measure => simp [intOf]; omega
      · have HA : Hid (s.alive (k : Int) = true) := Lib.hid (by unfold GS.alive; simp [hal])
        cases hF : F k
        · have HRep := Lib.hid (rep_new HD.out hal hF)
          have HC : Hid (s.compI (k : Int) = s.comp k) := Lib.hid (by unfold GS.compI; simp)
          have hn5 : 0 < (s.comp k).length := List.length_pos_of_mem ((mem_comp HOK.out).2 (.here hal))
          have hc32 := comp_len s k
          obtain ⟨n5, hn⟩ : ∃ n5, (s.comp k).length = n5 := ⟨_, rfl⟩
          rw [hn] at hn5 hc32
          have HN5 := Lib.hid hn
          have HF := Lib.hid hF
          clear hal hF hn
          go_wp2_with (first
            | (go_at_call 23; refine (alive_any _ _ _ _ HG.out _).mono ?_; rintro e w' ⟨rfl, rfl⟩; rw [HA.out])
            | (go_at_call 57; refine (has_any _ _ _ k (by omega) _ HBA.out).mono ?_; rintro e w' ⟨rfl, rfl⟩; rw [HF.out])
            | (go_at_call 30; refine (comp_any _ _ _ _ HG.out _).mono ?_; rintro e w5 ⟨A5, c5, rfl, h5, hb5⟩; rw [HC.out, HN5.out] at h5 ⊢; have H5 := Lib.hid h5; have HB5 := Lib.hid hb5; clear h5 hb5))
          obtain ⟨h5, rfl, hge5, hrow5⟩ := RowN.of_own H5.out HN5.out.symm hn5
          have HRow5 := Lib.hid hrow5
          have hDl : w.heap.size < wr.heap.size := HX.out.lt
          have HX5 := Lib.hid (HX.out.below HB5.out)
          have hc5 : n5 ≤ c5 := by obtain ⟨_, _, _, _, h9, _⟩ := hrow5; rw [HN5.out] at h9; exact h9
          clear hrow5
          obtain ⟨wo, rfl⟩ : ∃ wo : World, wo = wr := ⟨_, rfl⟩
          go_wp2_with fail
          go_loopw [27] (fun i wr => ∃ (j : Nat) (F' : Nat → Bool), j ≤ n5 ∧ i = .int .i64 j ∧ (∃ y0 y1 : Int, Has wr w.heap.size 48 #[.int .u64 y0, .int .u64 y1] ∧ Bs y0 y1 F') ∧ (Hid (∀ m, F' m = true ↔ F m = true ∨ m ∈ (s.comp k).take j)) ∧ Only w5 w.heap.size wr) (fun i _ => n5 - (intOf i).toNat)
          case atStart => exact ⟨0, F, Nat.zero_le _, rfl, ⟨x0, x1, HX5.out, HB.out⟩, Lib.hid (by simp), only_refl _ _⟩
          case round =>
            obtain ⟨j, F', hj, rfl, ⟨y0, y1, hy, hBy⟩, HF', hO⟩ := hrel
            by_cases hjl : j < n5
            · obtain ⟨x, hxj⟩ : ∃ x, (s.comp k)[j]? = some x := ⟨(s.comp k)[j]'(by rw [HN5.out]; exact hjl), by simp [HN5.out, hjl]⟩
              have hxc : wr.cell? ⟨h5, j, none⟩ = some (.int .i64 (x : Int)) :=
                (HRow5.out.keep fun cur hc => hc.grown hO (by intro h9; injection h9 with h9; exact (HX5.out.unlike hc (by decide)) h9.symm)).at_ hxj
              have hxN : x < s.N := HOK.out.alN x ((mem_comp HOK.out).1 (List.mem_of_getElem? hxj)).al.2
              have hjn : (j : Int) < (n5 : Int) := by omega
              have HXJ := Lib.hid hxj
              have HY := Lib.hid hy
              have HBY := Lib.hid hBy
              have HO := Lib.hid hO
              clear hxj hy hBy hO
              go_wp2_with (go_at_call 55; refine (put_any w.heap.size 0 48 _ y0 y1 F' x true (by omega) wr HY.out rfl rfl HBY.out).mono ?_; rintro e W6 ⟨⟨v6, rfl⟩, z0, z1, hB6, hH6, hO6⟩; have HB6 := Lib.hid hB6; have HH6 := Lib.hid hH6; have HO6 := Lib.hid hO6; clear hB6 hH6 hO6)
              go_roundw
              case rel =>
                refine ⟨j + 1, put F' x true, by omega, by go_num, ⟨z0, z1, HH6.out, HB6.out⟩, Lib.hid (fun m => ?_), only_trans HO.out HO6.out⟩
                rw [List.take_add_one, HXJ.out, List.mem_append]
                unfold put
                by_cases e : m = x
                · simp [e]
                · rw [if_neg e, HF'.out m]; simp [e]
              case measure => simp [intOf]; omega
            · obtain rfl : j = n5 := by omega
              have hD' : DoneF s (k + 1) F' := HD.out.new HOK.out (fun m => by rw [HF'.out m, List.take_of_length_le (by rw [HN5.out]; exact Nat.le_refl _)])
              obtain ⟨R, hR1, hRR⟩ := HRw.out
              have hRw6 : RwsR wr w.heap.size A3 p c3 R := (hRR.keep fun g t cur _ h => h.below HB5.out).keep fun g t cur ht h => h.grown hO (by
                intro h9; injection h9 with h9
                exact (HX5.out.unlike h (by rcases ht with rfl | rfl <;> decide)) h9.symm)
              have hrow6 : RowN wr h5 c5 (s.comp k) := HRow5.out.keep fun cur hc => hc.grown hO (by intro h9; injection h9 with h9; exact (HX5.out.unlike hc (by decide)) h9.symm)
              have hBl6 : Below w.heap.size w wr := (HBl.out.trans (HB5.out.mono HBl.out.size)).trans (below_only (Below.refl _ _) hO (Nat.le_refl _) (by have := HB5.out.size; omega))
              obtain ⟨hR2, hR3, hR4, hR5⟩ := hRw6
              have hR6 : ∀ r ∈ R, r.1 < h5 := by
                intro r hr
                obtain ⟨_, cur, hh, _⟩ := hRR.2.2.1 r hr
                exact Nat.lt_of_lt_of_le hh.lt hge5
              obtain ⟨i0, hi0, hz0, hz1, hz2⟩ := info_parts info_ints
              have HD' := Lib.hid hD'
              have HR3 := Lib.hid hR3
              have HR4 := Lib.hid hR4
              have HR5 := Lib.hid hR5
              have HR1 := Lib.hid hR1
              have HR2 := Lib.hid hR2
              have HR6 := Lib.hid hR6
              have HRow6 := Lib.hid hrow6
              have HBl6 := Lib.hid hBl6
              have HY := Lib.hid hy
              have HBY := Lib.hid hBy
              clear hD' hR3 hR4 hR5 hR1 hR2 hR6 hrow6 hBl6 hO hy hBy
              go_wp2_with (at_builtin; refine wpList_append_own _ rfl (.tmp 34) (.tmp 36) 61 rfl w.heap.size 58 i0 (.slice none 0 0) 1 24 Try.underlying61 hi0 hz0 hz1 hz2 rfl (by decide) _ _ _ rfl (HR3.out.alloc _) ⟨wr.heap.size, 0, none⟩ 1 1 [.slice (some ⟨h5, 0, none⟩) j c5] rfl rfl (laid_block wr _ _) (by simp [Value.oneCell']) (by unfold maxLen; omega) (by omega) (by have := HBl6.out.size; simp; omega) ?_)
              intro v' w7 hown hgrow hnil
              obtain ⟨A', c', rfl, _⟩ := own_form hown
              have HO7 := Lib.hid hown
              have HG7 := Lib.hid hgrow
              clear hown hgrow hnil
              have hba : Below wr.heap.size wr (wr.alloc (.cells #[.slice (some ⟨h5, 0, none⟩) j c5] 58)) := (Below.refl _ _).alloc (Nat.le_refl _) _
              have hk7 : ∀ (g : Nat) (t : TypeId) (cur : Array Value), t ≠ 58 → Has wr g t cur → Has w7 g t cur := fun g t cur ht h => (h.below hba).grown HG7.out (fun e => own_not (h.below hba) ht (HR3.out.alloc _) e.symm)
              have HR8 : Hid (CmR w s (k + 1) (.slice A' (p + 1) c') w7) := by
                refine Lib.hid ⟨p + 1, A', c', F', rfl, by omega, ?_, ⟨y0, y1, hk7 _ _ _ (by decide) HY.out, HBY.out⟩, HD'.out, grown_below (HBl6.out.alloc HBl6.out.size _) HG7.out (fun r hr => (HR3.out.lt r hr).1) (by have := HBl6.out.size; simp; omega)⟩
                refine ⟨R ++ [(h5, c5, s.comp k)], ?_, by simp [HR2.out], ?_, ?_, ?_⟩
                · rw [HS.out, HRep.out, List.map_append, HR1.out]; simp
                · rw [List.map_append]
                  simp only [List.map_cons, List.map_nil, cellR, HN5.out]
                  exact HO7.out
                · intro r hr
                  rw [List.mem_append, List.mem_singleton] at hr
                  rcases hr with hr | rfl
                  · exact ⟨(HR4.out r hr).1, (HR4.out r hr).2.keep fun cur => hk7 _ _ _ (by decide)⟩
                  · exact ⟨by show w.heap.size ≤ h5; omega, HRow6.out.keep fun cur => hk7 _ _ _ (by decide)⟩
                · rw [List.map_append, List.pairwise_append]
                  refine ⟨HR5.out, by simp, fun a ha b hb => ?_⟩
                  simp at hb
                  subst hb
                  obtain ⟨r, hr, rfl⟩ := List.mem_map.1 ha
                  exact HR6.out r hr
              clear hba hk7
              go_wp2_with fail
              go_roundw
              case rel => exact ⟨k + 1, by omega, by go_num, HR8.out⟩
              case measure => simp [intOf]; omega
        · have HR1 : Hid (CmR w s (k + 1) (.slice A3 p c3) wr) := Lib.hid ⟨p, A3, c3, F, rfl, by omega, by rw [HS.out, rep_old HD.out hF]; simpa using HRw.out, ⟨x0, x1, HX.out, HB.out⟩, HD.out.old hF, HBl.out⟩
          have HF := Lib.hid hF
          clear hal hF
          go_wp2_with (first
            | (go_at_call 23; refine (alive_any _ _ _ _ HG.out _).mono ?_; rintro e w' ⟨rfl, rfl⟩; rw [HA.out])
            | (go_at_call 57; refine (has_any _ _ _ k (by omega) _ HBA.out).mono ?_; rintro e w' ⟨rfl, rfl⟩; rw [HF.out]))
          go_roundw
          case rel => exact ⟨k + 1, by omega, by go_num, HR1.out⟩
          case measure => simp [intOf]; omega
    · obtain rfl : k = s.N := by omega
      have hp := hRw.lt
      have HRw := Lib.hid hRw
      have HP := Lib.hid hp
      have HBl := Lib.hid hBl
      clear hRw hx hB hD hBl hp
      go_wp2_with fail
      go_ret
      refine ⟨A3, c3, ?_, ?_, HBl.out⟩
      · rw [show s.comps.length = p from HP.out.symm]; rfl
      · rw [show s.comps.length = p from HP.out.symm]; exact HRw.out

end Go.Proofs.Ytfmjcjkifjndgaa
