/- Graphs: cutting a link; counting nodes by components. No program. -/
import Derived.Test.YtfmjcjkifjndgaaToP
import Derived.Deep.LoopGhost
namespace Go.Proofs.Ytfmjcjkifjndgaa
open Go
set_option linter.unusedVariables false
set_option linter.unusedSimpArgs false

theorem setLi_get (s : GS) (i : Nat) (u : Bool) (k : Nat) : (s.setLi i u).up k = if k = i then (u && (match s.L[k]? with | some x => s.al x.a.toNat && s.al x.b.toNat | none => false)) else s.up k := by
  unfold GS.setLi GS.up
  simp only
  by_cases h : k = i
  · subst h
    rw [if_pos rfl, put_same]
    cases h : s.L[k]? <;> simp [Bool.and_assoc]
  · rw [if_neg h, put_other h]
theorem cut_up (s : GS) (i k : Nat) : (s.setLi i false).up k = (if k = i then false else s.up k) := by
  rw [setLi_get]; split <;> simp
theorem rch_mono {s t : GS} (hL : s.L = t.L) (hal : s.al = t.al) (hup : ∀ k, s.up k = true → t.up k = true) {n m : Nat} (h : Rch s n m) : Rch t n m := by
  induction h with
  | here h => exact .here (by rw [← hal]; exact h)
  | step _ a ih =>
    obtain ⟨i, x, hx, hu, hc⟩ := a
    exact ih.step ⟨i, x, by rw [← hL]; exact hx, hup i hu, hc⟩
theorem rch_iff {s t : GS} (hL : s.L = t.L) (hal : s.al = t.al) (hup : ∀ k, s.up k = t.up k) (n m : Nat) : Rch s n m ↔ Rch t n m :=
  ⟨rch_mono hL hal (fun k h => by rw [← hup]; exact h), rch_mono hL.symm hal.symm (fun k h => by rw [hup]; exact h)⟩
theorem comps_congr {s t : GS} (hN : s.N = t.N) (hal : s.al = t.al) (h : ∀ n m, Rch s n m ↔ Rch t n m) : s.comps = t.comps := by
  have hr : ∀ n m, s.rb n m = t.rb n m := fun n m => by rw [Bool.eq_iff_iff, rb_iff, rb_iff]; exact h n m
  have hc : s.comp = t.comp := by
    funext n
    unfold GS.comp
    rw [hN]
    exact List.filter_congr fun m _ => hr n m
  have hi : s.isRep = t.isRep := by
    funext n
    unfold GS.isRep
    rw [hal]
    congr 1
    congr 1
    funext m
    rw [hr]
  unfold GS.comps cmpsTo
  rw [hN, hc, hi]

theorem filt_one {N z : Nat} {P Q : Nat → Bool} (hz : z < N) (hP : P z = false) (h : ∀ n, n < N → (Q n = true ↔ P n = true ∨ n = z)) : ((List.range N).filter Q).length = ((List.range N).filter P).length + 1 := by
  induction N with
  | zero => omega
  | succ N ih =>
    rw [List.range_succ, List.filter_append, List.filter_append, List.length_append, List.length_append]
    by_cases e : z = N
    · subst e
      have hq : Q z = true := (h z (by omega)).2 (.inr rfl)
      have : (List.range z).filter Q = (List.range z).filter P := by
        refine List.filter_congr fun n hn => ?_
        have hn' := List.mem_range.1 hn
        rw [Bool.eq_iff_iff, h n (by omega)]
        exact ⟨fun h9 => h9.resolve_right (by omega), .inl⟩
      rw [this]
      simp [hq, hP]
    · have h1 := ih (by omega) (fun n hn => h n (by omega))
      have h2 : Q N = P N := by
        rw [Bool.eq_iff_iff, h N (by omega)]
        exact ⟨fun h9 => h9.resolve_right (fun h8 => e h8.symm), .inl⟩
      rw [h1]
      cases hq : P N <;> simp [h2, hq]
      all_goals omega

/-- The smallest node that n reaches. -/
theorem least_of {s : GS} {n : Nat} (h : s.al n = true) : ∃ r, Rch s n r ∧ ∀ m, Rch s n m → r ≤ m := exists_least (p := fun m => Rch s n m) ⟨n, .here h⟩

/-- Taking a link down leaves the components, or parts one of them. -/
theorem cut_comps {s : GS} (ok : s.ok) (i : Nat) : (s.setLi i false).comps.length = s.comps.length ∨ ((s.setLi i false).comps.length = s.comps.length + 1 ∧ s.up i = true) := by
  cases hu : s.up i
  · left
    rw [comps_congr (s := s.setLi i false) (t := s) rfl rfl (rch_iff rfl rfl (fun k => by
      rw [cut_up]
      split
      · rename_i e; subst e; exact hu.symm
      · rfl))]
  · obtain ⟨x, hx, hli, hala, halb⟩ := up_some hu
    obtain ⟨a0, a1, b0, b1, _⟩ := fine_at ok hx
    obtain ⟨a, ha⟩ : ∃ a : Nat, x.a = a := ⟨x.a.toNat, by omega⟩
    obtain ⟨b, hb⟩ : ∃ b : Nat, x.b = b := ⟨x.b.toNat, by omega⟩
    rw [ha] at hala
    rw [hb] at halb
    simp only [Int.toNat_natCast] at hala halb
    have hmono : ∀ {n m}, Rch (s.setLi i false) n m → Rch s n m := fun h => rch_mono (s := s.setLi i false) (t := s) rfl rfl (fun k hk => by
      rw [cut_up] at hk
      split at hk
      · cases hk
      · exact hk) h
    have hab : adj s a b := ⟨i, x, hx, hu, .inl ⟨ha, hb⟩⟩
    -- what is reached in s is reached without the link, or over it
    have hsplit : ∀ {n m}, Rch s n m → Rch (s.setLi i false) n m ∨ (Rch (s.setLi i false) n a ∧ Rch (s.setLi i false) b m) ∨ (Rch (s.setLi i false) n b ∧ Rch (s.setLi i false) a m) := by
      intro n m h
      induction h with
      | here h => exact .inl (.here h)
      | step _ e ih =>
        rename_i m k _
        obtain ⟨j, y, hy, huj, hc⟩ := e
        by_cases hji : j = i
        · subst hji
          rw [hx] at hy
          cases hy
          have hala' : (s.setLi j false).al a = true := hala
          have halb' : (s.setLi j false).al b = true := halb
          rcases hc with ⟨e1, e2⟩ | ⟨e1, e2⟩
          · have em : m = a := by omega
            have ek : k = b := by omega
            subst em ek
            rcases ih with ih | ⟨ih, _⟩ | ⟨ih, _⟩
            · exact .inr (.inl ⟨ih, .here halb'⟩)
            · exact .inr (.inl ⟨ih, .here halb'⟩)
            · exact .inl ih
          · have em : m = b := by omega
            have ek : k = a := by omega
            subst em ek
            rcases ih with ih | ⟨ih, _⟩ | ⟨ih, _⟩
            · exact .inr (.inr ⟨ih, .here hala'⟩)
            · exact .inl ih
            · exact .inr (.inr ⟨ih, .here hala'⟩)
        · have e' : adj (s.setLi i false) m k := ⟨j, y, hy, by rw [cut_up, if_neg hji]; exact huj, hc⟩
          rcases ih with ih | ⟨i1, i2⟩ | ⟨i1, i2⟩
          · exact .inl (ih.step e')
          · exact .inr (.inl ⟨i1, i2.step e'⟩)
          · exact .inr (.inr ⟨i1, i2.step e'⟩)
    by_cases hr : Rch (s.setLi i false) a b
    · left
      rw [comps_congr (s := s.setLi i false) (t := s) rfl rfl (fun n m => ⟨hmono, fun h => by
        rcases hsplit h with h | ⟨h1, h2⟩ | ⟨h1, h2⟩
        · exact h
        · exact (h1.trans hr).trans h2
        · exact (h1.trans hr.symm).trans h2⟩)]
    · right
      refine ⟨?_, rfl⟩
      obtain ⟨ra, hra, hra2⟩ := least_of (s := s.setLi i false) (n := a) hala
      obtain ⟨rb, hrb, hrb2⟩ := least_of (s := s.setLi i false) (n := b) halb
      have hne : ra ≠ rb := by
        rintro rfl
        exact hr (hra.trans hrb.symm)
      -- the greater of the two smallest nodes is new
      have key : ∀ (c d rc rd : Nat), Rch (s.setLi i false) c rc → (∀ m, Rch (s.setLi i false) c m → rc ≤ m) → Rch (s.setLi i false) d rd → (∀ m, Rch (s.setLi i false) d m → rd ≤ m) → adj s c d → ¬ Rch (s.setLi i false) c d →
          (∀ {n m}, Rch s n m → Rch (s.setLi i false) n m ∨ (Rch (s.setLi i false) n c ∧ Rch (s.setLi i false) d m) ∨ (Rch (s.setLi i false) n d ∧ Rch (s.setLi i false) c m)) → rd < rc →
          ((s.setLi i false).comps.length = s.comps.length + 1) := by
        intro c d rc rd hc hc2 hd hd2 hcd hnr hsp hlt
        unfold GS.comps cmpsTo
        rw [List.length_map, List.length_map]
        have hrcN : rc < s.N := ok.alN rc hc.al.2
        refine filt_one (N := s.N) (z := rc) hrcN ?_ (fun n hn => ?_)
        · rw [← Bool.not_eq_true, rep_iff]
          rintro ⟨_, h9⟩
          refine h9 rd hlt ?_
          exact (((hmono hc).symm).step hcd).trans (hmono hd)
        · rw [rep_iff, rep_iff]
          constructor
          · rintro ⟨h1, h2⟩
            by_cases hold : ∀ m, m < n → ¬ Rch s n m
            · exact .inl ⟨h1, hold⟩
            · right
              simp only [Classical.not_forall, Classical.not_not] at hold
              obtain ⟨m, hm, hrm⟩ := hold
              rcases hsp hrm with h | ⟨p, q⟩ | ⟨p, q⟩
              · exact absurd h (h2 m hm)
              · -- n is the smallest of c's
                have e1 : rc ≤ n := hc2 n p.symm
                by_cases e : n = rc
                · exact e
                · exact absurd (p.trans hc) (h2 rc (by omega))
              · exfalso
                have e1 : rd ≤ n := hd2 n p.symm
                have e2 : n = rd := by
                  by_cases e : n = rd
                  · exact e
                  · exact absurd (p.trans hd) (h2 rd (by omega))
                have e3 : rc ≤ m := hc2 m q
                omega
          · rintro (⟨h1, h2⟩ | rfl)
            · exact ⟨h1, fun m hm h => h2 m hm (hmono h)⟩
            · exact ⟨hc.al.2, fun m hm h => by have := hc2 m (hc.trans h); omega⟩
      by_cases hlt : rb < ra
      · exact key a b ra rb hra hra2 hrb hrb2 hab hr (fun {n m} h => hsplit h) hlt
      · exact key b a rb ra hrb hrb2 hra hra2 (adj_symm hab) (fun h => hr h.symm) (fun {n m} h => by
          rcases hsplit h with h | h | h
          · exact .inl h
          · exact .inr (.inr h)
          · exact .inr (.inl h)) (by omega)

/-- How many of the first N are in a set. -/
def cN (F : Nat → Bool) (N : Nat) : Nat := ((List.range N).filter F).length
theorem cN_or {F G H : Nat → Bool} {N : Nat} (h : ∀ m, m < N → (H m = true ↔ F m = true ∨ G m = true)) (hd : ∀ m, m < N → ¬ (F m = true ∧ G m = true)) : cN H N = cN F N + cN G N := by
  induction N with
  | zero => rfl
  | succ N ih =>
    unfold cN
    rw [List.range_succ]
    simp only [List.filter_append, List.length_append]
    have h1 := ih (fun m hm => h m (by omega)) (fun m hm => hd m (by omega))
    unfold cN at h1
    rw [h1]
    have h2 := h N (by omega)
    have h3 := hd N (by omega)
    cases hF : F N <;> cases hG : G N <;> cases hH : H N <;> simp_all
    all_goals omega
noncomputable def beenB (s : GS) (k m : Nat) : Bool := @decide (∃ n, n < k ∧ Rch s n m) (Classical.propDecidable _)
theorem been_iff {s : GS} {k m : Nat} : beenB s k m = true ↔ ∃ n, n < k ∧ Rch s n m := by unfold beenB; exact @decide_eq_true_iff _ (Classical.propDecidable _)
theorem many_to {s : GS} (ok : s.ok) (k : Nat) : ((cmpsTo s k).map List.length).sum = cN (beenB s k) s.N := by
  induction k with
  | zero =>
    unfold cN
    have : (List.range s.N).filter (beenB s 0) = [] := by
      rw [List.filter_eq_nil_iff]
      intro m _ h
      obtain ⟨n, hn, _⟩ := been_iff.1 h
      omega
    rw [this]; rfl
  | succ k ih =>
    rw [cmps_succ]
    by_cases hr : s.isRep k = true
    · rw [if_pos hr, List.map_append, List.sum_append, ih]
      have hr' := rep_iff.1 hr
      have e : cN (beenB s (k + 1)) s.N = cN (beenB s k) s.N + cN (s.rb k) s.N := by
        refine cN_or (fun m _ => ?_) (fun m _ => ?_)
        · rw [been_iff, been_iff, rb_iff]
          constructor
          · rintro ⟨n, hn, h⟩
            by_cases e : n = k
            · subst e; exact .inr h
            · exact .inl ⟨n, by omega, h⟩
          · rintro (⟨n, hn, h⟩ | h)
            · exact ⟨n, by omega, h⟩
            · exact ⟨k, by omega, h⟩
        · rw [been_iff, rb_iff]
          rintro ⟨⟨n, hn, h⟩, h2⟩
          exact hr'.2 n hn (h2.trans h.symm)
      rw [e]
      simp [cN, GS.comp]
    · rw [if_neg hr, List.append_nil, ih]
      unfold cN
      congr 1
      refine List.filter_congr fun m _ => ?_
      rw [Bool.eq_iff_iff, been_iff, been_iff]
      refine ⟨fun ⟨n, hn, h⟩ => ⟨n, by omega, h⟩, fun ⟨n, hn, h⟩ => ?_⟩
      by_cases e : n = k
      · subst e
        have : ∃ n', n' < n ∧ Rch s n n' := by
          have h9 : ¬ (s.al n = true ∧ ∀ m, m < n → ¬ Rch s n m) := fun h9 => hr (rep_iff.2 h9)
          rw [Classical.not_and_iff_not_or_not] at h9
          rcases h9 with h9 | h9
          · exact absurd h.al.1 h9
          · simp only [Classical.not_forall, Classical.not_not] at h9
            obtain ⟨m', hm', h8⟩ := h9
            exact ⟨m', hm', h8⟩
        obtain ⟨n', hn', h2⟩ := this
        exact ⟨n', hn', h2.symm.trans h⟩
      · exact ⟨n, by omega, h⟩
/-- The components hold each node that is up once. -/
theorem many_all {s : GS} (ok : s.ok) : (s.comps.map List.length).sum = cN s.al s.N := by
  unfold GS.comps
  rw [many_to ok]
  unfold cN
  congr 1
  refine List.filter_congr fun m hm => ?_
  rw [Bool.eq_iff_iff, been_iff]
  exact ⟨fun ⟨n, _, h⟩ => h.al.2, fun h => ⟨m, by simpa using hm, .here h⟩⟩
/-- A component is that of each of its nodes. -/
theorem comp_same {s : GS} {n m : Nat} (h : Rch s n m) : s.comp m = s.comp n := by
  unfold GS.comp
  refine List.filter_congr fun k _ => ?_
  rw [Bool.eq_iff_iff, rb_iff, rb_iff]
  exact ⟨fun h2 => h.trans h2, fun h2 => h.symm.trans h2⟩
theorem comps_mem {s : GS} (ok : s.ok) {l : List Nat} (hl : l ∈ s.comps) {m : Nat} (hm : m ∈ l) : s.al m = true ∧ s.comp m = l := by
  unfold GS.comps cmpsTo at hl
  obtain ⟨n, _, rfl⟩ := List.mem_map.1 hl
  have h := (mem_comp ok).1 hm
  exact ⟨h.al.2, comp_same h⟩
/-- A link that can be used: its ends see it. -/
theorem up_edge {s : GS} (ok : s.ok) {i : Nat} {x : LK} (hx : s.L[i]? = some x) : (s.up i = true ↔ (⟨i, x.b, x.c⟩ : ED) ∈ s.neigh x.a) ∧ (s.up i = true ↔ (⟨i, x.a, x.c⟩ : ED) ∈ s.neigh x.b) := by
  have hi : i < s.L.length := (List.getElem?_eq_some_iff.1 hx).1
  have hne := (fine_at ok hx).2.2.2.2.2.2
  refine ⟨⟨fun h => mem_nbr.2 ⟨i, x, hi, hx, h, .inl ⟨rfl, rfl⟩⟩, fun h => ?_⟩, ⟨fun h => mem_nbr.2 ⟨i, x, hi, hx, h, .inr ⟨hne, rfl, rfl⟩⟩, fun h => ?_⟩⟩
  · obtain ⟨j, y, hj, hy, hu, hc⟩ := mem_nbr.1 h
    rcases hc with ⟨_, e⟩ | ⟨_, _, e⟩
    · injection e with e1 _ _
      have : i = j := by omega
      subst this; exact hu
    · injection e with e1 _ _
      have : i = j := by omega
      subst this; exact hu
  · obtain ⟨j, y, hj, hy, hu, hc⟩ := mem_nbr.1 h
    rcases hc with ⟨_, e⟩ | ⟨_, _, e⟩
    · injection e with e1 _ _
      have : i = j := by omega
      subst this; exact hu
    · injection e with e1 _ _
      have : i = j := by omega
      subst this; exact hu
theorem up_seen {s : GS} (ok : s.ok) {i : Nat} {x : LK} (hx : s.L[i]? = some x) (hu : s.up i = true) : x.b.toNat ∈ s.comp x.a.toNat ∧ (i : Int) ∈ s.btw x.a x.b ∧ (i : Int) ∈ s.btw x.b x.a := by
  obtain ⟨a0, a1, b0, b1, _⟩ := fine_at ok hx
  obtain ⟨y, hy, _, h1, h2⟩ := up_some hu
  rw [hx] at hy
  cases hy
  refine ⟨(mem_comp ok).2 ((Rch.here h1).step ⟨i, x, hx, hu, .inl ⟨by omega, by omega⟩⟩), ?_, ?_⟩
  · unfold GS.btw btwOf
    exact List.mem_map.2 ⟨⟨i, x.b, x.c⟩, List.mem_filter.2 ⟨((up_edge ok hx).1).1 hu, by simp⟩, rfl⟩
  · unfold GS.btw btwOf
    exact List.mem_map.2 ⟨⟨i, x.a, x.c⟩, List.mem_filter.2 ⟨((up_edge ok hx).2).1 hu, by simp⟩, rfl⟩

end Go.Proofs.Ytfmjcjkifjndgaa
