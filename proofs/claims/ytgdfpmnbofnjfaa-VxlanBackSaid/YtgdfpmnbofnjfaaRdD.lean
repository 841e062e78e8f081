/- Readers: the bytes that are taken; copies; new readers. -/
import Derived.Test.YtgdfpmnbofnjfaaRdC
namespace Go.Proofs.Ytgdfpmnbofnjfaa
open Go.RowKit
set_option maxRecDepth 100000

theorem info_u8 : (Try.prog.info? 5).map (fun i => (i.zero, i.size, i.bytes)) = some (some (.int .u8 0), 1, 1) := by kernel_rfl

theorem own_new (w : World) : (w.alloc (.cells #[] 5)).ownsRow w.heap.size 5 1 (.slice (some ⟨w.heap.size, 0, none⟩) 0 0) 0 [] :=
  ⟨rfl, .inr ⟨w.heap.size, 0, #[], rfl, Nat.le_refl _, Has.new w 5 #[], Nat.le_refl _, by simp, rfl, rfl⟩⟩

theorem own_row {w : World} {base n : Nat} {v : Value} {bs : List Int} (h : w.ownsRow base 5 1 v n (u8s bs)) (hne : ¬ v = .slice none 0 0) (hl : bs.length = n) : ∃ g cap, v = .slice (some ⟨g, 0, none⟩) n cap ∧ base ≤ g ∧ Row w g cap bs := by
  rcases h.2 with ⟨h1, _⟩ | ⟨g, cap, cur, h1, h2, h3, h4, h5, h6, h7⟩
  · exact absurd h1 hne
  · exact ⟨g, cap, h1, h2, cur, h3, by simpa using h6, by rw [hl]; simpa using h7, by omega, h5⟩

theorem u8s_one (bs : List Int) : ∀ u ∈ u8s bs, u.oneCell' = true := by
  intro u hu
  simp only [List.mem_map] at hu
  obtain ⟨v, _, rfl⟩ := hu
  rfl

theorem Sl.at_ {w : World} {h o : Nat} {xs : List Int} (H : Sl w h o xs) : ∀ j u, (u8s xs)[j]? = some u → w.cell? ((⟨h, o, none⟩ : Addr).add j) = some u := by
  intro j u hu
  rw [List.getElem?_map] at hu
  obtain ⟨v, hv, rfl⟩ := Option.map_eq_some_iff.1 hu
  obtain ⟨hj, rfl⟩ := List.getElem?_eq_some_iff.1 hv
  unfold Addr.add
  by_cases h0 : j = 0
  · subst h0
    simpa using H 0 hj
  · rw [if_neg h0]
    exact H j hj

/-- From an address on memory holds these bytes. -/
def Cel (w : World) (ad : Addr) (xs : List Int) : Prop := ∀ j u, (u8s xs)[j]? = some u → w.cell? (ad.add j) = some u

theorem block_add (a : Addr) (n : Nat) : (a.add n).block = a.block := by unfold Addr.add; split <;> rfl

theorem cell_block {w : World} {p : Addr} {v : Value} (h : w.cell? p = some v) : p.block < w.heap.size := by
  rcases Nat.lt_or_ge p.block w.heap.size with h' | h'
  · exact h'
  · simp [World.cell?, Array.getElem?_eq_none h'] at h

theorem Cel.below {w w' : World} {ad : Addr} {xs : List Int} (h : Cel w ad xs) (hb : Below w.heap.size w w') : Cel w' ad xs :=
  fun j u hu => (hb.cell (cell_block (h j u hu))).trans (h j u hu)

theorem rclone_nil (w : World) : Calls Try.prog 69 #[.slice none 0 0] w fun e w' => e = .returned (.slice none 0 0) ∧ w = w' := by
  have hn := fun w => eql_nil w none 0 0
  go_enter Try.func69, Try.ntmps69
  go_wp2
  go_ret
  exact ⟨rfl, rfl⟩

theorem rclone (h o n c : Nat) (xs : List Int) (hl : xs.length = n) (hm : n ≤ 1000000) (w : World) (hc : Sl w h o xs) :
    Calls Try.prog 69 #[.slice (some ⟨h, o, none⟩) n c] w fun e w' => (∃ h' c', e = .returned (.slice (some ⟨h', 0, none⟩) n c') ∧ Row w' h' c' xs ∧ w.heap.size ≤ h') ∧ Below w.heap.size w w' := by
  have hn := fun w => eql_nil w (some ⟨h, o, none⟩) n c
  obtain ⟨i0, hi, hz0, hz1, hz2⟩ := info_parts info_u8
  have hc1 := hc.below ((Below.refl _ w).alloc (Nat.le_refl _) (.cells #[] 5))
  have HL := Lib.hid hl
  clear hc hl
  go_enter Try.func69, Try.ntmps69
  go_wp2_with (at_builtin; refine wpList_append_own _ rfl _ _ 40 rfl w.heap.size 5 i0 (.int .u8 0) 1 1 Try.underlying40 hi hz0 hz1 hz2 rfl (by decide) _ 0 [] rfl (own_new w) ⟨h, o, none⟩ n c (u8s xs) rfl (by simp [HL.out]) hc1.at_ (u8s_one xs) (by unfold maxLen; omega) (by omega) (by simp) ?_)
  intro v' w1 hown hgrow hnil
  have hbel : Below w.heap.size w w1 := below_only ((Below.refl _ w).alloc (Nat.le_refl _) (.cells #[] 5)) hgrow (Nat.le_refl _) (by simp)
  obtain ⟨g', c', rfl, hb, hr⟩ := own_row hown hnil (by rw [HL.out])
  clear hown hgrow hnil
  go_wp2
  go_ret
  exact ⟨⟨g', c', by simp, hr, hb⟩, hbel⟩

/-- A new reader of a copy, at a position. -/
theorem rreader (ad : Addr) (n c at_ : Nat) (xs : List Int) (hl : xs.length = n) (hm : at_ + n ≤ 1000000) (w : World) (hc : Cel w ad xs) (hx : ∀ v ∈ xs, 0 ≤ v ∧ v ≤ 255) :
    Calls Try.prog 68 #[.int .i64 at_, .slice (some ad) n c] w fun e w' => ∃ g' h' c', e = .returned (.pointer (some ⟨g', 0, none⟩)) ∧ w.heap.size ≤ g' ∧ w.heap.size ≤ h' ∧ Rd w' g' h' c' xs at_ at_ 0 0 ∧ Below w.heap.size w w' := by
  obtain ⟨i0, hi, hz0, hz1, hz2⟩ := info_parts info_u8
  have hc1 := hc.below ((Below.refl _ w).alloc (Nat.le_refl _) (.cells #[] 5))
  have HL := Lib.hid hl
  have HX := Lib.hid hx
  clear hc hl hx
  go_enter Try.func68, Try.ntmps68
  go_wp2_with (at_builtin; refine wpList_append_own _ rfl _ _ 40 rfl w.heap.size 5 i0 (.int .u8 0) 1 1 Try.underlying40 hi hz0 hz1 hz2 rfl (by decide) _ 0 [] rfl (own_new w) ad n c (u8s xs) rfl (by simp [HL.out]) hc1 (u8s_one xs) (by unfold maxLen; omega) (by omega) (by simp) ?_)
  intro v' w1 hown hgrow hnil
  have hbel : Below w.heap.size w w1 := below_only ((Below.refl _ w).alloc (Nat.le_refl _) (.cells #[] 5)) hgrow (Nat.le_refl _) (by simp)
  obtain ⟨g', c', rfl, hb, hr⟩ := own_row hown hnil (by rw [HL.out])
  clear hown hgrow hnil
  go_wp2
  go_ret
  have hr2 : Row (w1.alloc (.cells (rdc at_ at_ ((at_ : Int) + n) g' n c' 0 0) 121)) g' c' xs := hr.below ((Below.refl _ w1).alloc (Nat.le_refl _) _)
  refine ⟨w1.heap.size, g', c', rfl, hbel.size, hb, ⟨?_, hr2, Nat.le_refl _, Nat.le_add_right _ _, by rw [HL.out]; exact hm, HX.out⟩, hbel.trans ((Below.refl _ w1).alloc hbel.size _)⟩
  have hnew := Has.new w1 121 (rdc at_ at_ ((at_ : Int) + n) g' n c' 0 0)
  rw [HL.out, show ((at_ + n : Nat) : Int) = (at_ : Int) + n from rfl]
  exact hnew

theorem rreader_nil (at_ : Nat) (hm : at_ ≤ 1000000) (w : World) :
    Calls Try.prog 68 #[.int .i64 at_, .slice none 0 0] w fun e w' => ∃ g' h' c', e = .returned (.pointer (some ⟨g', 0, none⟩)) ∧ w.heap.size ≤ g' ∧ w.heap.size ≤ h' ∧ Rd w' g' h' c' [] at_ at_ 0 0 ∧ Below w.heap.size w w' := by
  go_enter Try.func68, Try.ntmps68
  go_wp2
  go_ret
  have hr0 : Row (w.alloc (.cells #[] 5)) w.heap.size 0 [] := ⟨#[], Has.new w 5 #[], rfl, rfl, Nat.le_refl _, by simp⟩
  have hb0 : Below w.heap.size w (w.alloc (.cells #[] 5)) := (Below.refl _ w).alloc (Nat.le_refl _) _
  have hr2 : Row ((w.alloc (.cells #[] 5)).alloc (.cells (rdc at_ at_ at_ w.heap.size 0 0 0 0) 121)) w.heap.size 0 [] := hr0.below ((Below.refl _ _).alloc (Nat.le_refl _) _)
  refine ⟨w.heap.size + 1, w.heap.size, 0, rfl, by omega, by omega, ⟨?_, hr2, Nat.le_refl _, Nat.le_add_right _ _, by simpa using hm, by simp⟩, hb0.trans ((Below.refl _ _).alloc (by simp) _)⟩
  have hnew := Has.new (w.alloc (.cells #[] 5)) 121 (rdc at_ at_ at_ w.heap.size 0 0 0 0)
  simpa using hnew

theorem rtake_ok (g h0 cap : Nat) (bs : List Int) (st p : Nat) (ea : Int) (w : World) (H : Rd w g h0 cap bs st p 0 ea) (n : Nat) (hn : n ≤ st + bs.length - p) :
    Calls Try.prog 70 #[.pointer (some ⟨g, 0, none⟩), .int .i64 n] w fun e w' => (∃ o, (∃ c, e = .returned (.slice (some ⟨h0, o, none⟩) n c)) ∧ Sl w' h0 o ((bs.drop (p - st)).take n)) ∧ Rd w' g h0 cap bs st (p + n) 0 ea ∧ Only w g w' := by
  have H1 := H.below ((Below.refl _ w).alloc (Nat.le_refl _) (.cells #[.int .i64 0, .int .i64 ea] 37))
  have ho1 := only_alloc (only_refl w g) (.cells #[.int .i64 0, .int .i64 ea] 37)
  have HH : Hid (Rd w g h0 cap bs st p 0 ea) := Lib.hid H
  have HO : Hid (Only w g (w.alloc (.cells #[.int .i64 0, .int .i64 ea] 37))) := Lib.hid ho1
  have hlo := H.lo
  have hhi := H.hi
  have hsm := H.small
  have hcap : bs.length ≤ cap ∧ cap ≤ maxLen := by
    obtain ⟨_, _, _, _, h1, h2⟩ := H.row
    exact ⟨h1, h2⟩
  unfold maxLen at hcap
  have hfld := fault_err 0 ea
  clear H ho1
  go_enter Try.func70, Try.ntmps70
  go_wp2_with (first
    | (go_at_call 83; refine (rfault _ _ _ _ _ _ _ _ _ HH.out).mono ?_; rintro e w' ⟨rfl, rfl⟩)
    | (go_at_call 84; refine (rleft _ _ _ _ _ _ _ _ _ H1).mono ?_; rintro e w' ⟨rfl, nq, rfl⟩)
    | (go_at_call 86; refine (radvance _ _ _ _ _ _ _ _ _ (H1.drewN nq) n (by omega)).mono ?_; rintro e w' ⟨rfl, h2, h3⟩; have c3 := h2.c3; have HR := Lib.hid h2; clear h2))
  · rename_i h
    subst h
    have hn0 : n = 0 := by omega
    subst hn0
    go_ret
    exact ⟨⟨_, ⟨_, rfl⟩, fun j hj => absurd hj (by simp)⟩, HR.out, only_trans (only_drewN HO.out nq) h3⟩
  · go_ret
    exact ⟨⟨p - st, ⟨_, rfl⟩, HR.out.row.part (p - st) n⟩, HR.out, only_trans (only_drewN HO.out nq) h3⟩

end Go.Proofs.Ytgdfpmnbofnjfaa
