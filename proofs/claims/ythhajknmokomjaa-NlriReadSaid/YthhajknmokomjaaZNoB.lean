/- CompareESI. -/
import Derived.Test.YthhajknmokomjaaZOc
import Derived.Test.YthhajknmokomjaaZNoA
import Derived.RangeFuncBox
import Derived.RangeFuncNested
import Derived.RangeFuncBound
import Derived.RangeFuncCalls
import Derived.RangeFuncLeaves
import Derived.Shelf.Abstract
import Derived.WalkKit
import Derived.OwnWalkIn
import Derived.TacticsInMore
import Derived.LoopNIn
import Derived.LoopIn
namespace Go.Proofs.Ythhajknmokomjaa
open Go.RowKit Go.Shelf

attribute [local go_sem] Oper.semAt_some

/-- Two lists, compared position by position. -/
def ce : List Int → List Int → Int
  | x :: xs, y :: ys => if cm x y = 0 then ce xs ys else cm x y
  | _, _ => 0

theorem ce_same : ∀ (xs ys : List Int), xs.length = ys.length → (∀ j, j < xs.length → byteAt xs j = byteAt ys j) → ce xs ys = 0
  | [], [], _, _ => rfl
  | x :: xs, y :: ys, hl, h => by
    have h0 : x = y := h 0 (by simp)
    rw [ce, if_pos (cm_zero.2 h0)]
    exact ce_same xs ys (by simpa using hl) (fun j hj => h (j + 1) (by simpa using hj))
  | [], _ :: _, hl, _ => by simp at hl
  | _ :: _, [], hl, _ => by simp at hl

theorem ce_at : ∀ (xs ys : List Int) (k : Nat), xs.length = ys.length → k < xs.length → (∀ j, j < k → byteAt xs j = byteAt ys j) → cm (byteAt xs k) (byteAt ys k) ≠ 0 → ce xs ys = cm (byteAt xs k) (byteAt ys k)
  | x :: xs, y :: ys, 0, _, _, _, h => by
    rw [ce, if_neg (show cm x y ≠ 0 from h)]; rfl
  | x :: xs, y :: ys, k + 1, hl, hk, hj, h => by
    have h0 : x = y := hj 0 (by omega)
    rw [ce, if_pos (cm_zero.2 h0)]
    exact ce_at xs ys k (by simpa using hl) (by simpa using hk) (fun j h' => hj (j + 1) (by omega)) h
  | [], _, _, _, hk, _, _ => by simp at hk
  | _ :: _, [], _, hl, _, _, _ => by simp at hl

theorem mem_first {k : Nat} (hk : k ≤ 10) (p : Fin 10) : p ∈ first k ↔ p.val < k := by
  unfold first
  rw [List.mem_take_iff_getElem]
  simp
  constructor
  · rintro ⟨i, hi, rfl⟩
    show i < k
    omega
  · intro h; exact ⟨p.val, by omega, rfl⟩

set_option maxRecDepth 100000 in
set_option maxHeartbeats 2000000 in
theorem cesi_b (a b c d e f g h i j a' b' c' d' e' f' g' h' i' j' : Int) (w : World) :
    Calls Try.prog 34 #[esi a b c d e f g h i j, esi a' b' c' d' e' f' g' h' i' j'] w fun en W' =>
      en = .returned (.int .i64 (ce [a, b, c, d, e, f, g, h, i, j] [a', b', c', d', e', f', g', h', i', j'])) ∧ Below w.heap.size w W' := by
  refine (callsIn_wide (n := 3)).1 ?_
  have h1 : 1 ≤ 3 := by omega
  refine callsIn_of_wp_marks Try.func34 rfl trivial ?_ rfl
  simp only [Try.ntmps34, List.size_toArray, List.length_cons, List.length_nil, Nat.reduceAdd, Nat.reduceSub, Array.replicate_succ, Array.replicate_zero, List.push_toArray, List.append_toArray, List.nil_append, List.cons_append]
  gi_wp2_with fail
  refine ⟨trivial, ?_⟩
  refine (octets_in Fence.wide 2 trivial rfl a b c d e f g h i j _).mono ?_
  rintro en w' ⟨rfl, rfl⟩
  gi_wp2_with fail
  obtain ⟨W0, hW0⟩ : ∃ W0, W0 = (((w.alloc (esib a b c d e f g h i j)).alloc (esib a' b' c' d' e' f' g' h' i' j')).alloc (.cells #[.int .i64 0] 3)).alloc (esib a b c d e f g h i j) := ⟨_, rfl⟩
  have hs0 : W0.heap.size = w.heap.size + 4 := by rw [hW0]; simp
  have hB0 : Below w.heap.size w W0 := by rw [hW0]; exact ((((Below.refl _ w).alloc (Nat.le_refl _) _).alloc (by simp) _).alloc (by simp; omega) _).alloc (by simp; omega) _
  have bR : W0.cell? ⟨w.heap.size + 1 + 1, 0, none⟩ = some (.int .i64 0) ∧ W0.frozen? ⟨w.heap.size + 1 + 1, 0, none⟩ = false := by rw [hW0]; simp [go_sem]
  have bB : ∀ k : Fin 10, W0.cell? ⟨w.heap.size + 1, k.val, none⟩ = some (.int .u8 (byteAt [a', b', c', d', e', f', g', h', i', j'] k.val)) := by
    rw [hW0]
    intro k
    have h10 : k.val = 0 ∨ k.val = 1 ∨ k.val = 2 ∨ k.val = 3 ∨ k.val = 4 ∨ k.val = 5 ∨ k.val = 6 ∨ k.val = 7 ∨ k.val = 8 ∨ k.val = 9 := by omega
    rcases h10 with h | h | h | h | h | h | h | h | h | h <;> rw [h] <;> simp [go_sem, byteAt]
  have hstops := octets_stops Fence.wide 2 trivial rfl (by omega) (w.heap.size + 1 + 1 + 1) (Below w.heap.size) a b c d e f g h i j W0 (by omega)
    (by rw [hW0]; simp [go_sem]) (by rw [hW0]; simp [go_sem]) (by rw [hW0]; simp [go_sem]) (by rw [hW0]; simp [go_sem]) (by rw [hW0]; simp [go_sem])
    (by rw [hW0]; simp [go_sem]) (by rw [hW0]; simp [go_sem]) (by rw [hW0]; simp [go_sem]) (by rw [hW0]; simp [go_sem]) (by rw [hW0]; simp [go_sem])
  rw [← hW0]
  clear hW0
  generalize hus : ([a, b, c, d, e, f, g, h, i, j] : List Int) = us at hstops ⊢
  generalize hbs : ([a', b', c', d', e', f', g', h', i', j'] : List Int) = bs at bB ⊢
  have hla : us.length = 10 := by rw [← hus]; rfl
  have hlb : bs.length = 10 := by rw [← hbs]; rfl
  have HU := Lib.hid hus
  have HV := Lib.hid hbs
  clear hus hbs
  refine wpIn_rangeFunc_ownG rfl h1 (gf := 68) (lb := #[.pointer (some ⟨w.heap.size + 1 + 1 + 1, 0, none⟩)]) rfl trivial (enters_of Try.func68 (by kernel_rfl) rfl)
    hstops belowK_t (belowK_b (by omega)) (Below.refl _ _) (fun _ => rfl)
    (fun pre W => ((∀ p ∈ pre, byteAt us p.val = byteAt bs p.val) ∧ (∀ k : Fin 10, W.cell? ⟨w.heap.size + 1, k.val, none⟩ = some (.int .u8 (byteAt bs k.val))) ∧ W.cell? ⟨w.heap.size + 1 + 1, 0, none⟩ = some (.int .i64 0) ∧ W.frozen? ⟨w.heap.size + 1 + 1, 0, none⟩ = false) ∧ Below w.heap.size w W)
    (fun c pre W => (c = .ret ∧ ∃ ini last, pre = ini ++ [last] ∧ (∀ p ∈ ini, byteAt us p.val = byteAt bs p.val) ∧ cm (byteAt us last.val) (byteAt bs last.val) ≠ 0 ∧ W.cell? ⟨w.heap.size + 1 + 1, 0, none⟩ = some (.int .i64 (cm (byteAt us last.val) (byteAt bs last.val)))) ∧ Below w.heap.size w W)
    (OwnFrom.and (Own.from (fun s A B row hs hg hr => ⟨hs.1, fun k => cell_kept (hs.2.1 k) hg hr, cell_kept hs.2.2.1 hg hr, (frozen_kept hs.2.2.1 hg hr).trans hs.2.2.2⟩) _) (ownFrom_below (by omega) (by omega)))
    (fun c => OwnFrom.and (Own.from (fun s A B row hs hg hr => by obtain ⟨hc, ini, last, e1, e2, e3, e4⟩ := hs; exact ⟨hc, ini, last, e1, e2, e3, cell_kept e4 hg hr⟩) _) (ownFrom_below (by omega) (by omega)))
    ⟨⟨by simp, bB, bR.1, bR.2⟩, hB0⟩
    (fun x => { tmps := #[esi a b c d e f g h i j, esi a' b' c' d' e' f' g' h' i' j', .pointer (some ⟨w.heap.size, 0, none⟩), .pointer (some ⟨w.heap.size + 1, 0, none⟩), .pointer (some ⟨w.heap.size + 1 + 1, 0, none⟩), .int .i64 (x.val : Int), .int .u8 (byteAt us x.val), undef, esi a b c d e f g h i j, .func (.func 68) #[] #[.pointer (some ⟨w.heap.size + 1 + 1 + 1, 0, none⟩)], .int .i64 (x.val : Int), .int .u8 (byteAt us x.val), undef, undef, undef, undef, undef, undef, undef, undef], defers := [] }) ?assign ?body ?done ?stop
  case assign =>
    intro l x W K hK
    simp only [oct]
    gi_wp2
    exact hK
  case body =>
    rintro l pre x W ⟨⟨hp, hcb, hcr, hfr⟩, hB⟩ _
    have hx0 : (0 : Int) ≤ (x.val : Int) := by omega
    have hx1 : (x.val : Int) < 10 := by omega
    have hx2 : x.val < 10 := x.isLt
    have hcx := hcb x
    have HCB := Lib.hid hcb
    have HP := Lib.hid hp
    clear hcb hp
    by_cases hz : cm (byteAt us x.val) (byteAt bs x.val) = 0
    · have hzb : (cm (byteAt us x.val) (byteAt bs x.val) != 0) = false := by rw [hz]; rfl
      have HZ := Lib.hid hz
      clear hz
      gi_wp2_with fail
      refine ⟨trivial, ?_⟩
      refine (CallsIn.inRound l (callsIn_wide.2 (cmp_byte _ _ _))).mono ?_
      rintro en w' ⟨rfl, rfl⟩
      gi_wp2_with fail
      exact ⟨KeepsFrom.refl _ _, Below.refl _ _, ⟨fun p hp' => (List.mem_append.1 hp').elim (HP.out p) (fun e => by simp at e; subst e; exact cm_zero.1 HZ.out), HCB.out, hcr, hfr⟩, hB⟩
    · have hzb : (cm (byteAt us x.val) (byteAt bs x.val) != 0) = true := by simpa using hz
      have HZ := Lib.hid hz
      clear hz
      gi_wp2_with fail
      refine ⟨trivial, ?_⟩
      refine (CallsIn.inRound l (callsIn_wide.2 (cmp_byte _ _ _))).mono ?_
      rintro en w' ⟨rfl, rfl⟩
      gi_wp2_with fail
      exact ⟨(KeepsOthers.setCell _ _ _).from _, ⟨rfl, pre, x, rfl, HP.out, HZ.out, World.cell?_setCell_same' _ _ _ (by rw [hcr]; rfl)⟩, hB.setCell (p := ⟨w.heap.size + 1 + 1, 0, none⟩) (by simp; omega) _⟩
  case done =>
    rintro D ys W hD rfl ⟨⟨hne, _, hcr, hfr⟩, hB⟩ hK
    have HN := Lib.hid hne
    clear hne
    gi_wp2
    have hK' := (KeepsOthers.setCell W ⟨w.heap.size + 1 + 1, 0, none⟩ (.int .i64 0)).same D _ hK rfl
    refine ⟨by simp, .inl ⟨_, _, rfl, run_takeDeferred hK', ?_⟩⟩
    have hc5 := cell_kept (World.cell?_setCell_same' W ⟨w.heap.size + 1 + 1, 0, none⟩ (.int .i64 0) (by rw [hcr]; rfl)) (grownBy_putObj' _ D (.deferred none)) (fun r e => by cases e; exact ⟨_, hK', rfl⟩)
    have hce : ce us bs = 0 := ce_same us bs (hla.trans hlb.symm) (fun j hj => HN.out ⟨j, by omega⟩ ((mem_first (by omega) _).2 (by show j < 10; omega)))
    refine ⟨.int .i64 0, ?_, by rw [HU.out, HV.out, hce], (hB.setCell (p := ⟨w.heap.size + 1 + 1, 0, none⟩) (by simp; omega) _).trans (belowK_b (w := w) (Nat.le_refl _) _ D _ _ (by omega) hK' rfl rfl)⟩
    simp [results, Try.f34, go_sem, hc5]
  case stop =>
    rintro D c pre W hD ⟨k, hk, rfl⟩ ⟨⟨rfl, ini, last, e1, e2, e3, hcr⟩, hB⟩ hK
    have E1 := Lib.hid e1
    have E2 := Lib.hid e2
    have E3 := Lib.hid e3
    clear e1 e2 e3
    gi_wp2
    refine ⟨by simp, .inl ⟨_, _, rfl, run_takeDeferred hK, ?_⟩⟩
    have hc5 := cell_kept hcr (grownBy_putObj' _ D (.deferred none)) (fun r e => by cases e; exact ⟨_, hK, rfl⟩)
    have hce : ce us bs = cm (byteAt us last.val) (byteAt bs last.val) := by
      have e1 := E1.out
      cases k with
      | zero => simp [first_zero] at e1
      | succ k' =>
        rw [first_succ k' (by omega)] at e1
        obtain ⟨rfl, e5⟩ := List.append_inj' e1 rfl
        obtain rfl : (⟨k', by omega⟩ : Fin 10) = last := by simpa using e5
        exact ce_at us bs k' (hla.trans hlb.symm) (by omega) (fun j hj => E2.out ⟨j, by omega⟩ ((mem_first (by omega) _).2 hj)) E3.out
    refine ⟨.int .i64 (cm (byteAt us last.val) (byteAt bs last.val)), ?_, by rw [HU.out, HV.out, hce], hB.trans (belowK_b (w := w) (Nat.le_refl _) W D _ _ (by omega) hK rfl rfl)⟩
    simp [results, Try.f34, go_sem, hc5]

end Go.Proofs.Ythhajknmokomjaa
