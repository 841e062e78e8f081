/- Packets: the document's put, and appends; written by gen_pki.py. -/
import Derived.Test.YtgdfpmnbofnjfaaZPd
import Derived.Deep.DeepAppendRoom
import Derived.Great.BuildSlice
import Derived.Test.YtgdfpmnbofnjfaaZPl
import Derived.RegionTactic
import Derived.ChangeAlike
import Derived.BigRegion
import Derived.Deep.DeepCutAuto
namespace Go.Proofs.Ytgdfpmnbofnjfaa
open Go.RowKit Go.Shelf
set_option linter.unusedVariables false
set_option linter.unusedSimpArgs false
set_option maxRecDepth 100000

theorem be_take_succ (v : Int) (n k : Nat) (hk : k < n) : (be v n).take (k + 1) = (be v n).take k ++ [v / 256 ^ (n - 1 - k) % 256] := by
  rw [List.take_succ_eq_append_getElem (by rw [be_length]; exact hk)]
  congr 1
  congr 1
  induction n generalizing k with
  | zero => omega
  | succ n ih =>
    cases k with
    | zero => simp [be]
    | succ k =>
      simp only [be, List.getElem_cons_succ]
      rw [ih k (by omega)]
      congr 3
      omega


theorem news_block {w : World} {t : TypeId} {x : Value} : ∀ j u, [x][j]? = some u → (w.alloc (.cells #[x] t)).cell? ((⟨w.heap.size, 0, none⟩ : Addr).add j) = some u := by
  intro j u hu
  obtain ⟨hj, rfl⟩ := List.getElem?_eq_some_iff.1 hu
  simp only [List.length_singleton] at hj
  obtain rfl : j = 0 := by omega
  simp [Addr.add]

theorem own_form {W : World} {base size k : Nat} {e : TypeId} {v : Value} {xs : List Value} (h : W.ownsRow base e size v k xs) : ∃ A c, v = .slice A k c := by
  rcases h.2 with ⟨rfl, rfl⟩ | ⟨g, cap, cur, rfl, _⟩
  · exact ⟨none, 0, rfl⟩
  · exact ⟨_, cap, rfl⟩
theorem wr64 (n : Int) (h : 0 ≤ n) (h2 : n < 18446744073709551616) : IntKind.u64.wrap n = n := by
  have e : IntKind.u64.wrap n = n % 18446744073709551616 := by rfl
  rw [e]; omega
def Lz (w : World) (l : List Nat) (v : Value) (xs : List Int) : Prop := (v = .slice none 0 0 ∧ xs = []) ∨ ∃ b o c, v = .slice (some ⟨b, o, none⟩) xs.length c ∧ b ∉ l ∧ b < w.heap.size ∧ Sl w b o xs
section
variable {w w' : World} {l l' : List Nat} {v : Value} {xs : List Int}
theorem Next.cell (h : Next w l w' l') {b o : Nat} (hb : b ∉ l) (hlt : b < w.heap.size) : w'.cell? ⟨b, o, none⟩ = w.cell? ⟨b, o, none⟩ := by
  have hbk := h.1.block b hlt hb
  simp only [World.cell?, hbk]
theorem Next.far (h : Next w l w' l') {b : Nat} (hb : b ∉ l) (hlt : b < w.heap.size) : b ∉ l' := fun hk => by
  rcases h.2 b hk with h1 | h1
  · exact hb h1
  · omega
theorem Lz.next (h : Lz w l v xs) (hn : Next w l w' l') : Lz w' l' v xs := by
  rcases h with h | ⟨b, o, c, h1, h2, h3, h4⟩
  · exact .inl h
  · exact .inr ⟨b, o, c, h1, hn.far h2 h3, Nat.lt_of_lt_of_le h3 hn.1.size, fun j hj => (hn.cell h2 h3).trans (h4 j hj)⟩
theorem Next.of_below (hb : Below w.heap.size w w') (l : List Nat) : Next w l w' l := ⟨turn_below hb l, fun k hk => .inl hk⟩
end
/-- A slice of bytes of the call's own, and the block it lies in. -/
def O5 (w : World) (l : List Nat) (v : Value) (xs : List Int) : Prop := w.ownsRow 0 5 1 v xs.length (u8s xs) ∧ l = v.ownBlock.toList
theorem O5.nil (w : World) : O5 w [] (.slice none 0 0) [] := ⟨World.ownsRow_nil _ _ _ _, rfl⟩
theorem O5.form {w : World} {l : List Nat} {v : Value} {xs : List Int} (h : O5 w l v xs) : ∃ A c, v = .slice A xs.length c := own_form h.1
theorem O5.lt {w : World} {l : List Nat} {v : Value} {xs : List Int} (h : O5 w l v xs) : ∀ k ∈ l, k < w.heap.size := fun k hk => by
  have h2 := h.1.lt k (by rw [h.2] at hk; simpa using hk)
  exact h2.2
theorem O5.turn {w w' : World} {l l2 : List Nat} {v : Value} {xs : List Int} (h : O5 w l v xs) (ht : Turn l2 w w') (hn : ∀ k ∈ l, k ∉ l2) : O5 w' l v xs := by
  refine ⟨⟨h.1.1, ?_⟩, h.2⟩
  rcases h.1.2 with h1 | ⟨g, cap, cur, h1, h2, h3, h4⟩
  · exact .inl h1
  · have hg : g ∈ l := by rw [h.2, h1]; simp [Value.ownBlock]
    exact .inr ⟨g, cap, cur, h1, h2, (ht.block g (h.lt g hg) (hn g hg)).trans h3, h4⟩
theorem O5.below {w w' : World} {l : List Nat} {v : Value} {xs : List Int} (h : O5 w l v xs) (hb : Below w.heap.size w w') : O5 w' l v xs := h.turn (turn_below hb []) (by simp)

theorem u8s_app (xs ys : List Int) : u8s (xs ++ ys) = u8s xs ++ u8s ys := by simp [u8s]
theorem turn_own5 {w w' : World} {v : Value} (h : w.grownBy w' v.ownBlock) : Turn v.ownBlock.toList w w' := ⟨h.os, h.tape, h.output, h.size, fun k hk hn => h.block k hk (fun e => hn (by rw [← e]; simp))⟩

theorem run_app5 (ty : TypeId) {w : World} {l : List Nat} {v : Value} {xs : List Int} (h : O5 w l v xs) (a : Addr) (c : Nat) (ys : List Int) (hn : ∀ j u, (u8s ys)[j]? = some u → w.cell? (a.add j) = some u) (hb : xs.length + ys.length ≤ 1000000) :
    ∃ v' w' l', (Builtin.append_ #[40, 40] ty #[v, .slice (some a) ys.length c]).run Try.prog w = .ok v' w' ∧ O5 w' l' v' (xs ++ ys) ∧ Next w l w' l' := by
  obtain ⟨i0, hi0, hz0, hz1, hz2⟩ := info_parts info_u8
  obtain ⟨ho, rfl⟩ := h
  have hone : ∀ u ∈ u8s ys, u.oneCell' = true := by simp [u8s, Value.oneCell']
  have hyl : (u8s ys).length = ys.length * 1 := by simp [u8s]
  have hnz : (Value.int .u8 0).cells.size = 1 := rfl
  rcases ho.2 with ⟨rfl, hx⟩ | ⟨g, cap, cur, rfl, hbg, hg, hnc, hcm, hcs, htk⟩
  · have hx0 : xs = [] := List.eq_nil_of_length_eq_zero hx
    subst hx0
    obtain ⟨v', w', hr, h2, h3, h4⟩ := run_append_own (P := Try.prog) w w.heap.size 40 ty 5 i0 (.int .u8 0) 1 1 Try.underlying40 hi0 hz0 hz1 hz2 hnz (by decide) (.slice none 0 0) 0 [] (World.ownsRow_nil _ _ _ _) a ys.length c (u8s ys) hyl hn hone (by unfold maxLen; simp at hb; omega) (by simp at hb; omega) (Nat.le_refl _)
    refine ⟨v', w', v'.ownBlock.toList, hr, ⟨⟨?_, ?_⟩, rfl⟩, turn_own5 h3, fun k hk => .inr (h2.lt k (by simpa using hk)).1⟩
    · simp [u8s]
    · rcases h2.2 with q | ⟨g, cap, cur, q1, q2, q3⟩
      · exact .inl (by simpa using q)
      · exact .inr ⟨g, cap, cur, by simpa using q1, Nat.zero_le _, by simpa using q3⟩
  · by_cases hroom : xs.length + ys.length ≤ cap
    · obtain ⟨w', hr, h2, h3⟩ := run_append_own_spare (P := Try.prog) w 0 40 ty 5 i0 1 Try.underlying40 hi0 hz1 g xs.length cap (u8s xs) ho a ys.length c (u8s ys) hyl hn hone hroom
      refine ⟨_, w', [g], hr, ⟨by rw [List.length_append, u8s_app]; exact h2, rfl⟩, turn_own5 (v := .slice (some ⟨g, 0, none⟩) xs.length cap) h3, fun k hk => .inl hk⟩
    · obtain ⟨v', w', hr, h2, h3, h4⟩ := run_append_own (P := Try.prog) w 0 40 ty 5 i0 (.int .u8 0) 1 1 Try.underlying40 hi0 hz0 hz1 hz2 hnz (by decide) _ xs.length (u8s xs) ho a ys.length c (u8s ys) hyl hn hone (by unfold maxLen; omega) (by omega) (Nat.zero_le _)
      have hgr := run_append_grow (P := Try.prog) w 40 ty 5 i0 (.int .u8 0) Try.underlying40 hi0 hz0 ⟨g, 0, none⟩ xs.length cap (u8s xs) (by rw [hz1]; simp [u8s]) (ho.cells (g := g) rfl) a ys.length c (u8s ys) (by rw [hz1]; exact hyl) hn (by omega) (by omega) (growslice_fits (by omega) (by rw [hz2]; omega))
      rw [hr] at hgr
      injection hgr with e1 e2
      refine ⟨v', w', v'.ownBlock.toList, hr, ⟨by rw [List.length_append, u8s_app]; exact h2, rfl⟩, turn_own5 h3, fun k hk => .inr ?_⟩
      rw [e1] at hk
      simp [Value.ownBlock] at hk
      omega
theorem wpList_app5 {ops : Array Oper} {rest : List Oper} {o : Oper} {ac : Act} {Q : Exit → Act → World → Prop} (hgd : o.guard = none) (s x : Operand) (ho : o.op = .call { callee := .builtin .append, args := #[s, x], argTypes := #[40, 40] })
    {w : World} {l : List Nat} {v : Value} {xs : List Int} (h : O5 w l v xs) (hs : ac.eval s = v) (a : Addr) (c : Nat) (ys : List Int) (hx : ac.eval x = .slice (some a) ys.length c) (hn : ∀ j u, (u8s ys)[j]? = some u → w.cell? (a.add j) = some u) (hb : xs.length + ys.length ≤ 1000000) (d : Option Tmp) (hd : o.dst = d)
    (hK : ∀ A' c' w' l', O5 w' l' (.slice A' (xs ++ ys).length c') (xs ++ ys) → Next w l w' l' → wpList Try.prog ops Q rest (ac.put d (.slice A' (xs ++ ys).length c')) w') : wpList Try.prog ops Q (o :: rest) ac w := by
  subst hd
  obtain ⟨v', w', l', hr, h1, h2⟩ := run_app5 o.type h a c ys hn hb
  obtain ⟨A', c', rfl⟩ := h1.form
  refine wpList_plain hgd fun K hK' => ?_
  unfold Oper.wp execOp
  simp only [ho, resolve, invoke, builtin, Sem.run_bind, Sem.run_pure, Result.andThen_ok, List.map_toArray, List.map_cons, List.map_nil, hs, hx, hr]
  exact hK' _ _ (hK A' c' w' l' h1 h2)

/-- More bytes behind. -/
def More5 (w : World) (l : List Nat) (ys : List Int) (e : Ending) (w' : World) : Prop := ∃ A c l', e = .returned (.slice A ys.length c) ∧ O5 w' l' (.slice A ys.length c) ys ∧ Next w l w' l'

set_option maxHeartbeats 1000000 in
theorem rput7 (l : List Nat) (v : Value) (xs : List Int) (n : Int) (k : Nat) (h0 : 0 ≤ n) (h1 : n < 18446744073709551616) (hk : k ≤ 8) (hk1 : 1 ≤ k) (hx : xs.length ≤ 200000) (w : World) (h : O5 w l v xs) :
    Calls Try.prog 35 #[v, .int .u64 n, .int .i64 k] w (More5 w l (xs ++ be n k)) := by
  obtain ⟨A, c, rfl⟩ := h.form
  have HO := Lib.hid h
  clear h
  go_enter Try.func35, Try.ntmps35
  go_wp2_with fail
  go_loopw [0, 7] (fun v i wr => ∃ (j : Nat) (A2 : Option Addr) (c2 : Nat) (l2 : List Nat), j ≤ k ∧ v = .slice A2 (xs ++ (be n k).take j).length c2 ∧ i = .int .i64 ((k : Int) - 1 - (j : Int)) ∧ O5 wr l2 v (xs ++ (be n k).take j) ∧ Next w l wr l2) (fun _ i _ => (intOf i + 1).toNat)
  case atStart => exact ⟨0, A, c, l, Nat.zero_le _, by simp, by go_num, by simpa using HO.out, Next.refl _ _⟩
  case round =>
    obtain ⟨j, A2, c2, l2, hj, rfl, rfl, hou, hnx⟩ := hrel
    obtain ⟨ys, hys⟩ : ∃ ys, xs ++ (be n k).take j = ys := ⟨_, rfl⟩
    have hyl : ys.length = xs.length + j := by rw [← hys]; simp [be_length]; omega
    rw [hys] at hou ⊢
    have HYs := Lib.hid hys
    have HOu := Lib.hid hou
    have HNx := Lib.hid hnx
    clear hys hou hnx
    by_cases hlt : j < k
    · have hstep := be_take_succ n k j hlt
      have e1 : ((k : Int) - 1 - (j : Int)).toNat = k - 1 - j := by omega
      have e2 : (0 : Int) ≤ (k : Int) - 1 - (j : Int) := by omega
      have e3 : IntKind.i64.wrap (8 * ((k : Int) - 1 - (j : Int))) = 8 * ((k : Int) - 1 - (j : Int)) := IntWalk.i64_in _ (by omega)
      have e4 : (0 : Int) ≤ 8 * ((k : Int) - 1 - (j : Int)) := by omega
      have e5 : (8 * ((k : Int) - 1 - (j : Int))).toNat = 8 * (k - 1 - j) := by omega
      obtain ⟨b, hb⟩ : ∃ b, IntKind.u8.wrap (n / 2 ^ (8 * (k - 1 - j))) = b := ⟨_, rfl⟩
      have hb2 : n / 256 ^ (k - 1 - j) % 256 = b := by rw [← hb, pow_eight]; rfl
      rw [hb2] at hstep
      have HSt := Lib.hid hstep
      have HYl := Lib.hid hyl
      clear hb2 hstep hyl
      have hbl : Below wr.heap.size wr (wr.alloc (.cells #[.int .u8 b] 5)) := (Below.refl _ wr).alloc (Nat.le_refl _) _
      have HOk : Hid (O5 (wr.alloc (.cells #[.int .u8 b] 5)) l2 (.slice A2 ys.length c2) ys) := Lib.hid (HOu.out.below hbl)
      have HNk : Hid (Next w l (wr.alloc (.cells #[.int .u8 b] 5)) l2) := Lib.hid (HNx.out.trans (Next.of_below hbl _))
      clear hbl
      go_wp2_with (at_builtin; refine wpList_app5 rfl (.tmp 14) (.tmp 20) rfl HOk.out rfl ⟨wr.heap.size, 0, none⟩ 1 [b] rfl (by simpa [u8s] using news_block) (by rw [HYl.out]; simp; omega) (some 21) rfl ?_; intro A3 c3 w2 l3 ho3 hn3; have HO3 := Lib.hid ho3; have HN3 : Hid (Next w l w2 l3) := Lib.hid (HNk.out.trans hn3); clear ho3 hn3)
      go_roundw
      case rel =>
        have e9 : xs ++ (be n k).take (j + 1) = ys ++ [b] := by rw [HSt.out, ← HYs.out, List.append_assoc]
        refine ⟨j + 1, A3, c3, l3, by omega, by rw [e9, List.length_append]; rfl, by go_num, ?_, HN3.out⟩
        rw [e9]
        have h := HO3.out
        rw [List.length_append] at h
        exact h
      case measure => simp [intOf]; omega
    · have hjk : j = k := by omega
      subst hjk
      have ez : ((j : Int) - 1 - (j : Int)) = -1 := by omega
      have HF : Hid (xs ++ be n j = ys) := Lib.hid (by rw [← HYs.out, List.take_of_length_le (by simp [be_length])])
      clear hyl
      go_wp2_with fail
      go_ret
      refine ⟨A2, c2, l2, ?_, ?_, HNx.out⟩
      · rw [HF.out]; rfl
      · rw [HF.out]; exact HOu.out
theorem Lz.form {w : World} {l : List Nat} {v : Value} {xs : List Int} (h : Lz w l v xs) : ∃ A c, v = .slice A xs.length c := by
  rcases h with ⟨h, h0⟩ | ⟨b, o, c, h, _⟩
  · exact ⟨none, 0, by rw [h, h0]; rfl⟩
  · exact ⟨_, c, h⟩
theorem app_none (ty : TypeId) {w : World} {l : List Nat} {v : Value} {xs : List Int} (h : O5 w l v xs) : ∃ v' w', (Builtin.append_ #[40, 40] ty #[v, .slice none 0 0]).run Try.prog w = .ok v' w' ∧ O5 w' l v' xs ∧ Below w.heap.size w w' := by
  obtain ⟨i0, hi0, hz0, hz1, hz2⟩ := info_parts info_u8
  rcases h.1.2 with ⟨rfl, hx⟩ | ⟨g, cap, cur, rfl, hbg, hg, hnc, hcm, hcs, htk⟩
  · refine ⟨_, w, ?_, h, Below.refl _ _⟩
    simp [Builtin.append_, run_underlying Try.underlying40, sizeOf, typeInfo, hi0, Builtin.lenOf, Builtin.firstCells, loadCells, loadCellsFrom]
  · refine ⟨_, w, ?_, h, Below.refl _ _⟩
    simp [Builtin.append_, run_underlying Try.underlying40, sizeOf, typeInfo, hi0, Builtin.lenOf, Builtin.firstCells, loadCells, loadCellsFrom, storeCells, hnc]
theorem run_app5z (ty : TypeId) {w : World} {l : List Nat} {v x : Value} {xs V : List Int} (h : O5 w l v xs) (hv : Lz w l x V) (hb : xs.length + V.length ≤ 1000000) :
    ∃ v' w' l', (Builtin.append_ #[40, 40] ty #[v, x]).run Try.prog w = .ok v' w' ∧ O5 w' l' v' (xs ++ V) ∧ Next w l w' l' := by
  rcases hv with ⟨rfl, rfl⟩ | ⟨b, o, c, rfl, h1, h2, h3⟩
  · obtain ⟨v', w', q1, q2, q3⟩ := app_none ty h
    exact ⟨v', w', l, q1, by rw [List.append_nil]; exact q2, Next.of_below q3 l⟩
  · refine run_app5 ty h ⟨b, o, none⟩ c V (fun j u hu => ?_) hb
    obtain ⟨hj, rfl⟩ := List.getElem?_eq_some_iff.1 hu
    have hj' : j < V.length := by simpa [u8s] using hj
    have h4 := h3 j hj'
    rw [Addr.add_lit]
    simpa [u8s] using h4
theorem wpList_app5z {ops : Array Oper} {rest : List Oper} {o : Oper} {ac : Act} {Q : Exit → Act → World → Prop} (hgd : o.guard = none) (s x : Operand) (ho : o.op = .call { callee := .builtin .append, args := #[s, x], argTypes := #[40, 40] })
    {w : World} {l : List Nat} {v y : Value} {xs V : List Int} (h : O5 w l v xs) (hs : ac.eval s = v) (hv : Lz w l y V) (hx : ac.eval x = y) (hb : xs.length + V.length ≤ 1000000) (d : Option Tmp) (hd : o.dst = d)
    (hK : ∀ A' c' w' l', O5 w' l' (.slice A' (xs ++ V).length c') (xs ++ V) → Next w l w' l' → wpList Try.prog ops Q rest (ac.put d (.slice A' (xs ++ V).length c')) w') : wpList Try.prog ops Q (o :: rest) ac w := by
  subst hd
  obtain ⟨v', w', l', hr, h1, h2⟩ := run_app5z o.type h hv hb
  obtain ⟨A', c', rfl⟩ := h1.form
  refine wpList_plain hgd fun K hK' => ?_
  unfold Oper.wp execOp
  simp only [ho, resolve, invoke, builtin, Sem.run_bind, Sem.run_pure, Result.andThen_ok, List.map_toArray, List.map_cons, List.map_nil, hs, hx, hr]
  exact hK' _ _ (hK A' c' w' l' h1 h2)
theorem news5 {w : World} {t : TypeId} {C : Array Value} : ∀ j u, C.toList[j]? = some u → (w.alloc (.cells C t)).cell? ((⟨w.heap.size, 0, none⟩ : Addr).add j) = some u := fun j u h => by
  rw [Addr.add_lit, Nat.zero_add, (Has.new w t C).cell, ← Array.getElem?_toList]
  exact h
theorem rput7_2 (l : List Nat) (v : Value) (xs : List Int) (n : Int) (h : 0 ≤ n ∧ n < 18446744073709551616) (hx : xs.length ≤ 200000) (w : World) (ho : O5 w l v xs) : Calls Try.prog 35 #[v, .int .u64 n, .int .i64 2] w (More5 w l (xs ++ be n 2)) := rput7 l v xs n 2 h.1 h.2 (by omega) (by omega) hx w ho
theorem rput7_4 (l : List Nat) (v : Value) (xs : List Int) (n : Int) (h : 0 ≤ n ∧ n < 18446744073709551616) (hx : xs.length ≤ 200000) (w : World) (ho : O5 w l v xs) : Calls Try.prog 35 #[v, .int .u64 n, .int .i64 4] w (More5 w l (xs ++ be n 4)) := rput7 l v xs n 4 h.1 h.2 (by omega) (by omega) hx w ho
theorem rput7_6 (l : List Nat) (v : Value) (xs : List Int) (n : Int) (h : 0 ≤ n ∧ n < 18446744073709551616) (hx : xs.length ≤ 200000) (w : World) (ho : O5 w l v xs) : Calls Try.prog 35 #[v, .int .u64 n, .int .i64 6] w (More5 w l (xs ++ be n 6)) := rput7 l v xs n 6 h.1 h.2 (by omega) (by omega) hx w ho
theorem rput7_8 (l : List Nat) (v : Value) (xs : List Int) (n : Int) (h : 0 ≤ n ∧ n < 18446744073709551616) (hx : xs.length ≤ 200000) (w : World) (ho : O5 w l v xs) : Calls Try.prog 35 #[v, .int .u64 n, .int .i64 8] w (More5 w l (xs ++ be n 8)) := rput7 l v xs n 8 h.1 h.2 (by omega) (by omega) hx w ho
end Go.Proofs.Ytgdfpmnbofnjfaa

namespace Go.Proofs.Ytgdfpmnbofnjfaa
open Go.RowKit Go.Shelf
set_option linter.unusedVariables false
set_option linter.unusedSimpArgs false
set_option maxRecDepth 100000

theorem rported_any (n : Int) (w : World) : Calls Try.prog 61 #[.int .i64 n] w fun e w' => e = .returned (.bool (pd n)) ∧ w = w' := by
  go_enter Try.func61, Try.ntmps61
  by_cases h6 : n = 6
  · subst h6
    go_wp2
    go_ret
    exact ⟨rfl, rfl⟩
  by_cases h7 : n = 17
  · subst h7
    go_wp2
    go_ret
    exact ⟨rfl, rfl⟩
  have e6 : (n == 6) = false := by simpa using h6
  have e7 : (n == 17) = false := by simpa using h7
  go_wp2
  go_ret
  exact ⟨by simp [pd, e6, e7], rfl⟩

theorem and_one (s : Int) (h0 : 0 ≤ s) (h1 : s < 18446744073709551616) : bits BinOp.and .u64 s 1 = s % 2 := by
  obtain ⟨m, rfl⟩ := Int.eq_ofNat_of_zero_le h0
  have e1 : BitVec.ofInt 64 (m : Int) = BitVec.ofNat 64 m := by apply BitVec.eq_of_toNat_eq; simp
  have e2 : BitVec.ofInt 64 1 = BitVec.ofNat 64 1 := by rfl
  have e3 : (BitVec.ofNat 64 m &&& BitVec.ofNat 64 1).toNat = m % 2 := by
    rw [BitVec.toNat_and, BitVec.toNat_ofNat, BitVec.toNat_ofNat, Nat.mod_eq_of_lt (by omega), Nat.mod_eq_of_lt (by omega)]
    exact Nat.and_two_pow_sub_one_eq_mod m 1
  show IntKind.u64.wrap ((BitVec.ofInt 64 (m : Int) &&& BitVec.ofInt 64 1).toNat : Int) = _
  rw [e1, e2, e3]
  have e4 : IntKind.u64.wrap ((m % 2 : Nat) : Int) = ((m % 2 : Nat) : Int) % 18446744073709551616 := by rfl
  rw [e4]
  omega
theorem and_low64 (s : Int) (h0 : 0 ≤ s) (h1 : s < 18446744073709551616) : bits BinOp.and .u64 s 65535 = s % 65536 := by
  obtain ⟨m, rfl⟩ := Int.eq_ofNat_of_zero_le h0
  have e1 : BitVec.ofInt 64 (m : Int) = BitVec.ofNat 64 m := by apply BitVec.eq_of_toNat_eq; simp
  have e2 : BitVec.ofInt 64 65535 = BitVec.ofNat 64 65535 := by rfl
  have e3 : (BitVec.ofNat 64 m &&& BitVec.ofNat 64 65535).toNat = m % 65536 := by
    rw [BitVec.toNat_and, BitVec.toNat_ofNat, BitVec.toNat_ofNat, Nat.mod_eq_of_lt (by omega), Nat.mod_eq_of_lt (by omega)]
    exact Nat.and_two_pow_sub_one_eq_mod m 16
  show IntKind.u64.wrap ((BitVec.ofInt 64 (m : Int) &&& BitVec.ofInt 64 65535).toNat : Int) = _
  rw [e1, e2, e3]
  have e4 : IntKind.u64.wrap ((m % 65536 : Nat) : Int) = ((m % 65536 : Nat) : Int) % 18446744073709551616 := by rfl
  rw [e4]
  omega
theorem rmulti_any (s : Int) (h0 : 0 ≤ s) (h1 : s ≤ 281474976710655) (w : World) : Calls Try.prog 63 #[.int .u64 s] w fun e w' => e = .returned (.bool (mc s)) ∧ w = w' := by
  have hb := and_one (s / 1099511627776) (by omega) (by omega)
  go_enter Try.func63, Try.ntmps63
  go_wp2
  go_ret
  exact ⟨by simp [mc], rfl⟩

theorem wsum_snoc : ∀ (l : List Int) (v : Int), wsum (l ++ [v]) = wsum l + v * wt l.length
  | [], v => by simp [wsum, wt]
  | [a], v => by simp only [List.cons_append, List.nil_append, wsum, wt, List.length_singleton]; simp
  | a :: b :: r, v => by
    have ih := wsum_snoc r v
    simp only [List.cons_append, wsum, List.length_cons]
    rw [ih, show wt (r.length + 1 + 1) = wt r.length by unfold wt; rw [show r.length + 1 + 1 = r.length + 2 from rfl, Nat.add_mod_right]]
    omega
theorem wsum_le : ∀ (l : List Int), (∀ v ∈ l, 0 ≤ v ∧ v ≤ 255) → 0 ≤ wsum l ∧ wsum l ≤ 65280 * l.length
  | [], _ => by simp [wsum]
  | [a], h => by
    have := h a (by simp)
    simp only [wsum, List.length_singleton]
    omega
  | a :: b :: r, h => by
    have h1 := h a (by simp)
    have h2 := h b (by simp)
    have ih := wsum_le r (fun u hu => h u (by simp [hu]))
    simp only [wsum, List.length_cons]
    omega
theorem ocs_fold {s : Int} (h : 65535 < s) : ocs (s % 65536 + s / 65536) = ocs s := by
  unfold ocs
  rw [if_neg (by omega), if_neg (by omega)]
  omega
theorem ocs_small {s : Int} (h0 : 0 ≤ s) (h : s ≤ 65535) : ocs s = s := by
  unfold ocs
  split
  · omega
  · omega

set_option maxHeartbeats 1000000 in
theorem rsum_b (bs : List Int) (b o c : Nat) (A : Option Addr) (hA : 0 < bs.length → A = some ⟨b, o, none⟩) (hm : bs.length ≤ 100000) (hby : ∀ v ∈ bs, 0 ≤ v ∧ v ≤ 255) (w : World) (hsl : 0 < bs.length → Sl w b o bs) :
    Calls Try.prog 62 #[.slice A bs.length c] w fun e w' => e = .returned (.int .u16 (sumP bs)) ∧ w = w' := by
  have HFin := Lib.hid (sumP_ocs hby)
  have HS := Lib.hid hsl
  have HX := Lib.hid hby
  have HT := Lib.hid (wsum_le bs hby)
  clear hsl hby
  go_enter Try.func62, Try.ntmps62
  go_wp2
  go_loop [3, 4] (fun s i => ∃ k : Nat, k ≤ bs.length ∧ i = .int .i64 k ∧ s = .int .u64 (wsum (bs.take k))) (fun _ i => bs.length - (intOf i).toNat)
  case atStart => exact ⟨0, Nat.zero_le _, rfl, rfl⟩
  case round =>
    obtain ⟨k, hk, rfl, rfl⟩ := hrel
    by_cases hlt : k < bs.length
    · have hcell := HS.out (by omega) k hlt
      have hA0 := hA (by omega)
      obtain ⟨hx0, hx1⟩ := HX.out bs[k] (List.getElem_mem _)
      obtain ⟨x, hxe⟩ : ∃ x, bs[k] = x := ⟨_, rfl⟩
      rw [hxe] at hcell hx0 hx1
      have hle := wsum_le (bs.take k) (fun v hv => HX.out v (List.mem_of_mem_take hv))
      have hln : (bs.take k).length = k := by simp; omega
      have HSt : Hid (wsum (bs.take (k + 1)) = wsum (bs.take k) + x * wt k) := Lib.hid (by rw [List.take_succ_eq_append_getElem hlt, wsum_snoc, hln, hxe])
      rw [hln] at hle
      obtain ⟨s, hs⟩ : ∃ s, wsum (bs.take k) = s := ⟨_, rfl⟩
      rw [hs] at hle ⊢
      rw [hs] at HSt
      obtain ⟨hs0, hs1⟩ := hle
      subst hA0
      have hkl : (k : Int) < (bs.length : Int) := by omega
      clear hxe hln hs hA
      by_cases hp : k % 2 = 0
      · have HW : Hid (wt k = 256) := Lib.hid (by unfold wt; rw [if_pos hp])
        have hp2 : (k : Int).tmod 2 = 0 := by rw [Int.tmod_eq_emod_of_nonneg (by omega)]; omega
        have hp3 : (k : Int) % 2 = 0 := by omega
        have hu : s + x * 256 < 18446744073709551616 := by omega
        go_wp2
        go_round
        case rel => exact ⟨k + 1, by omega, by go_num, by rw [HSt.out, HW.out]⟩
        case measure => simp [intOf]; omega
      · have HW : Hid (wt k = 1) := Lib.hid (by unfold wt; rw [if_neg hp])
        have hp2 : (k : Int).tmod 2 = 1 := by rw [Int.tmod_eq_emod_of_nonneg (by omega)]; omega
        have hp3 : (k : Int) % 2 = 1 := by omega
        go_wp2
        go_round
        case rel => exact ⟨k + 1, by omega, by go_num, by rw [HSt.out, HW.out, Int.mul_one]⟩
        case measure => simp [intOf]; omega
    · have hke : k = bs.length := by omega
      subst hke
      rw [List.take_length]
      obtain ⟨t, ht⟩ : ∃ t, wsum bs = t := ⟨_, rfl⟩
      rw [ht] at HT HFin ⊢
      obtain ⟨ht0, ht1⟩ := HT.out
      clear hk hlt ht
      go_wp2
      go_loop [3] (fun s => ∃ n : Nat, s = .int .u64 n ∧ (n : Int) ≤ t ∧ ocs n = ocs t) (fun s => (intOf s).toNat)
      case atStart =>
        obtain ⟨n, rfl⟩ := Int.eq_ofNat_of_zero_le ht0
        exact ⟨n, rfl, Int.le_refl _, rfl⟩
      case round =>
        obtain ⟨n, rfl, hnt, hoc⟩ := hrel
        by_cases hgt : (65535 : Int) < (n : Int)
        · have hand := and_low64 n (by omega) (by omega)
          have HO : Hid (ocs ((n : Int) % 65536 + (n : Int) / 65536) = ocs t) := Lib.hid ((ocs_fold hgt).trans hoc)
          clear hoc
          go_wp2
          go_round
          case rel => exact ⟨n % 65536 + n / 65536, by go_num, by omega, by have := HO.out; simpa using this⟩
          case measure => simp [intOf]; omega
        · have hx := xor16 n (by omega) (by omega)
          have HO : Hid (sumP bs = 65535 - (n : Int)) := Lib.hid (by rw [HFin.out, ← hoc, ocs_small (by omega) (by omega)])
          clear hoc
          go_wp2
          all_goals first | (rename_i h9; exact absurd h9 (by decide)) | skip
          go_ret
          exact ⟨by rw [HO.out]; rfl, rfl⟩
theorem rsum_arr (v : Value) (bs : List Int) (w : World) (h : Arr w v bs) (hm : bs.length ≤ 100000) (hby : ∀ v ∈ bs, 0 ≤ v ∧ v ≤ 255) :
    Calls Try.prog 62 #[v] w fun e w' => e = .returned (.int .u16 (sumP bs)) ∧ w = w' := by
  rcases h with ⟨rfl, rfl⟩ | ⟨ad, c, rfl, h2⟩
  · exact rsum_b [] 0 0 0 none (fun h => by simp at h) (by simp) (by simp) w (fun h => by simp at h)
  · by_cases h0 : 0 < bs.length
    · obtain ⟨b, o, rfl, hs⟩ := h2.plain h0
      exact rsum_b bs b o c _ (fun _ => rfl) hm hby w (fun _ => hs)
    · exact rsum_b bs 0 0 c _ (fun h => absurd h h0) hm hby w (fun h => absurd h h0)

theorem wrap_u64 (n : Int) (h : 0 ≤ n) (h2 : n < 18446744073709551616) : IntKind.u64.wrap n = n := wr64 n h h2
theorem add_byte (n b : Int) (h0 : 0 ≤ n) (h1 : n < 72057594037927936) (b0 : 0 ≤ b) (b1 : b ≤ 255) : IntKind.u64.wrap (n * 256) = n * 256 ∧ IntKind.u64.wrap (n * 256 + b) = n * 256 + b :=
  ⟨wrap_u64 _ (by omega) (by omega), wrap_u64 _ (by omega) (by omega)⟩

set_option maxHeartbeats 1000000 in
theorem rtake_any (b o c n : Nat) (xs : List Int) (hn : xs.length = n) (a s : Nat) (ha1 : a ≤ 1000) (hs1 : s ≤ 8) (hm : n ≤ 1000) (hf : a + s ≤ n) (hx : ∀ v ∈ xs, 0 ≤ v ∧ v ≤ 255) (w : World) (hc : Sl w b o xs) :
    Calls Try.prog 39 #[.slice (some ⟨b, o, none⟩) n c, .int .i64 a, .int .i64 s] w fun e w' => e = .returned (.int .u64 (nm xs a s)) ∧ w = w' := by
  subst hn
  unfold nm
  have HC := Lib.hid hc
  have HX := Lib.hid hx
  clear hc hx
  go_enter Try.func39, Try.ntmps39
  go_wp2
  go_loop [7, 8] (fun n i => ∃ k : Nat, k ≤ s ∧ i = .int .i64 k ∧ n = .int .u64 (num ((xs.drop a).take k))) (fun _ i => s - (intOf i).toNat)
  case atStart => exact ⟨0, Nat.zero_le _, rfl, rfl⟩
  case round =>
    obtain ⟨k, hk, rfl, rfl⟩ := hrel
    by_cases hlt : k < s
    · have hcell := HC.out (a + k) (by omega)
      obtain ⟨hx0, hx1⟩ := HX.out xs[a + k] (List.getElem_mem _)
      obtain ⟨x, hxe⟩ : ∃ x, xs[a + k] = x := ⟨_, rfl⟩
      rw [hxe] at hcell hx0 hx1
      obtain ⟨n, hne⟩ : ∃ n, num ((xs.drop a).take k) = n := ⟨_, rfl⟩
      have hn := num_bound ((xs.drop a).take k) (fun v hv => HX.out v (List.mem_of_mem_drop (List.mem_of_mem_take hv)))
      rw [hne] at hn ⊢
      have HS : Hid (num ((xs.drop a).take (k + 1)) = n * 256 + x) := Lib.hid (by rw [List.take_succ_eq_append_getElem (by simp; omega), num_snoc, hne, List.getElem_drop, hxe])
      have hn0 : 0 ≤ n := hn.1
      have hn1 : n < 72057594037927936 := by
        have h2 := hn.2
        have hle : ((xs.drop a).take k).length ≤ 7 := by simp; omega
        have := pow_mono 7 hle
        omega
      obtain ⟨hw1, hw2⟩ := add_byte n x hn0 hn1 hx0 hx1
      clear hn hxe hne
      go_wp2
      go_round
      case rel => exact ⟨k + 1, by omega, by go_num, by rw [HS.out]⟩
      case measure => simp [intOf]; omega
    · have hke : k = s := by omega
      subst hke
      go_wp2
      go_ret
      exact ⟨rfl, rfl⟩

end Go.Proofs.Ytgdfpmnbofnjfaa

namespace Go.Proofs.Ytgdfpmnbofnjfaa
open Go.RowKit Go.Shelf
set_option linter.unusedVariables false
set_option linter.unusedSimpArgs false
set_option maxRecDepth 100000

/-- Behind the copies of the message and of the header. -/
structure RC (w : World) (x : FR) (B1 B2 : Nat) (W : World) : Prop where
  box : Has W w.heap.size 32 #[.int .u64 x.s, .int .u64 x.d, .int .i64 x.k, .int .i64 x.op, .int .u64 x.sm, .int .u32 x.si, .int .u64 x.tm, .int .u32 x.ti, .int .u32 x.hs, .int .u32 x.hd, .int .i64 x.tl, .int .i64 x.pr, .int .i64 x.sp, .int .i64 x.dp, .int .u64 x.da]
  ap : Has W B1 28 #[.int .i64 x.op, .int .u64 x.sm, .int .u32 x.si, .int .u64 x.tm, .int .u32 x.ti]
  hp : Has W B2 30 #[.int .u32 x.hs, .int .u32 x.hd, .int .i64 x.tl, .int .i64 x.pr, .int .i64 x.sp, .int .i64 x.dp]
  lo : Below w.heap.size w W
theorem up1 {w : World} {g : Nat} {t : TypeId} {cs : Array Value} (o : Obj) (h : Has w g t cs) : Has (w.alloc o) g t cs := h.below ((Below.refl _ _).alloc (Nat.le_refl _) _)
theorem rc_12 (w : World) (x : FR) : RC w x (w.heap.size + 1) (w.heap.size + 1 + 1) ((((w.alloc (.cells #[.int .u64 x.s, .int .u64 x.d, .int .i64 x.k, .int .i64 x.op, .int .u64 x.sm, .int .u32 x.si, .int .u64 x.tm, .int .u32 x.ti, .int .u32 x.hs, .int .u32 x.hd, .int .i64 x.tl, .int .i64 x.pr, .int .i64 x.sp, .int .i64 x.dp, .int .u64 x.da] 32)).alloc (.cells #[.int .i64 x.op, .int .u64 x.sm, .int .u32 x.si, .int .u64 x.tm, .int .u32 x.ti] 28)).alloc (.cells #[.int .u32 x.hs, .int .u32 x.hd, .int .i64 x.tl, .int .i64 x.pr, .int .i64 x.sp, .int .i64 x.dp] 30))).drew := by
  have a2 := Has.new (w.alloc (.cells #[.int .u64 x.s, .int .u64 x.d, .int .i64 x.k, .int .i64 x.op, .int .u64 x.sm, .int .u32 x.si, .int .u64 x.tm, .int .u32 x.ti, .int .u32 x.hs, .int .u32 x.hd, .int .i64 x.tl, .int .i64 x.pr, .int .i64 x.sp, .int .i64 x.dp, .int .u64 x.da] 32)) 28 #[.int .i64 x.op, .int .u64 x.sm, .int .u32 x.si, .int .u64 x.tm, .int .u32 x.ti]
  have a3 := Has.new ((w.alloc (.cells #[.int .u64 x.s, .int .u64 x.d, .int .i64 x.k, .int .i64 x.op, .int .u64 x.sm, .int .u32 x.si, .int .u64 x.tm, .int .u32 x.ti, .int .u32 x.hs, .int .u32 x.hd, .int .i64 x.tl, .int .i64 x.pr, .int .i64 x.sp, .int .i64 x.dp, .int .u64 x.da] 32)).alloc (.cells #[.int .i64 x.op, .int .u64 x.sm, .int .u32 x.si, .int .u64 x.tm, .int .u32 x.ti] 28)) 30 #[.int .u32 x.hs, .int .u32 x.hd, .int .i64 x.tl, .int .i64 x.pr, .int .i64 x.sp, .int .i64 x.dp]
  simp only [World.size_alloc] at a2 a3
  exact ⟨up1 _ (up1 _ (Has.new w _ _)), up1 _ a2, a3, ((((Below.refl _ w).alloc (Nat.le_refl _) _).alloc (by simp) _).alloc (by simp; omega) _).drew⟩
theorem rc_21 (w : World) (x : FR) : RC w x (w.heap.size + 1 + 1) (w.heap.size + 1) ((((w.alloc (.cells #[.int .u64 x.s, .int .u64 x.d, .int .i64 x.k, .int .i64 x.op, .int .u64 x.sm, .int .u32 x.si, .int .u64 x.tm, .int .u32 x.ti, .int .u32 x.hs, .int .u32 x.hd, .int .i64 x.tl, .int .i64 x.pr, .int .i64 x.sp, .int .i64 x.dp, .int .u64 x.da] 32)).alloc (.cells #[.int .u32 x.hs, .int .u32 x.hd, .int .i64 x.tl, .int .i64 x.pr, .int .i64 x.sp, .int .i64 x.dp] 30)).alloc (.cells #[.int .i64 x.op, .int .u64 x.sm, .int .u32 x.si, .int .u64 x.tm, .int .u32 x.ti] 28))).drew := by
  have a2 := Has.new (w.alloc (.cells #[.int .u64 x.s, .int .u64 x.d, .int .i64 x.k, .int .i64 x.op, .int .u64 x.sm, .int .u32 x.si, .int .u64 x.tm, .int .u32 x.ti, .int .u32 x.hs, .int .u32 x.hd, .int .i64 x.tl, .int .i64 x.pr, .int .i64 x.sp, .int .i64 x.dp, .int .u64 x.da] 32)) 30 #[.int .u32 x.hs, .int .u32 x.hd, .int .i64 x.tl, .int .i64 x.pr, .int .i64 x.sp, .int .i64 x.dp]
  have a3 := Has.new ((w.alloc (.cells #[.int .u64 x.s, .int .u64 x.d, .int .i64 x.k, .int .i64 x.op, .int .u64 x.sm, .int .u32 x.si, .int .u64 x.tm, .int .u32 x.ti, .int .u32 x.hs, .int .u32 x.hd, .int .i64 x.tl, .int .i64 x.pr, .int .i64 x.sp, .int .i64 x.dp, .int .u64 x.da] 32)).alloc (.cells #[.int .u32 x.hs, .int .u32 x.hd, .int .i64 x.tl, .int .i64 x.pr, .int .i64 x.sp, .int .i64 x.dp] 30)) 28 #[.int .i64 x.op, .int .u64 x.sm, .int .u32 x.si, .int .u64 x.tm, .int .u32 x.ti]
  simp only [World.size_alloc] at a2 a3
  exact ⟨up1 _ (up1 _ (Has.new w _ _)), a3, up1 _ a2, ((((Below.refl _ w).alloc (Nat.le_refl _) _).alloc (by simp) _).alloc (by simp; omega) _).drew⟩

set_option maxHeartbeats 4000000 in
theorem rchk_big (x : FR) (hx : x.ty) (h : big x.s = true ∨ big x.d = true) (w : World) : Calls Try.prog 36 #[.agg x.cs] w fun e w' => e = .returned (.int .i64 (fchk x)) ∧ Below w.heap.size w w' := by
  have HE : Hid (fchk x = 2) := Lib.hid (by unfold fchk; rw [if_pos h])
  obtain ⟨b1, hb1⟩ : ∃ b, decide (281474976710655 < x.s) = b := ⟨_, rfl⟩
  obtain ⟨b2, hb2⟩ : ∃ b, decide (281474976710655 < x.d) = b := ⟨_, rfl⟩
  have HH : Hid (b1 = true ∨ b2 = true) := Lib.hid (by unfold big at h; rwa [hb1, hb2] at h)
  clear h hx
  unfold FR.cs
  have H12 := Lib.hid (rc_12 w x)
  have H21 := Lib.hid (rc_21 w x)
  go_enter Try.func36, Try.ntmps36
  go_upto_region 1 with fail
  go_cut [3, 4] (fun v3 v4 wx => ∃ B1 B2, v3 = .pointer (some ⟨B1, 0, none⟩) ∧ v4 = .pointer (some ⟨B2, 0, none⟩) ∧ RC w x B1 B2 wx)
  case first =>
    go_wp2_with fail
    go_region
    all_goals (go_wp2_with fail; go_meet)
    · exact ⟨_, _, rfl, rfl, H12.out⟩
    · exact ⟨_, _, rfl, rfl, H21.out⟩
  case rest =>
    obtain ⟨B1, B2, rfl, rfl, hrc⟩ := hcut
    clear H12 H21
    have HR := Lib.hid hrc
    have c0 := hrc.box.cell 0
    have c1 := hrc.box.cell 1
    have c2 := hrc.box.cell 2
    have a0 := hrc.ap.cell 0
    have a1 := hrc.ap.cell 1
    have a2 := hrc.ap.cell 2
    have a3 := hrc.ap.cell 3
    have a4 := hrc.ap.cell 4
    have h0 := hrc.hp.cell 0
    have h1 := hrc.hp.cell 1
    have h2 := hrc.hp.cell 2
    have h3 := hrc.hp.cell 3
    have h4 := hrc.hp.cell 4
    have h5 := hrc.hp.cell 5
    simp only [List.getElem?_toArray, List.getElem?_cons_zero, List.getElem?_cons_succ] at c0 c1 c2 a0 a1 a2 a3 a4 h0 h1 h2 h3 h4 h5
    clear hrc
    cases b1
    · cases b2
      · exact absurd HH.out (by simp)
      · go_wp2_with fail
        go_ret
        exact ⟨by rw [HE.out]; rfl, HR.out.lo⟩
    · go_wp2_with fail
      go_ret
      exact ⟨by rw [HE.out]; rfl, HR.out.lo⟩

set_option maxHeartbeats 4000000 in
theorem rchk_mc (x : FR) (hx : x.ty) (hsd : ¬ (big x.s = true ∨ big x.d = true)) (hm : mc x.s = true) (w : World) : Calls Try.prog 36 #[.agg x.cs] w fun e w' => e = .returned (.int .i64 (fchk x)) ∧ Below w.heap.size w w' := by
  have hb1 : decide (281474976710655 < x.s) = false := by have h := hsd; unfold big at h; simp at h; simpa using h.1
  have hb2 : decide (281474976710655 < x.d) = false := by have h := hsd; unfold big at h; simp at h; simpa using h.2
  have HMc : Hid (∀ W : World, Calls Try.prog 63 #[.int .u64 x.s] W fun e w' => e = .returned (.bool true) ∧ W = w') := Lib.hid (fun W => hm ▸ rmulti_any x.s hx.s.1 (by have := of_decide_eq_false hb1; omega) W)
  have HE : Hid (fchk x = 3) := Lib.hid (by unfold fchk; rw [if_neg hsd, hm]; rfl)
  clear hsd hm hx
  unfold FR.cs
  have H12 := Lib.hid (rc_12 w x)
  have H21 := Lib.hid (rc_21 w x)
  go_enter Try.func36, Try.ntmps36
  go_upto_region 1 with fail
  go_cut [3, 4] (fun v3 v4 wx => ∃ B1 B2, v3 = .pointer (some ⟨B1, 0, none⟩) ∧ v4 = .pointer (some ⟨B2, 0, none⟩) ∧ RC w x B1 B2 wx)
  case first =>
    go_wp2_with fail
    go_region
    all_goals (go_wp2_with fail; go_meet)
    · exact ⟨_, _, rfl, rfl, H12.out⟩
    · exact ⟨_, _, rfl, rfl, H21.out⟩
  case rest =>
    obtain ⟨B1, B2, rfl, rfl, hrc⟩ := hcut
    clear H12 H21
    have HR := Lib.hid hrc
    have c0 := hrc.box.cell 0
    have c1 := hrc.box.cell 1
    have c2 := hrc.box.cell 2
    have a0 := hrc.ap.cell 0
    have a1 := hrc.ap.cell 1
    have a2 := hrc.ap.cell 2
    have a3 := hrc.ap.cell 3
    have a4 := hrc.ap.cell 4
    have h0 := hrc.hp.cell 0
    have h1 := hrc.hp.cell 1
    have h2 := hrc.hp.cell 2
    have h3 := hrc.hp.cell 3
    have h4 := hrc.hp.cell 4
    have h5 := hrc.hp.cell 5
    simp only [List.getElem?_toArray, List.getElem?_cons_zero, List.getElem?_cons_succ] at c0 c1 c2 a0 a1 a2 a3 a4 h0 h1 h2 h3 h4 h5
    clear hrc
    go_wp2_with (go_at_call 63; refine (HMc.out _).mono ?_; rintro e w8 ⟨rfl, rfl⟩)
    go_ret
    exact ⟨by rw [HE.out]; rfl, HR.out.lo⟩

set_option maxHeartbeats 4000000 in
theorem rchk_kind (x : FR) (hx : x.ty) (hsd : ¬ (big x.s = true ∨ big x.d = true)) (hm : mc x.s = false) (hk : x.k < 0 ∨ 2 < x.k) (w : World) : Calls Try.prog 36 #[.agg x.cs] w fun e w' => e = .returned (.int .i64 (fchk x)) ∧ Below w.heap.size w w' := by
  have hb1 : decide (281474976710655 < x.s) = false := by have h := hsd; unfold big at h; simp at h; simpa using h.1
  have hb2 : decide (281474976710655 < x.d) = false := by have h := hsd; unfold big at h; simp at h; simpa using h.2
  have HMc : Hid (∀ W : World, Calls Try.prog 63 #[.int .u64 x.s] W fun e w' => e = .returned (.bool false) ∧ W = w') := Lib.hid (fun W => hm ▸ rmulti_any x.s hx.s.1 (by have := of_decide_eq_false hb1; omega) W)
  have HE : Hid (fchk x = 6) := Lib.hid (by
    have h6 : perr x = 6 := by unfold perr; rw [if_pos hk]
    unfold fchk; rw [if_neg hsd, hm, if_neg (by decide), h6, if_pos (by decide)])
  obtain ⟨b3, hb3⟩ : ∃ b, decide (x.k < 0) = b := ⟨_, rfl⟩
  have hb4 : b3 = false → decide (2 < x.k) = true := fun h => by rw [← hb3] at h; have := of_decide_eq_false h; exact decide_eq_true (by omega)
  have HB4 := Lib.hid hb4
  clear hsd hm hx hk hb4
  unfold FR.cs
  have H12 := Lib.hid (rc_12 w x)
  have H21 := Lib.hid (rc_21 w x)
  go_enter Try.func36, Try.ntmps36
  go_upto_region 1 with fail
  go_cut [3, 4] (fun v3 v4 wx => ∃ B1 B2, v3 = .pointer (some ⟨B1, 0, none⟩) ∧ v4 = .pointer (some ⟨B2, 0, none⟩) ∧ RC w x B1 B2 wx)
  case first =>
    go_wp2_with fail
    go_region
    all_goals (go_wp2_with fail; go_meet)
    · exact ⟨_, _, rfl, rfl, H12.out⟩
    · exact ⟨_, _, rfl, rfl, H21.out⟩
  case rest =>
    obtain ⟨B1, B2, rfl, rfl, hrc⟩ := hcut
    clear H12 H21
    have HR := Lib.hid hrc
    have c0 := hrc.box.cell 0
    have c1 := hrc.box.cell 1
    have c2 := hrc.box.cell 2
    have a0 := hrc.ap.cell 0
    have a1 := hrc.ap.cell 1
    have a2 := hrc.ap.cell 2
    have a3 := hrc.ap.cell 3
    have a4 := hrc.ap.cell 4
    have h0 := hrc.hp.cell 0
    have h1 := hrc.hp.cell 1
    have h2 := hrc.hp.cell 2
    have h3 := hrc.hp.cell 3
    have h4 := hrc.hp.cell 4
    have h5 := hrc.hp.cell 5
    simp only [List.getElem?_toArray, List.getElem?_cons_zero, List.getElem?_cons_succ] at c0 c1 c2 a0 a1 a2 a3 a4 h0 h1 h2 h3 h4 h5
    clear hrc
    cases b3
    · have hb4 := HB4.out rfl
      go_wp2_with (go_at_call 63; refine (HMc.out _).mono ?_; rintro e w8 ⟨rfl, rfl⟩)
      go_ret
      exact ⟨by rw [HE.out]; rfl, HR.out.lo⟩
    · go_wp2_with (go_at_call 63; refine (HMc.out _).mono ?_; rintro e w8 ⟨rfl, rfl⟩)
      go_ret
      exact ⟨by rw [HE.out]; rfl, HR.out.lo⟩

set_option maxHeartbeats 4000000 in
theorem rchk_bad0 (x : FR) (hx : x.ty) (hsd : ¬ (big x.s = true ∨ big x.d = true)) (hm : mc x.s = false) (hk : x.k = 0) (hp : x.sameA fr0 = false ∨ x.sameH fr0 = false) (w : World) : Calls Try.prog 36 #[.agg x.cs] w fun e w' => e = .returned (.int .i64 (fchk x)) ∧ Below w.heap.size w w' := by
  have hb1 : decide (281474976710655 < x.s) = false := by have h := hsd; unfold big at h; simp at h; simpa using h.1
  have hb2 : decide (281474976710655 < x.d) = false := by have h := hsd; unfold big at h; simp at h; simpa using h.2
  have HMc : Hid (∀ W : World, Calls Try.prog 63 #[.int .u64 x.s] W fun e w' => e = .returned (.bool false) ∧ W = w') := Lib.hid (fun W => hm ▸ rmulti_any x.s hx.s.1 (by have := of_decide_eq_false hb1; omega) W)
  have HE : Hid (fchk x = 3) := Lib.hid (by
    have h6 : perr x = 3 := by unfold perr; rw [if_neg (by omega), if_pos (by rcases hp with h | h; exact .inl ⟨by omega, h⟩; exact .inr ⟨by omega, h⟩)]
    unfold fchk; rw [if_neg hsd, hm, if_neg (by decide), h6, if_pos (by decide)])
  obtain ⟨bA, hA⟩ : ∃ b, x.sameA fr0 = b := ⟨_, rfl⟩
  obtain ⟨bH, hH⟩ : ∃ b, x.sameH fr0 = b := ⟨_, rfl⟩
  have hneqA := neq_ap x fr0
  have hneqH := neq_hp x fr0
  rw [hA] at hneqA
  rw [hH] at hneqH
  simp only [FR.ac, FR.hc, fr0] at hneqA hneqH
  rw [hA, hH] at hp
  have HP := Lib.hid hp
  have HK := Lib.hid hk
  clear hsd hm hx hk hp hA hH
  unfold FR.cs
  have H12 := Lib.hid (rc_12 w x)
  have H21 := Lib.hid (rc_21 w x)
  go_enter Try.func36, Try.ntmps36
  go_upto_region 1 with fail
  go_cut [3, 4] (fun v3 v4 wx => ∃ B1 B2, v3 = .pointer (some ⟨B1, 0, none⟩) ∧ v4 = .pointer (some ⟨B2, 0, none⟩) ∧ RC w x B1 B2 wx)
  case first =>
    go_wp2_with fail
    go_region
    all_goals (go_wp2_with fail; go_meet)
    · exact ⟨_, _, rfl, rfl, H12.out⟩
    · exact ⟨_, _, rfl, rfl, H21.out⟩
  case rest =>
    obtain ⟨B1, B2, rfl, rfl, hrc⟩ := hcut
    clear H12 H21
    have HR := Lib.hid hrc
    have c0 := hrc.box.cell 0
    have c1 := hrc.box.cell 1
    have c2 := hrc.box.cell 2
    have a0 := hrc.ap.cell 0
    have a1 := hrc.ap.cell 1
    have a2 := hrc.ap.cell 2
    have a3 := hrc.ap.cell 3
    have a4 := hrc.ap.cell 4
    have h0 := hrc.hp.cell 0
    have h1 := hrc.hp.cell 1
    have h2 := hrc.hp.cell 2
    have h3 := hrc.hp.cell 3
    have h4 := hrc.hp.cell 4
    have h5 := hrc.hp.cell 5
    simp only [List.getElem?_toArray, List.getElem?_cons_zero, List.getElem?_cons_succ] at c0 c1 c2 a0 a1 a2 a3 a4 h0 h1 h2 h3 h4 h5
    clear hrc
    rw [HK.out] at c2
    cases bA
    · go_wp2_with (go_at_call 63; refine (HMc.out _).mono ?_; rintro e w8 ⟨rfl, rfl⟩)
      go_ret
      exact ⟨by rw [HE.out]; rfl, HR.out.lo⟩
    · cases bH
      · go_wp2_with (go_at_call 63; refine (HMc.out _).mono ?_; rintro e w8 ⟨rfl, rfl⟩)
        go_ret
        exact ⟨by rw [HE.out]; rfl, HR.out.lo⟩
      · exact absurd HP.out (by simp)

set_option maxHeartbeats 4000000 in
theorem rchk_bad1 (x : FR) (hx : x.ty) (hsd : ¬ (big x.s = true ∨ big x.d = true)) (hm : mc x.s = false) (hk : x.k = 1) (hp : x.sameH fr0 = false) (w : World) : Calls Try.prog 36 #[.agg x.cs] w fun e w' => e = .returned (.int .i64 (fchk x)) ∧ Below w.heap.size w w' := by
  have hb1 : decide (281474976710655 < x.s) = false := by have h := hsd; unfold big at h; simp at h; simpa using h.1
  have hb2 : decide (281474976710655 < x.d) = false := by have h := hsd; unfold big at h; simp at h; simpa using h.2
  have HMc : Hid (∀ W : World, Calls Try.prog 63 #[.int .u64 x.s] W fun e w' => e = .returned (.bool false) ∧ W = w') := Lib.hid (fun W => hm ▸ rmulti_any x.s hx.s.1 (by have := of_decide_eq_false hb1; omega) W)
  have HE : Hid (fchk x = 3) := Lib.hid (by
    have h6 : perr x = 3 := by unfold perr; rw [if_neg (by omega), if_pos (.inr ⟨by omega, hp⟩)]
    unfold fchk; rw [if_neg hsd, hm, if_neg (by decide), h6, if_pos (by decide)])
  obtain ⟨bA, hA⟩ : ∃ b, x.sameA fr0 = b := ⟨_, rfl⟩
  obtain ⟨bH, hH⟩ : ∃ b, x.sameH fr0 = b := ⟨_, rfl⟩
  have hneqA := neq_ap x fr0
  have hneqH := neq_hp x fr0
  rw [hA] at hneqA
  rw [hH] at hneqH
  simp only [FR.ac, FR.hc, fr0] at hneqA hneqH
  rw [hH] at hp
  have HP := Lib.hid hp
  have HK := Lib.hid hk
  clear hsd hm hx hk hp hA hH
  unfold FR.cs
  have H12 := Lib.hid (rc_12 w x)
  have H21 := Lib.hid (rc_21 w x)
  go_enter Try.func36, Try.ntmps36
  go_upto_region 1 with fail
  go_cut [3, 4] (fun v3 v4 wx => ∃ B1 B2, v3 = .pointer (some ⟨B1, 0, none⟩) ∧ v4 = .pointer (some ⟨B2, 0, none⟩) ∧ RC w x B1 B2 wx)
  case first =>
    go_wp2_with fail
    go_region
    all_goals (go_wp2_with fail; go_meet)
    · exact ⟨_, _, rfl, rfl, H12.out⟩
    · exact ⟨_, _, rfl, rfl, H21.out⟩
  case rest =>
    obtain ⟨B1, B2, rfl, rfl, hrc⟩ := hcut
    clear H12 H21
    have HR := Lib.hid hrc
    have c0 := hrc.box.cell 0
    have c1 := hrc.box.cell 1
    have c2 := hrc.box.cell 2
    have a0 := hrc.ap.cell 0
    have a1 := hrc.ap.cell 1
    have a2 := hrc.ap.cell 2
    have a3 := hrc.ap.cell 3
    have a4 := hrc.ap.cell 4
    have h0 := hrc.hp.cell 0
    have h1 := hrc.hp.cell 1
    have h2 := hrc.hp.cell 2
    have h3 := hrc.hp.cell 3
    have h4 := hrc.hp.cell 4
    have h5 := hrc.hp.cell 5
    simp only [List.getElem?_toArray, List.getElem?_cons_zero, List.getElem?_cons_succ] at c0 c1 c2 a0 a1 a2 a3 a4 h0 h1 h2 h3 h4 h5
    clear hrc
    rw [HK.out] at c2
    cases bH
    · go_wp2_with (go_at_call 63; refine (HMc.out _).mono ?_; rintro e w8 ⟨rfl, rfl⟩)
      go_ret
      exact ⟨by rw [HE.out]; rfl, HR.out.lo⟩
    · exact absurd HP.out (by simp)

set_option maxHeartbeats 4000000 in
theorem rchk_bad2 (x : FR) (hx : x.ty) (hsd : ¬ (big x.s = true ∨ big x.d = true)) (hm : mc x.s = false) (hk : x.k = 2) (hp : x.sameA fr0 = false) (w : World) : Calls Try.prog 36 #[.agg x.cs] w fun e w' => e = .returned (.int .i64 (fchk x)) ∧ Below w.heap.size w w' := by
  have hb1 : decide (281474976710655 < x.s) = false := by have h := hsd; unfold big at h; simp at h; simpa using h.1
  have hb2 : decide (281474976710655 < x.d) = false := by have h := hsd; unfold big at h; simp at h; simpa using h.2
  have HMc : Hid (∀ W : World, Calls Try.prog 63 #[.int .u64 x.s] W fun e w' => e = .returned (.bool false) ∧ W = w') := Lib.hid (fun W => hm ▸ rmulti_any x.s hx.s.1 (by have := of_decide_eq_false hb1; omega) W)
  have HE : Hid (fchk x = 3) := Lib.hid (by
    have h6 : perr x = 3 := by unfold perr; rw [if_neg (by omega), if_pos (.inl ⟨by omega, hp⟩)]
    unfold fchk; rw [if_neg hsd, hm, if_neg (by decide), h6, if_pos (by decide)])
  obtain ⟨bA, hA⟩ : ∃ b, x.sameA fr0 = b := ⟨_, rfl⟩
  obtain ⟨bH, hH⟩ : ∃ b, x.sameH fr0 = b := ⟨_, rfl⟩
  have hneqA := neq_ap x fr0
  have hneqH := neq_hp x fr0
  rw [hA] at hneqA
  rw [hH] at hneqH
  simp only [FR.ac, FR.hc, fr0] at hneqA hneqH
  rw [hA] at hp
  have HP := Lib.hid hp
  have HK := Lib.hid hk
  clear hsd hm hx hk hp hA hH
  unfold FR.cs
  have H12 := Lib.hid (rc_12 w x)
  have H21 := Lib.hid (rc_21 w x)
  go_enter Try.func36, Try.ntmps36
  go_upto_region 1 with fail
  go_cut [3, 4] (fun v3 v4 wx => ∃ B1 B2, v3 = .pointer (some ⟨B1, 0, none⟩) ∧ v4 = .pointer (some ⟨B2, 0, none⟩) ∧ RC w x B1 B2 wx)
  case first =>
    go_wp2_with fail
    go_region
    all_goals (go_wp2_with fail; go_meet)
    · exact ⟨_, _, rfl, rfl, H12.out⟩
    · exact ⟨_, _, rfl, rfl, H21.out⟩
  case rest =>
    obtain ⟨B1, B2, rfl, rfl, hrc⟩ := hcut
    clear H12 H21
    have HR := Lib.hid hrc
    have c0 := hrc.box.cell 0
    have c1 := hrc.box.cell 1
    have c2 := hrc.box.cell 2
    have a0 := hrc.ap.cell 0
    have a1 := hrc.ap.cell 1
    have a2 := hrc.ap.cell 2
    have a3 := hrc.ap.cell 3
    have a4 := hrc.ap.cell 4
    have h0 := hrc.hp.cell 0
    have h1 := hrc.hp.cell 1
    have h2 := hrc.hp.cell 2
    have h3 := hrc.hp.cell 3
    have h4 := hrc.hp.cell 4
    have h5 := hrc.hp.cell 5
    simp only [List.getElem?_toArray, List.getElem?_cons_zero, List.getElem?_cons_succ] at c0 c1 c2 a0 a1 a2 a3 a4 h0 h1 h2 h3 h4 h5
    clear hrc
    rw [HK.out] at c2
    cases bA
    · go_wp2_with (go_at_call 63; refine (HMc.out _).mono ?_; rintro e w8 ⟨rfl, rfl⟩)
      go_ret
      exact ⟨by rw [HE.out]; rfl, HR.out.lo⟩
    · exact absurd HP.out (by simp)

set_option maxHeartbeats 4000000 in
theorem rchk_ok0 (x : FR) (hx : x.ty) (hsd : ¬ (big x.s = true ∨ big x.d = true)) (hm : mc x.s = false) (hk : x.k = 0) (hp : perr x = 0) (w : World) : Calls Try.prog 36 #[.agg x.cs] w fun e w' => e = .returned (.int .i64 (fchk x)) ∧ Below w.heap.size w w' := by
  have hb1 : decide (281474976710655 < x.s) = false := by have h := hsd; unfold big at h; simp at h; simpa using h.1
  have hb2 : decide (281474976710655 < x.d) = false := by have h := hsd; unfold big at h; simp at h; simpa using h.2
  have HMc : Hid (∀ W : World, Calls Try.prog 63 #[.int .u64 x.s] W fun e w' => e = .returned (.bool false) ∧ W = w') := Lib.hid (fun W => hm ▸ rmulti_any x.s hx.s.1 (by have := of_decide_eq_false hb1; omega) W)
  have h6 : perr x = 0 := hp
  obtain ⟨hzA, hzH⟩ := perr_zero hp
  have HE : Hid (fchk x = 0) := Lib.hid (by unfold fchk; rw [if_neg hsd, hm, if_neg (by decide), if_neg (by omega), if_neg (by omega), if_neg (by omega)])
  have hA := hzA (by omega)
  have hH := hzH (by omega)
  obtain ⟨z6, z7, z8, z9, z10, z11⟩ := sameH_zero hH
  have hneqA := neq_ap x fr0
  have hneqH := neq_hp x fr0
  rw [hA] at hneqA
  rw [hH] at hneqH
  simp only [FR.ac, FR.hc, fr0, z6, z7, z8, z9, z10, z11] at hneqA hneqH
  have HPd : Hid (∀ W : World, Calls Try.prog 61 #[.int .i64 0] W fun e w' => e = .returned (.bool false) ∧ W = w') := Lib.hid (fun W => rported_any 0 W)
  have HK := Lib.hid hk
  have HZ := Lib.hid (And.intro z6 (And.intro z7 (And.intro z8 (And.intro z9 (And.intro z10 z11)))))
  clear hsd hm hx hk hp hA hH hzA hzH h6 z6 z7 z8 z9 z10 z11
  unfold FR.cs
  have H12 := Lib.hid (rc_12 w x)
  have H21 := Lib.hid (rc_21 w x)
  go_enter Try.func36, Try.ntmps36
  go_upto_region 1 with fail
  go_cut [3, 4] (fun v3 v4 wx => ∃ B1 B2, v3 = .pointer (some ⟨B1, 0, none⟩) ∧ v4 = .pointer (some ⟨B2, 0, none⟩) ∧ RC w x B1 B2 wx)
  case first =>
    go_wp2_with fail
    go_region
    all_goals (go_wp2_with fail; go_meet)
    · exact ⟨_, _, rfl, rfl, H12.out⟩
    · exact ⟨_, _, rfl, rfl, H21.out⟩
  case rest =>
    obtain ⟨B1, B2, rfl, rfl, hrc⟩ := hcut
    clear H12 H21
    have HR := Lib.hid hrc
    have c0 := hrc.box.cell 0
    have c1 := hrc.box.cell 1
    have c2 := hrc.box.cell 2
    have a0 := hrc.ap.cell 0
    have a1 := hrc.ap.cell 1
    have a2 := hrc.ap.cell 2
    have a3 := hrc.ap.cell 3
    have a4 := hrc.ap.cell 4
    have h0 := hrc.hp.cell 0
    have h1 := hrc.hp.cell 1
    have h2 := hrc.hp.cell 2
    have h3 := hrc.hp.cell 3
    have h4 := hrc.hp.cell 4
    have h5 := hrc.hp.cell 5
    simp only [List.getElem?_toArray, List.getElem?_cons_zero, List.getElem?_cons_succ] at c0 c1 c2 a0 a1 a2 a3 a4 h0 h1 h2 h3 h4 h5
    clear hrc
    rw [HK.out] at c2
    obtain ⟨z6, z7, z8, z9, z10, z11⟩ := HZ.out
    rw [z6] at h0
    rw [z7] at h1
    rw [z8] at h2
    rw [z9] at h3
    rw [z10] at h4
    rw [z11] at h5
    clear z6 z7 z8 z9 z10 z11
    go_wp2_with (first | (go_at_call 63; refine (HMc.out _).mono ?_; rintro e w8 ⟨rfl, rfl⟩) | (go_at_call 61; refine (HPd.out _).mono ?_; rintro e w9 ⟨rfl, rfl⟩))
    go_ret
    exact ⟨by rw [HE.out]; rfl, HR.out.lo⟩

set_option maxHeartbeats 4000000 in
theorem rchk_ok1 (x : FR) (hx : x.ty) (hsd : ¬ (big x.s = true ∨ big x.d = true)) (hm : mc x.s = false) (hk : x.k = 1) (hp : perr x = 0) (w : World) : Calls Try.prog 36 #[.agg x.cs] w fun e w' => e = .returned (.int .i64 (fchk x)) ∧ Below w.heap.size w w' := by
  have hb1 : decide (281474976710655 < x.s) = false := by have h := hsd; unfold big at h; simp at h; simpa using h.1
  have hb2 : decide (281474976710655 < x.d) = false := by have h := hsd; unfold big at h; simp at h; simpa using h.2
  have HMc : Hid (∀ W : World, Calls Try.prog 63 #[.int .u64 x.s] W fun e w' => e = .returned (.bool false) ∧ W = w') := Lib.hid (fun W => hm ▸ rmulti_any x.s hx.s.1 (by have := of_decide_eq_false hb1; omega) W)
  have h6 : perr x = 0 := hp
  obtain ⟨hzA, hzH⟩ := perr_zero hp
  have HE : Hid (fchk x = ackA x) := Lib.hid (by unfold fchk; rw [if_neg hsd, hm, if_neg (by decide), if_neg (by omega), if_pos hk])
  have hH := hzH (by omega)
  obtain ⟨z6, z7, z8, z9, z10, z11⟩ := sameH_zero hH
  have hneqH := neq_hp x fr0
  rw [hH] at hneqH
  simp only [FR.hc, fr0, z6, z7, z8, z9, z10, z11] at hneqH
  have HPd : Hid (∀ W : World, Calls Try.prog 61 #[.int .i64 0] W fun e w' => e = .returned (.bool false) ∧ W = w') := Lib.hid (fun W => rported_any 0 W)
  have HK := Lib.hid hk
  have HZ := Lib.hid (And.intro z6 (And.intro z7 (And.intro z8 (And.intro z9 (And.intro z10 z11)))))
  clear hsd hm hx hk hp hH hzA hzH h6 z6 z7 z8 z9 z10 z11
  unfold FR.cs
  have H12 := Lib.hid (rc_12 w x)
  have H21 := Lib.hid (rc_21 w x)
  go_enter Try.func36, Try.ntmps36
  go_upto_region 1 with fail
  go_cut [3, 4] (fun v3 v4 wx => ∃ B1 B2, v3 = .pointer (some ⟨B1, 0, none⟩) ∧ v4 = .pointer (some ⟨B2, 0, none⟩) ∧ RC w x B1 B2 wx)
  case first =>
    go_wp2_with fail
    go_region
    all_goals (go_wp2_with fail; go_meet)
    · exact ⟨_, _, rfl, rfl, H12.out⟩
    · exact ⟨_, _, rfl, rfl, H21.out⟩
  case rest =>
    obtain ⟨B1, B2, rfl, rfl, hrc⟩ := hcut
    clear H12 H21
    have HR := Lib.hid hrc
    have c0 := hrc.box.cell 0
    have c1 := hrc.box.cell 1
    have c2 := hrc.box.cell 2
    have a0 := hrc.ap.cell 0
    have a1 := hrc.ap.cell 1
    have a2 := hrc.ap.cell 2
    have a3 := hrc.ap.cell 3
    have a4 := hrc.ap.cell 4
    have h0 := hrc.hp.cell 0
    have h1 := hrc.hp.cell 1
    have h2 := hrc.hp.cell 2
    have h3 := hrc.hp.cell 3
    have h4 := hrc.hp.cell 4
    have h5 := hrc.hp.cell 5
    simp only [List.getElem?_toArray, List.getElem?_cons_zero, List.getElem?_cons_succ] at c0 c1 c2 a0 a1 a2 a3 a4 h0 h1 h2 h3 h4 h5
    clear hrc
    rw [HK.out] at c2
    obtain ⟨z6, z7, z8, z9, z10, z11⟩ := HZ.out
    rw [z6] at h0
    rw [z7] at h1
    rw [z8] at h2
    rw [z9] at h3
    rw [z10] at h4
    rw [z11] at h5
    clear z6 z7 z8 z9 z10 z11
    obtain ⟨op, hop⟩ : ∃ op, x.op = op := ⟨_, rfl⟩
    obtain ⟨b5, hb5⟩ : ∃ b, decide (281474976710655 < x.sm) = b := ⟨_, rfl⟩
    obtain ⟨b6, hb6⟩ : ∃ b, decide (281474976710655 < x.tm) = b := ⟨_, rfl⟩
    have HA : Hid (ackA x = if op ≠ 1 ∧ op ≠ 2 then 2 else if b5 then 2 else if b6 then 2 else 0) := Lib.hid (by unfold ackA big; rw [hop, hb5, hb6])
    rw [hop] at a0
    clear hop
    by_cases g1 : op < 1
    · have HA2 : Hid (ackA x = 2) := Lib.hid (by rw [HA.out, if_pos (by omega)])
      go_wp2_with (go_at_call 63; refine (HMc.out _).mono ?_; rintro e w8 ⟨rfl, rfl⟩)
      go_ret
      exact ⟨by rw [HE.out, HA2.out]; rfl, HR.out.lo⟩
    by_cases g2 : 2 < op
    · have HA2 : Hid (ackA x = 2) := Lib.hid (by rw [HA.out, if_pos (by omega)])
      have g1' : decide (op < 1) = false := decide_eq_false g1
      go_wp2_with (go_at_call 63; refine (HMc.out _).mono ?_; rintro e w8 ⟨rfl, rfl⟩)
      go_ret
      exact ⟨by rw [HE.out, HA2.out]; rfl, HR.out.lo⟩
    have g1' : decide (op < 1) = false := decide_eq_false g1
    have g2' : decide (2 < op) = false := decide_eq_false g2
    have HA2 : Hid (ackA x = if b5 then 2 else if b6 then 2 else 0) := Lib.hid (by rw [HA.out, if_neg (by omega)])
    clear HA
    cases b5
    · cases b6
      · go_wp2_with (first | (go_at_call 63; refine (HMc.out _).mono ?_; rintro e w8 ⟨rfl, rfl⟩) | (go_at_call 61; refine (HPd.out _).mono ?_; rintro e w9 ⟨rfl, rfl⟩))
        go_ret
        exact ⟨by rw [HE.out, HA2.out]; rfl, HR.out.lo⟩
      · go_wp2_with (go_at_call 63; refine (HMc.out _).mono ?_; rintro e w8 ⟨rfl, rfl⟩)
        go_ret
        exact ⟨by rw [HE.out, HA2.out]; rfl, HR.out.lo⟩
    · go_wp2_with (go_at_call 63; refine (HMc.out _).mono ?_; rintro e w8 ⟨rfl, rfl⟩)
      go_ret
      exact ⟨by rw [HE.out, HA2.out]; rfl, HR.out.lo⟩

set_option maxHeartbeats 4000000 in
theorem rchk_ok2 (x : FR) (hx : x.ty) (hsd : ¬ (big x.s = true ∨ big x.d = true)) (hm : mc x.s = false) (hk : x.k = 2) (hp : perr x = 0) (w : World) : Calls Try.prog 36 #[.agg x.cs] w fun e w' => e = .returned (.int .i64 (fchk x)) ∧ Below w.heap.size w w' := by
  have hb1 : decide (281474976710655 < x.s) = false := by have h := hsd; unfold big at h; simp at h; simpa using h.1
  have hb2 : decide (281474976710655 < x.d) = false := by have h := hsd; unfold big at h; simp at h; simpa using h.2
  have HMc : Hid (∀ W : World, Calls Try.prog 63 #[.int .u64 x.s] W fun e w' => e = .returned (.bool false) ∧ W = w') := Lib.hid (fun W => hm ▸ rmulti_any x.s hx.s.1 (by have := of_decide_eq_false hb1; omega) W)
  have h6 : perr x = 0 := hp
  obtain ⟨hzA, hzH⟩ := perr_zero hp
  have HE : Hid (fchk x = ackH x) := Lib.hid (by unfold fchk; rw [if_neg hsd, hm, if_neg (by decide), if_neg (by omega), if_neg (by omega), if_pos hk])
  have hA := hzA (by omega)
  have hneqA := neq_ap x fr0
  rw [hA] at hneqA
  simp only [FR.ac, fr0] at hneqA
  obtain ⟨b9, hb9⟩ : ∃ b, pd x.pr = b := ⟨_, rfl⟩
  have HPd : Hid (∀ W : World, Calls Try.prog 61 #[.int .i64 x.pr] W fun e w' => e = .returned (.bool b9) ∧ W = w') := Lib.hid (fun W => hb9 ▸ rported_any x.pr W)
  have HK := Lib.hid hk
  have HA : Hid (ackH x = if (wi x.tl 255 && wi x.pr 255 && wi x.sp 65535 && wi x.dp 65535) = false then 2 else if b9 = false ∧ (x.sp ≠ 0 ∨ x.dp ≠ 0) then 3 else 0) := Lib.hid (by unfold ackH; rw [hb9])
  clear hsd hm hx hk hp hA hzA hzH h6 hb9
  unfold FR.cs
  have H12 := Lib.hid (rc_12 w x)
  have H21 := Lib.hid (rc_21 w x)
  go_enter Try.func36, Try.ntmps36
  go_upto_region 1 with fail
  go_cut [3, 4] (fun v3 v4 wx => ∃ B1 B2, v3 = .pointer (some ⟨B1, 0, none⟩) ∧ v4 = .pointer (some ⟨B2, 0, none⟩) ∧ RC w x B1 B2 wx)
  case first =>
    go_wp2_with fail
    go_region
    all_goals (go_wp2_with fail; go_meet)
    · exact ⟨_, _, rfl, rfl, H12.out⟩
    · exact ⟨_, _, rfl, rfl, H21.out⟩
  case rest =>
    obtain ⟨B1, B2, rfl, rfl, hrc⟩ := hcut
    clear H12 H21
    have HR := Lib.hid hrc
    have c0 := hrc.box.cell 0
    have c1 := hrc.box.cell 1
    have c2 := hrc.box.cell 2
    have a0 := hrc.ap.cell 0
    have a1 := hrc.ap.cell 1
    have a2 := hrc.ap.cell 2
    have a3 := hrc.ap.cell 3
    have a4 := hrc.ap.cell 4
    have h0 := hrc.hp.cell 0
    have h1 := hrc.hp.cell 1
    have h2 := hrc.hp.cell 2
    have h3 := hrc.hp.cell 3
    have h4 := hrc.hp.cell 4
    have h5 := hrc.hp.cell 5
    simp only [List.getElem?_toArray, List.getElem?_cons_zero, List.getElem?_cons_succ] at c0 c1 c2 a0 a1 a2 a3 a4 h0 h1 h2 h3 h4 h5
    clear hrc
    rw [HK.out] at c2
    have HWi : Hid (∀ n m : Int, wi n m = (decide (0 ≤ n) && decide (n ≤ m))) := Lib.hid (fun _ _ => rfl)
    by_cases n0 : x.tl < 0
    · have HA2 : Hid (ackH x = 2) := Lib.hid (by rw [HA.out, if_pos (by simp only [HWi.out]; simp; omega)])
      go_wp2_with (go_at_call 63; refine (HMc.out _).mono ?_; rintro e w8 ⟨rfl, rfl⟩)
      go_ret
      exact ⟨by rw [HE.out, HA2.out]; rfl, HR.out.lo⟩
    have n0' : decide (x.tl < 0) = false := decide_eq_false n0
    by_cases m0 : 255 < x.tl
    · have HA2 : Hid (ackH x = 2) := Lib.hid (by rw [HA.out, if_pos (by simp only [HWi.out]; simp; omega)])
      go_wp2_with (go_at_call 63; refine (HMc.out _).mono ?_; rintro e w8 ⟨rfl, rfl⟩)
      go_ret
      exact ⟨by rw [HE.out, HA2.out]; rfl, HR.out.lo⟩
    have m0' : decide (255 < x.tl) = false := decide_eq_false m0
    by_cases n1 : x.pr < 0
    · have HA2 : Hid (ackH x = 2) := Lib.hid (by rw [HA.out, if_pos (by simp only [HWi.out]; simp; omega)])
      go_wp2_with (go_at_call 63; refine (HMc.out _).mono ?_; rintro e w8 ⟨rfl, rfl⟩)
      go_ret
      exact ⟨by rw [HE.out, HA2.out]; rfl, HR.out.lo⟩
    have n1' : decide (x.pr < 0) = false := decide_eq_false n1
    by_cases m1 : 255 < x.pr
    · have HA2 : Hid (ackH x = 2) := Lib.hid (by rw [HA.out, if_pos (by simp only [HWi.out]; simp; omega)])
      go_wp2_with (go_at_call 63; refine (HMc.out _).mono ?_; rintro e w8 ⟨rfl, rfl⟩)
      go_ret
      exact ⟨by rw [HE.out, HA2.out]; rfl, HR.out.lo⟩
    have m1' : decide (255 < x.pr) = false := decide_eq_false m1
    by_cases n2 : x.sp < 0
    · have HA2 : Hid (ackH x = 2) := Lib.hid (by rw [HA.out, if_pos (by simp only [HWi.out]; simp; omega)])
      go_wp2_with (go_at_call 63; refine (HMc.out _).mono ?_; rintro e w8 ⟨rfl, rfl⟩)
      go_ret
      exact ⟨by rw [HE.out, HA2.out]; rfl, HR.out.lo⟩
    have n2' : decide (x.sp < 0) = false := decide_eq_false n2
    by_cases m2 : 65535 < x.sp
    · have HA2 : Hid (ackH x = 2) := Lib.hid (by rw [HA.out, if_pos (by simp only [HWi.out]; simp; omega)])
      go_wp2_with (go_at_call 63; refine (HMc.out _).mono ?_; rintro e w8 ⟨rfl, rfl⟩)
      go_ret
      exact ⟨by rw [HE.out, HA2.out]; rfl, HR.out.lo⟩
    have m2' : decide (65535 < x.sp) = false := decide_eq_false m2
    by_cases n3 : x.dp < 0
    · have HA2 : Hid (ackH x = 2) := Lib.hid (by rw [HA.out, if_pos (by simp only [HWi.out]; simp; omega)])
      go_wp2_with (go_at_call 63; refine (HMc.out _).mono ?_; rintro e w8 ⟨rfl, rfl⟩)
      go_ret
      exact ⟨by rw [HE.out, HA2.out]; rfl, HR.out.lo⟩
    have n3' : decide (x.dp < 0) = false := decide_eq_false n3
    by_cases m3 : 65535 < x.dp
    · have HA2 : Hid (ackH x = 2) := Lib.hid (by rw [HA.out, if_pos (by simp only [HWi.out]; simp; omega)])
      go_wp2_with (go_at_call 63; refine (HMc.out _).mono ?_; rintro e w8 ⟨rfl, rfl⟩)
      go_ret
      exact ⟨by rw [HE.out, HA2.out]; rfl, HR.out.lo⟩
    have m3' : decide (65535 < x.dp) = false := decide_eq_false m3
    have HA3 : Hid (ackH x = if b9 = false ∧ (x.sp ≠ 0 ∨ x.dp ≠ 0) then 3 else 0) := Lib.hid (by rw [HA.out, if_neg (by simp only [HWi.out]; simp; omega)])
    clear HA
    cases b9
    case true =>
      go_wp2_with (first | (go_at_call 63; refine (HMc.out _).mono ?_; rintro e w8 ⟨rfl, rfl⟩) | (go_at_call 61; refine (HPd.out _).mono ?_; rintro e w9 ⟨rfl, rfl⟩))
      go_ret
      exact ⟨by rw [HE.out, HA3.out]; rfl, HR.out.lo⟩
    obtain ⟨y1, hy1⟩ : ∃ c, (x.sp != 0) = c := ⟨_, rfl⟩
    obtain ⟨y2, hy2⟩ : ∃ c, (x.dp != 0) = c := ⟨_, rfl⟩
    have HA4 : Hid (ackH x = if (y1 || y2) then 3 else 0) := Lib.hid (by
      rw [HA3.out]
      have e1 : x.sp ≠ 0 ↔ y1 = true := by rw [← hy1]; simp
      have e2 : x.dp ≠ 0 ↔ y2 = true := by rw [← hy2]; simp
      simp only [e1, e2, Bool.or_eq_true, true_and])
    clear HA3
    cases y1
    · cases y2
      · go_wp2_with (first | (go_at_call 63; refine (HMc.out _).mono ?_; rintro e w8 ⟨rfl, rfl⟩) | (go_at_call 61; refine (HPd.out _).mono ?_; rintro e w9 ⟨rfl, rfl⟩))
        go_ret
        exact ⟨by rw [HE.out, HA4.out]; rfl, HR.out.lo⟩
      · go_wp2_with (first | (go_at_call 63; refine (HMc.out _).mono ?_; rintro e w8 ⟨rfl, rfl⟩) | (go_at_call 61; refine (HPd.out _).mono ?_; rintro e w9 ⟨rfl, rfl⟩))
        go_ret
        exact ⟨by rw [HE.out, HA4.out]; rfl, HR.out.lo⟩
    · go_wp2_with (first | (go_at_call 63; refine (HMc.out _).mono ?_; rintro e w8 ⟨rfl, rfl⟩) | (go_at_call 61; refine (HPd.out _).mono ?_; rintro e w9 ⟨rfl, rfl⟩))
      go_ret
      exact ⟨by rw [HE.out, HA4.out]; rfl, HR.out.lo⟩

theorem rcheck_any (x : FR) (hx : x.ty) (w : World) : Calls Try.prog 36 #[.agg x.cs] w fun e w' => e = .returned (.int .i64 (fchk x)) ∧ Below w.heap.size w w' := by
  by_cases hsd : big x.s = true ∨ big x.d = true
  · exact rchk_big x hx hsd w
  cases hm : mc x.s
  · by_cases hk : x.k < 0 ∨ 2 < x.k
    · exact rchk_kind x hx hsd hm hk w
    by_cases hp : perr x = 0
    · rcases perr_k hp with h | h | h
      · exact rchk_ok0 x hx hsd hm h hp w
      · exact rchk_ok1 x hx hsd hm h hp w
      · exact rchk_ok2 x hx hsd hm h hp w
    have hbad : (x.k ≠ 1 ∧ x.sameA fr0 = false) ∨ (x.k ≠ 2 ∧ x.sameH fr0 = false) := by
      by_cases h : (x.k ≠ 1 ∧ x.sameA fr0 = false) ∨ (x.k ≠ 2 ∧ x.sameH fr0 = false)
      · exact h
      · exact absurd (by unfold perr; rw [if_neg hk, if_neg h]) hp
    have h3 : x.k = 0 ∨ x.k = 1 ∨ x.k = 2 := by omega
    rcases h3 with h | h | h
    · exact rchk_bad0 x hx hsd hm h (by rcases hbad with h | h; exact .inl h.2; exact .inr h.2) w
    · exact rchk_bad1 x hx hsd hm h (by rcases hbad with h2 | h2; exact absurd h h2.1; exact h2.2) w
    · exact rchk_bad2 x hx hsd hm h (by rcases hbad with h2 | h2; exact h2.2; exact absurd h h2.1) w
  · exact rchk_mc x hx hsd hm w

end Go.Proofs.Ytgdfpmnbofnjfaa
