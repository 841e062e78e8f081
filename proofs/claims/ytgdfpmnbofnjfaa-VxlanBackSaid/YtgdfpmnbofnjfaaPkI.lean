/- Packets: the document's put, and appends; written by gen_pki.py. -/
import Derived.Test.YtgdfpmnbofnjfaaPkF
import Derived.Deep.DeepAppendRoom
import Derived.Great.BuildSlice
namespace Go.Proofs.Ytgdfpmnbofnjfaa
open Go.RowKit Go.Shelf
set_option linter.unusedVariables false
set_option linter.unusedSimpArgs false
set_option maxRecDepth 100000

theorem be_take_succ (v : Int) (n k : Nat) (hk : k < n) : (be v n).take (k + 1) = (be v n).take k ++ [v / 256 ^ (n - 1 - k) % 256] := by
  rw [List.take_succ_eq_append_getElem (by rw [be_length]; exact hk)]
  congr 1
  congr 1
  induction n generalizing k with
  | zero => omega
  | succ n ih =>
    cases k with
    | zero => simp [be]
    | succ k =>
      simp only [be, List.getElem_cons_succ]
      rw [ih k (by omega)]
      congr 3
      omega


theorem news_block {w : World} {t : TypeId} {x : Value} : ∀ j u, [x][j]? = some u → (w.alloc (.cells #[x] t)).cell? ((⟨w.heap.size, 0, none⟩ : Addr).add j) = some u := by
  intro j u hu
  obtain ⟨hj, rfl⟩ := List.getElem?_eq_some_iff.1 hu
  simp only [List.length_singleton] at hj
  obtain rfl : j = 0 := by omega
  simp [Addr.add]

theorem own_form {W : World} {base size k : Nat} {e : TypeId} {v : Value} {xs : List Value} (h : W.ownsRow base e size v k xs) : ∃ A c, v = .slice A k c := by
  rcases h.2 with ⟨rfl, rfl⟩ | ⟨g, cap, cur, rfl, _⟩
  · exact ⟨none, 0, rfl⟩
  · exact ⟨_, cap, rfl⟩
theorem wr64 (n : Int) (h : 0 ≤ n) (h2 : n < 18446744073709551616) : IntKind.u64.wrap n = n := by
  have e : IntKind.u64.wrap n = n % 18446744073709551616 := by rfl
  rw [e]; omega
def Lz (w : World) (l : List Nat) (v : Value) (xs : List Int) : Prop := (v = .slice none 0 0 ∧ xs = []) ∨ ∃ b o c, v = .slice (some ⟨b, o, none⟩) xs.length c ∧ b ∉ l ∧ b < w.heap.size ∧ Sl w b o xs
section
variable {w w' : World} {l l' : List Nat} {v : Value} {xs : List Int}
theorem Next.cell (h : Next w l w' l') {b o : Nat} (hb : b ∉ l) (hlt : b < w.heap.size) : w'.cell? ⟨b, o, none⟩ = w.cell? ⟨b, o, none⟩ := by
  have hbk := h.1.block b hlt hb
  simp only [World.cell?, hbk]
theorem Next.far (h : Next w l w' l') {b : Nat} (hb : b ∉ l) (hlt : b < w.heap.size) : b ∉ l' := fun hk => by
  rcases h.2 b hk with h1 | h1
  · exact hb h1
  · omega
theorem Lz.next (h : Lz w l v xs) (hn : Next w l w' l') : Lz w' l' v xs := by
  rcases h with h | ⟨b, o, c, h1, h2, h3, h4⟩
  · exact .inl h
  · exact .inr ⟨b, o, c, h1, hn.far h2 h3, Nat.lt_of_lt_of_le h3 hn.1.size, fun j hj => (hn.cell h2 h3).trans (h4 j hj)⟩
theorem Next.of_below (hb : Below w.heap.size w w') (l : List Nat) : Next w l w' l := ⟨turn_below hb l, fun k hk => .inl hk⟩
end
/-- A slice of bytes of the call's own, and the block it lies in. -/
def O5 (w : World) (l : List Nat) (v : Value) (xs : List Int) : Prop := w.ownsRow 0 5 1 v xs.length (u8s xs) ∧ l = v.ownBlock.toList
theorem O5.nil (w : World) : O5 w [] (.slice none 0 0) [] := ⟨World.ownsRow_nil _ _ _ _, rfl⟩
theorem O5.form {w : World} {l : List Nat} {v : Value} {xs : List Int} (h : O5 w l v xs) : ∃ A c, v = .slice A xs.length c := own_form h.1
theorem O5.lt {w : World} {l : List Nat} {v : Value} {xs : List Int} (h : O5 w l v xs) : ∀ k ∈ l, k < w.heap.size := fun k hk => by
  have h2 := h.1.lt k (by rw [h.2] at hk; simpa using hk)
  exact h2.2
theorem O5.turn {w w' : World} {l l2 : List Nat} {v : Value} {xs : List Int} (h : O5 w l v xs) (ht : Turn l2 w w') (hn : ∀ k ∈ l, k ∉ l2) : O5 w' l v xs := by
  refine ⟨⟨h.1.1, ?_⟩, h.2⟩
  rcases h.1.2 with h1 | ⟨g, cap, cur, h1, h2, h3, h4⟩
  · exact .inl h1
  · have hg : g ∈ l := by rw [h.2, h1]; simp [Value.ownBlock]
    exact .inr ⟨g, cap, cur, h1, h2, (ht.block g (h.lt g hg) (hn g hg)).trans h3, h4⟩
theorem O5.below {w w' : World} {l : List Nat} {v : Value} {xs : List Int} (h : O5 w l v xs) (hb : Below w.heap.size w w') : O5 w' l v xs := h.turn (turn_below hb []) (by simp)

theorem u8s_app (xs ys : List Int) : u8s (xs ++ ys) = u8s xs ++ u8s ys := by simp [u8s]
theorem turn_own5 {w w' : World} {v : Value} (h : w.grownBy w' v.ownBlock) : Turn v.ownBlock.toList w w' := ⟨h.os, h.tape, h.output, h.size, fun k hk hn => h.block k hk (fun e => hn (by rw [← e]; simp))⟩

theorem run_app5 (ty : TypeId) {w : World} {l : List Nat} {v : Value} {xs : List Int} (h : O5 w l v xs) (a : Addr) (c : Nat) (ys : List Int) (hn : ∀ j u, (u8s ys)[j]? = some u → w.cell? (a.add j) = some u) (hb : xs.length + ys.length ≤ 1000000) :
    ∃ v' w' l', (Builtin.append_ #[40, 40] ty #[v, .slice (some a) ys.length c]).run Try.prog w = .ok v' w' ∧ O5 w' l' v' (xs ++ ys) ∧ Next w l w' l' := by
  obtain ⟨i0, hi0, hz0, hz1, hz2⟩ := info_parts info_u8
  obtain ⟨ho, rfl⟩ := h
  have hone : ∀ u ∈ u8s ys, u.oneCell' = true := by simp [u8s, Value.oneCell']
  have hyl : (u8s ys).length = ys.length * 1 := by simp [u8s]
  have hnz : (Value.int .u8 0).cells.size = 1 := rfl
  rcases ho.2 with ⟨rfl, hx⟩ | ⟨g, cap, cur, rfl, hbg, hg, hnc, hcm, hcs, htk⟩
  · have hx0 : xs = [] := List.eq_nil_of_length_eq_zero hx
    subst hx0
    obtain ⟨v', w', hr, h2, h3, h4⟩ := run_append_own (P := Try.prog) w w.heap.size 40 ty 5 i0 (.int .u8 0) 1 1 Try.underlying40 hi0 hz0 hz1 hz2 hnz (by decide) (.slice none 0 0) 0 [] (World.ownsRow_nil _ _ _ _) a ys.length c (u8s ys) hyl hn hone (by unfold maxLen; simp at hb; omega) (by simp at hb; omega) (Nat.le_refl _)
    refine ⟨v', w', v'.ownBlock.toList, hr, ⟨⟨?_, ?_⟩, rfl⟩, turn_own5 h3, fun k hk => .inr (h2.lt k (by simpa using hk)).1⟩
    · simp [u8s]
    · rcases h2.2 with q | ⟨g, cap, cur, q1, q2, q3⟩
      · exact .inl (by simpa using q)
      · exact .inr ⟨g, cap, cur, by simpa using q1, Nat.zero_le _, by simpa using q3⟩
  · by_cases hroom : xs.length + ys.length ≤ cap
    · obtain ⟨w', hr, h2, h3⟩ := run_append_own_spare (P := Try.prog) w 0 40 ty 5 i0 1 Try.underlying40 hi0 hz1 g xs.length cap (u8s xs) ho a ys.length c (u8s ys) hyl hn hone hroom
      refine ⟨_, w', [g], hr, ⟨by rw [List.length_append, u8s_app]; exact h2, rfl⟩, turn_own5 (v := .slice (some ⟨g, 0, none⟩) xs.length cap) h3, fun k hk => .inl hk⟩
    · obtain ⟨v', w', hr, h2, h3, h4⟩ := run_append_own (P := Try.prog) w 0 40 ty 5 i0 (.int .u8 0) 1 1 Try.underlying40 hi0 hz0 hz1 hz2 hnz (by decide) _ xs.length (u8s xs) ho a ys.length c (u8s ys) hyl hn hone (by unfold maxLen; omega) (by omega) (Nat.zero_le _)
      have hgr := run_append_grow (P := Try.prog) w 40 ty 5 i0 (.int .u8 0) Try.underlying40 hi0 hz0 ⟨g, 0, none⟩ xs.length cap (u8s xs) (by rw [hz1]; simp [u8s]) (ho.cells (g := g) rfl) a ys.length c (u8s ys) (by rw [hz1]; exact hyl) hn (by omega) (by omega) (growslice_fits (by omega) (by rw [hz2]; omega))
      rw [hr] at hgr
      injection hgr with e1 e2
      refine ⟨v', w', v'.ownBlock.toList, hr, ⟨by rw [List.length_append, u8s_app]; exact h2, rfl⟩, turn_own5 h3, fun k hk => .inr ?_⟩
      rw [e1] at hk
      simp [Value.ownBlock] at hk
      omega
theorem wpList_app5 {ops : Array Oper} {rest : List Oper} {o : Oper} {ac : Act} {Q : Exit → Act → World → Prop} (hgd : o.guard = none) (s x : Operand) (ho : o.op = .call { callee := .builtin .append, args := #[s, x], argTypes := #[40, 40] })
    {w : World} {l : List Nat} {v : Value} {xs : List Int} (h : O5 w l v xs) (hs : ac.eval s = v) (a : Addr) (c : Nat) (ys : List Int) (hx : ac.eval x = .slice (some a) ys.length c) (hn : ∀ j u, (u8s ys)[j]? = some u → w.cell? (a.add j) = some u) (hb : xs.length + ys.length ≤ 1000000) (d : Option Tmp) (hd : o.dst = d)
    (hK : ∀ A' c' w' l', O5 w' l' (.slice A' (xs ++ ys).length c') (xs ++ ys) → Next w l w' l' → wpList Try.prog ops Q rest (ac.put d (.slice A' (xs ++ ys).length c')) w') : wpList Try.prog ops Q (o :: rest) ac w := by
  subst hd
  obtain ⟨v', w', l', hr, h1, h2⟩ := run_app5 o.type h a c ys hn hb
  obtain ⟨A', c', rfl⟩ := h1.form
  refine wpList_plain hgd fun K hK' => ?_
  unfold Oper.wp execOp
  simp only [ho, resolve, invoke, builtin, Sem.run_bind, Sem.run_pure, Result.andThen_ok, List.map_toArray, List.map_cons, List.map_nil, hs, hx, hr]
  exact hK' _ _ (hK A' c' w' l' h1 h2)

/-- More bytes behind. -/
def More5 (w : World) (l : List Nat) (ys : List Int) (e : Ending) (w' : World) : Prop := ∃ A c l', e = .returned (.slice A ys.length c) ∧ O5 w' l' (.slice A ys.length c) ys ∧ Next w l w' l'

set_option maxHeartbeats 1000000 in
theorem rput7 (l : List Nat) (v : Value) (xs : List Int) (n : Int) (k : Nat) (h0 : 0 ≤ n) (h1 : n < 18446744073709551616) (hk : k ≤ 8) (hk1 : 1 ≤ k) (hx : xs.length ≤ 200000) (w : World) (h : O5 w l v xs) :
    Calls Try.prog 35 #[v, .int .u64 n, .int .i64 k] w (More5 w l (xs ++ be n k)) := by
  obtain ⟨A, c, rfl⟩ := h.form
  have HO := Lib.hid h
  clear h
  go_enter Try.func35, Try.ntmps35
  go_wp2_with fail
  go_loopw [0, 7] (fun v i wr => ∃ (j : Nat) (A2 : Option Addr) (c2 : Nat) (l2 : List Nat), j ≤ k ∧ v = .slice A2 (xs ++ (be n k).take j).length c2 ∧ i = .int .i64 ((k : Int) - 1 - (j : Int)) ∧ O5 wr l2 v (xs ++ (be n k).take j) ∧ Next w l wr l2) (fun _ i _ => (intOf i + 1).toNat)
  case atStart => exact ⟨0, A, c, l, Nat.zero_le _, by simp, by go_num, by simpa using HO.out, Next.refl _ _⟩
  case round =>
    obtain ⟨j, A2, c2, l2, hj, rfl, rfl, hou, hnx⟩ := hrel
    obtain ⟨ys, hys⟩ : ∃ ys, xs ++ (be n k).take j = ys := ⟨_, rfl⟩
    have hyl : ys.length = xs.length + j := by rw [← hys]; simp [be_length]; omega
    rw [hys] at hou ⊢
    have HYs := Lib.hid hys
    have HOu := Lib.hid hou
    have HNx := Lib.hid hnx
    clear hys hou hnx
    by_cases hlt : j < k
    · have hstep := be_take_succ n k j hlt
      have e1 : ((k : Int) - 1 - (j : Int)).toNat = k - 1 - j := by omega
      have e2 : (0 : Int) ≤ (k : Int) - 1 - (j : Int) := by omega
      have e3 : IntKind.i64.wrap (8 * ((k : Int) - 1 - (j : Int))) = 8 * ((k : Int) - 1 - (j : Int)) := IntWalk.i64_in _ (by omega)
      have e4 : (0 : Int) ≤ 8 * ((k : Int) - 1 - (j : Int)) := by omega
      have e5 : (8 * ((k : Int) - 1 - (j : Int))).toNat = 8 * (k - 1 - j) := by omega
      obtain ⟨b, hb⟩ : ∃ b, IntKind.u8.wrap (n / 2 ^ (8 * (k - 1 - j))) = b := ⟨_, rfl⟩
      have hb2 : n / 256 ^ (k - 1 - j) % 256 = b := by rw [← hb, pow_eight]; rfl
      rw [hb2] at hstep
      have HSt := Lib.hid hstep
      have HYl := Lib.hid hyl
      clear hb2 hstep hyl
      have hbl : Below wr.heap.size wr (wr.alloc (.cells #[.int .u8 b] 5)) := (Below.refl _ wr).alloc (Nat.le_refl _) _
      have HOk : Hid (O5 (wr.alloc (.cells #[.int .u8 b] 5)) l2 (.slice A2 ys.length c2) ys) := Lib.hid (HOu.out.below hbl)
      have HNk : Hid (Next w l (wr.alloc (.cells #[.int .u8 b] 5)) l2) := Lib.hid (HNx.out.trans (Next.of_below hbl _))
      clear hbl
      go_wp2_with (at_builtin; refine wpList_app5 rfl (.tmp 14) (.tmp 20) rfl HOk.out rfl ⟨wr.heap.size, 0, none⟩ 1 [b] rfl (by simpa [u8s] using news_block) (by rw [HYl.out]; simp; omega) (some 21) rfl ?_; intro A3 c3 w2 l3 ho3 hn3; have HO3 := Lib.hid ho3; have HN3 : Hid (Next w l w2 l3) := Lib.hid (HNk.out.trans hn3); clear ho3 hn3)
      go_roundw
      case rel =>
        have e9 : xs ++ (be n k).take (j + 1) = ys ++ [b] := by rw [HSt.out, ← HYs.out, List.append_assoc]
        refine ⟨j + 1, A3, c3, l3, by omega, by rw [e9, List.length_append]; rfl, by go_num, ?_, HN3.out⟩
        rw [e9]
        have h := HO3.out
        rw [List.length_append] at h
        exact h
      case measure => simp [intOf]; omega
    · have hjk : j = k := by omega
      subst hjk
      have ez : ((j : Int) - 1 - (j : Int)) = -1 := by omega
      have HF : Hid (xs ++ be n j = ys) := Lib.hid (by rw [← HYs.out, List.take_of_length_le (by simp [be_length])])
      clear hyl
      go_wp2_with fail
      go_ret
      refine ⟨A2, c2, l2, ?_, ?_, HNx.out⟩
      · rw [HF.out]; rfl
      · rw [HF.out]; exact HOu.out
theorem Lz.form {w : World} {l : List Nat} {v : Value} {xs : List Int} (h : Lz w l v xs) : ∃ A c, v = .slice A xs.length c := by
  rcases h with ⟨h, h0⟩ | ⟨b, o, c, h, _⟩
  · exact ⟨none, 0, by rw [h, h0]; rfl⟩
  · exact ⟨_, c, h⟩
theorem app_none (ty : TypeId) {w : World} {l : List Nat} {v : Value} {xs : List Int} (h : O5 w l v xs) : ∃ v' w', (Builtin.append_ #[40, 40] ty #[v, .slice none 0 0]).run Try.prog w = .ok v' w' ∧ O5 w' l v' xs ∧ Below w.heap.size w w' := by
  obtain ⟨i0, hi0, hz0, hz1, hz2⟩ := info_parts info_u8
  rcases h.1.2 with ⟨rfl, hx⟩ | ⟨g, cap, cur, rfl, hbg, hg, hnc, hcm, hcs, htk⟩
  · refine ⟨_, w, ?_, h, Below.refl _ _⟩
    simp [Builtin.append_, run_underlying Try.underlying40, sizeOf, typeInfo, hi0, Builtin.lenOf, Builtin.firstCells, loadCells, loadCellsFrom]
  · refine ⟨_, w, ?_, h, Below.refl _ _⟩
    simp [Builtin.append_, run_underlying Try.underlying40, sizeOf, typeInfo, hi0, Builtin.lenOf, Builtin.firstCells, loadCells, loadCellsFrom, storeCells, hnc]
theorem run_app5z (ty : TypeId) {w : World} {l : List Nat} {v x : Value} {xs V : List Int} (h : O5 w l v xs) (hv : Lz w l x V) (hb : xs.length + V.length ≤ 1000000) :
    ∃ v' w' l', (Builtin.append_ #[40, 40] ty #[v, x]).run Try.prog w = .ok v' w' ∧ O5 w' l' v' (xs ++ V) ∧ Next w l w' l' := by
  rcases hv with ⟨rfl, rfl⟩ | ⟨b, o, c, rfl, h1, h2, h3⟩
  · obtain ⟨v', w', q1, q2, q3⟩ := app_none ty h
    exact ⟨v', w', l, q1, by rw [List.append_nil]; exact q2, Next.of_below q3 l⟩
  · refine run_app5 ty h ⟨b, o, none⟩ c V (fun j u hu => ?_) hb
    obtain ⟨hj, rfl⟩ := List.getElem?_eq_some_iff.1 hu
    have hj' : j < V.length := by simpa [u8s] using hj
    have h4 := h3 j hj'
    rw [Addr.add_lit]
    simpa [u8s] using h4
theorem wpList_app5z {ops : Array Oper} {rest : List Oper} {o : Oper} {ac : Act} {Q : Exit → Act → World → Prop} (hgd : o.guard = none) (s x : Operand) (ho : o.op = .call { callee := .builtin .append, args := #[s, x], argTypes := #[40, 40] })
    {w : World} {l : List Nat} {v y : Value} {xs V : List Int} (h : O5 w l v xs) (hs : ac.eval s = v) (hv : Lz w l y V) (hx : ac.eval x = y) (hb : xs.length + V.length ≤ 1000000) (d : Option Tmp) (hd : o.dst = d)
    (hK : ∀ A' c' w' l', O5 w' l' (.slice A' (xs ++ V).length c') (xs ++ V) → Next w l w' l' → wpList Try.prog ops Q rest (ac.put d (.slice A' (xs ++ V).length c')) w') : wpList Try.prog ops Q (o :: rest) ac w := by
  subst hd
  obtain ⟨v', w', l', hr, h1, h2⟩ := run_app5z o.type h hv hb
  obtain ⟨A', c', rfl⟩ := h1.form
  refine wpList_plain hgd fun K hK' => ?_
  unfold Oper.wp execOp
  simp only [ho, resolve, invoke, builtin, Sem.run_bind, Sem.run_pure, Result.andThen_ok, List.map_toArray, List.map_cons, List.map_nil, hs, hx, hr]
  exact hK' _ _ (hK A' c' w' l' h1 h2)
theorem news5 {w : World} {t : TypeId} {C : Array Value} : ∀ j u, C.toList[j]? = some u → (w.alloc (.cells C t)).cell? ((⟨w.heap.size, 0, none⟩ : Addr).add j) = some u := fun j u h => by
  rw [Addr.add_lit, Nat.zero_add, (Has.new w t C).cell, ← Array.getElem?_toList]
  exact h
theorem rput7_2 (l : List Nat) (v : Value) (xs : List Int) (n : Int) (h : 0 ≤ n ∧ n < 18446744073709551616) (hx : xs.length ≤ 200000) (w : World) (ho : O5 w l v xs) : Calls Try.prog 35 #[v, .int .u64 n, .int .i64 2] w (More5 w l (xs ++ be n 2)) := rput7 l v xs n 2 h.1 h.2 (by omega) (by omega) hx w ho
theorem rput7_4 (l : List Nat) (v : Value) (xs : List Int) (n : Int) (h : 0 ≤ n ∧ n < 18446744073709551616) (hx : xs.length ≤ 200000) (w : World) (ho : O5 w l v xs) : Calls Try.prog 35 #[v, .int .u64 n, .int .i64 4] w (More5 w l (xs ++ be n 4)) := rput7 l v xs n 4 h.1 h.2 (by omega) (by omega) hx w ho
theorem rput7_6 (l : List Nat) (v : Value) (xs : List Int) (n : Int) (h : 0 ≤ n ∧ n < 18446744073709551616) (hx : xs.length ≤ 200000) (w : World) (ho : O5 w l v xs) : Calls Try.prog 35 #[v, .int .u64 n, .int .i64 6] w (More5 w l (xs ++ be n 6)) := rput7 l v xs n 6 h.1 h.2 (by omega) (by omega) hx w ho
theorem rput7_8 (l : List Nat) (v : Value) (xs : List Int) (n : Int) (h : 0 ≤ n ∧ n < 18446744073709551616) (hx : xs.length ≤ 200000) (w : World) (ho : O5 w l v xs) : Calls Try.prog 35 #[v, .int .u64 n, .int .i64 8] w (More5 w l (xs ++ be n 8)) := rput7 l v xs n 8 h.1 h.2 (by omega) (by omega) hx w ho
end Go.Proofs.Ytgdfpmnbofnjfaa
