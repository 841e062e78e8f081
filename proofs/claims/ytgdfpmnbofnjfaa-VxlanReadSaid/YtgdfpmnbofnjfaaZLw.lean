/- Writers by the list of their blocks; the examples of the chapter. -/
import Derived.Test.YtgdfpmnbofnjfaaZWr
import Derived.Test.YtgdfpmnbofnjfaaZRd
import Derived.Laws.BytesArg
import Derived.Deep.SlicePairs
import Derived.ChangeSlices
import Derived.ChangeSame
import Derived.WideKeyArgs
import Derived.OpenShut
namespace Go.Proofs.Ytgdfpmnbofnjfaa
open Go.RowKit Go.Maps
set_option maxRecDepth 100000
set_option linter.unusedVariables false

/-- A writer at block g whose blocks are these. -/
def WrL (w : World) (l : List Nat) (g : Nat) (s : WS) : Prop := ∃ A c b n, l = g :: b :: blkOf A ∧ Wr w g A c b n s

/-- Nothing but what is listed has turned; what is listed now was listed, or is new. -/
def Next (w : World) (l : List Nat) (w' : World) (l' : List Nat) : Prop := Turn l w w' ∧ ∀ k ∈ l', k ∈ l ∨ w.heap.size ≤ k

theorem WrL.turn {w w' : World} {l l2 : List Nat} {g : Nat} {s : WS} (h : WrL w l g s) (ht : Turn l2 w w') (hn : ∀ k ∈ l, k ∉ l2) : WrL w' l g s := by
  obtain ⟨A, c, b, n, rfl, hw⟩ := h
  exact ⟨A, c, b, n, rfl, hw.turn ht hn⟩
theorem WrL.below {w w' : World} {l : List Nat} {g : Nat} {s : WS} (h : WrL w l g s) (hb : Below w.heap.size w w') : WrL w' l g s := h.turn (turn_below hb []) (by simp)
theorem WrL.lt {w : World} {l : List Nat} {g : Nat} {s : WS} (h : WrL w l g s) : ∀ k ∈ l, k < w.heap.size := by
  obtain ⟨A, c, b, n, rfl, hw⟩ := h
  exact hw.lt
theorem Wrote.next {w : World} {g : Nat} {A : Option Addr} {b n : Nat} {s2 : WS} {r : Int} {e : Ending} {w' : World} (h : Wrote w g A b n s2 r e w') : e = .returned (.int .i64 r) ∧ ∃ l', WrL w' l' g s2 ∧ Next w (g :: b :: blkOf A) w' l' := by
  obtain ⟨A2, c2, he, hw, ht, hn⟩ := h
  refine ⟨he, _, ⟨A2, c2, b, n, rfl, hw⟩, ht, fun k hk => ?_⟩
  simp only [List.mem_cons] at hk ⊢
  rcases hk with hk | hk | hk
  · exact .inl (.inl hk)
  · exact .inl (.inr (.inl hk))
  · rcases hn k hk with h1 | h1
    · exact .inl (.inr (.inr h1))
    · exact .inr h1
theorem Wrote2.next {w : World} {g : Nat} {A : Option Addr} {b : Nat} {s2 : WS} {x r : Int} {e : Ending} {w' : World} (h : Wrote2 w g A b s2 x r e w') : e = .returned (.tuple #[.int .i64 x, .int .i64 r]) ∧ ∃ l', WrL w' l' g s2 ∧ Next w (g :: b :: blkOf A) w' l' := by
  obtain ⟨A2, c2, n2, he, hw, ht, hn⟩ := h
  refine ⟨he, _, ⟨A2, c2, b, n2, rfl, hw⟩, ht, fun k hk => ?_⟩
  simp only [List.mem_cons] at hk ⊢
  rcases hk with hk | hk | hk
  · exact .inl (.inl hk)
  · exact .inl (.inr (.inl hk))
  · rcases hn k hk with h1 | h1
    · exact .inl (.inr (.inr h1))
    · exact .inr h1

theorem Next.refl (w : World) (l : List Nat) : Next w l w l := ⟨Turn.refl _ _, fun _ h => .inl h⟩
theorem Next.trans {a b c : World} {l m n : List Nat} (h : Next a l b m) (k : Next b m c n) : Next a l c n :=
  ⟨h.1.then_ k.1 h.2, fun x hx => by
    rcases k.2 x hx with h1 | h1
    · exact h.2 x h1
    · exact .inr (Nat.le_trans h.1.size h1)⟩
theorem Next.below {a b : World} {l m : List Nat} {B : Nat} (h : Next a l b m) (hl : ∀ k ∈ l, B ≤ k) (hB : B ≤ a.heap.size) : Below B a b ∧ (∀ k ∈ m, B ≤ k) :=
  ⟨h.1.below hl hB, fun k hk => by
    rcases h.2 k hk with h1 | h1
    · exact hl k h1
    · omega⟩

theorem wnewL (lim : Nat) (h : lim ≤ 65536) (w : World) :
    Calls Try.prog 51 #[.int .i64 lim] w fun e w' => ∃ g l, e = .returned (.tuple #[.pointer (some ⟨g, 0, none⟩), .int .i64 0]) ∧ WrL w' l g ⟨lim, [], []⟩ ∧ (∀ k ∈ l, w.heap.size ≤ k) ∧ Below w.heap.size w w' := by
  refine (wnew lim h w).mono ?_
  rintro e w' ⟨g, b, rfl, hg, hb, hw, hB⟩
  exact ⟨g, _, rfl, ⟨none, 0, b, 0, rfl, hw⟩, by simp [blkOf]; omega, hB⟩

theorem wU1L (g : Nat) (l : List Nat) (s : WS) (w : World) (H : WrL w l g s) (v : Int) (h0 : 0 ≤ v) (h1 : v < 18446744073709551616) :
    Calls Try.prog 65 #[.pointer (some ⟨g, 0, none⟩), .int .u64 v] w fun e w' => e = .returned (.int .i64 (s.put v 1).1) ∧ ∃ l', WrL w' l' g (s.put v 1).2 ∧ Next w l w' l' := by
  obtain ⟨A, c, b, n, rfl, hw⟩ := H
  exact (wU1 _ _ _ _ _ _ _ hw v h0 h1).mono fun _ _ h => h.next

theorem wU2L (g : Nat) (l : List Nat) (s : WS) (w : World) (H : WrL w l g s) (v : Int) (h0 : 0 ≤ v) (h1 : v < 18446744073709551616) :
    Calls Try.prog 53 #[.pointer (some ⟨g, 0, none⟩), .int .u64 v] w fun e w' => e = .returned (.int .i64 (s.put v 2).1) ∧ ∃ l', WrL w' l' g (s.put v 2).2 ∧ Next w l w' l' := by
  obtain ⟨A, c, b, n, rfl, hw⟩ := H
  exact (wU2 _ _ _ _ _ _ _ hw v h0 h1).mono fun _ _ h => h.next

theorem wU3L (g : Nat) (l : List Nat) (s : WS) (w : World) (H : WrL w l g s) (v : Int) (h0 : 0 ≤ v) (h1 : v < 18446744073709551616) :
    Calls Try.prog 77 #[.pointer (some ⟨g, 0, none⟩), .int .u64 v] w fun e w' => e = .returned (.int .i64 (s.put v 3).1) ∧ ∃ l', WrL w' l' g (s.put v 3).2 ∧ Next w l w' l' := by
  obtain ⟨A, c, b, n, rfl, hw⟩ := H
  exact (wU3 _ _ _ _ _ _ _ hw v h0 h1).mono fun _ _ h => h.next

theorem wU4L (g : Nat) (l : List Nat) (s : WS) (w : World) (H : WrL w l g s) (v : Int) (h0 : 0 ≤ v) (h1 : v < 18446744073709551616) :
    Calls Try.prog 64 #[.pointer (some ⟨g, 0, none⟩), .int .u64 v] w fun e w' => e = .returned (.int .i64 (s.put v 4).1) ∧ ∃ l', WrL w' l' g (s.put v 4).2 ∧ Next w l w' l' := by
  obtain ⟨A, c, b, n, rfl, hw⟩ := H
  exact (wU4 _ _ _ _ _ _ _ hw v h0 h1).mono fun _ _ h => h.next

theorem wU6L (g : Nat) (l : List Nat) (s : WS) (w : World) (H : WrL w l g s) (v : Int) (h0 : 0 ≤ v) (h1 : v < 18446744073709551616) :
    Calls Try.prog 52 #[.pointer (some ⟨g, 0, none⟩), .int .u64 v] w fun e w' => e = .returned (.int .i64 (s.put v 6).1) ∧ ∃ l', WrL w' l' g (s.put v 6).2 ∧ Next w l w' l' := by
  obtain ⟨A, c, b, n, rfl, hw⟩ := H
  exact (wU6 _ _ _ _ _ _ _ hw v h0 h1).mono fun _ _ h => h.next

theorem wU8L (g : Nat) (l : List Nat) (s : WS) (w : World) (H : WrL w l g s) (v : Int) (h0 : 0 ≤ v) (h1 : v < 18446744073709551616) :
    Calls Try.prog 54 #[.pointer (some ⟨g, 0, none⟩), .int .u64 v] w fun e w' => e = .returned (.int .i64 (s.put v 8).1) ∧ ∃ l', WrL w' l' g (s.put v 8).2 ∧ Next w l w' l' := by
  obtain ⟨A, c, b, n, rfl, hw⟩ := H
  exact (wU8 _ _ _ _ _ _ _ hw v h0 h1).mono fun _ _ h => h.next

theorem woutL (g : Nat) (l : List Nat) (s : WS) (w : World) (H : WrL w l g s) :
    Calls Try.prog 55 #[.pointer (some ⟨g, 0, none⟩)] w fun e w' => (∃ v, e = .returned v ∧ Copied w' w.heap.size v s.out) ∧ Below w.heap.size w w' := by
  obtain ⟨A, c, b, n, rfl, hw⟩ := H
  exact wout _ _ _ _ _ _ _ hw

/-- A copy as a string. -/
theorem copied_string {w : World} {base : Nat} {v : Value} {xs : List Int} (h : Copied w base v xs) : (convert 40 9 v).run Try.prog w = .ok (.string (strOfNums xs)) w := by
  rcases h with ⟨rfl, rfl⟩ | ⟨h, c, rfl, hr, _⟩
  · exact run_convert_bytes_nil w 40 5 Try.underlying40 Try.underlying5 0 0 9 Try.underlying9
  · exact run_convert_bytes_arg w 40 5 Try.underlying40 Try.underlying5 h 0 xs.length c xs rfl (fun i hi => by
      rw [Nat.zero_add, hr.cell i hi]
      simp [List.getD, hi]) 9 Try.underlying9

theorem p16 : (WS.put ⟨100, [], []⟩ 258 2) = (0, ⟨100, [1, 2], []⟩) := by simp [WS.put, be]
theorem p24 : (WS.put ⟨100, [1, 2], []⟩ 1 3) = (0, ⟨100, [1, 2, 0, 0, 1], []⟩) := by simp [WS.put, be]
theorem p8 : (WS.put ⟨100, [1, 2, 0, 0, 1], []⟩ 256 1) = (2, ⟨100, [1, 2, 0, 0, 1], []⟩) := by simp [WS.put]

theorem t16 : (RS.take ⟨[1, 2, 3], 0, 0, 0, 0⟩ 2) = (some [1, 2], ⟨[1, 2, 3], 0, 2, 0, 0⟩) := by simp [RS.take]
theorem t16' : (RS.take ⟨[1, 2, 3], 0, 2, 0, 0⟩ 2) = (none, ⟨[1, 2, 3], 0, 2, 4, 2⟩) := by simp [RS.take]
theorem t8' : (RS.take ⟨[1, 2, 3], 0, 2, 4, 2⟩ 1) = (none, ⟨[1, 2, 3], 0, 2, 4, 2⟩) := by simp [RS.take]

end Go.Proofs.Ytgdfpmnbofnjfaa

namespace Go.Proofs.Ytgdfpmnbofnjfaa
open Go.RowKit Go.Maps
set_option maxRecDepth 100000
set_option linter.unusedVariables false

theorem pick_eq (i n : Int) (hn : 0 < n) : (if i.tmod n < 0 then i.tmod n + n else i.tmod n) = i % n := by
  have h1 := Int.emod_nonneg i (show n ≠ 0 by omega)
  have h2 := Int.emod_lt_of_pos i hn
  have h3 := Int.tmod_eq_emod (a := i) (b := n)
  rw [h3]
  have h4 : (n.natAbs : Int) = n := by omega
  by_cases hc : 0 ≤ i ∨ n ∣ i
  · rw [if_pos hc, if_neg (by omega)]
    omega
  · rw [if_neg hc, h4, if_pos (by omega)]
    omega

theorem tmod_bd (i n : Int) (hn : 0 < n) : -n < i.tmod n ∧ i.tmod n < n := by
  have h1 := Int.emod_nonneg i (show n ≠ 0 by omega)
  have h2 := Int.emod_lt_of_pos i hn
  rw [Int.tmod_eq_emod]
  have h4 : (n.natAbs : Int) = n := by omega
  by_cases hc : 0 ≤ i ∨ n ∣ i
  · rw [if_pos hc]; omega
  · rw [if_neg hc, h4]
    have h5 : i % n ≠ 0 := fun h => hc (.inr (Int.dvd_of_emod_eq_zero h))
    omega

theorem pick_any (i n : Int) (hn : 0 < n) (hn2 : n ≤ 1000000000) (w : World) :
    Calls Try.prog 22 #[.int .i64 i, .int .i64 n] w fun e w' => e = .returned (.int .i64 (i % n)) ∧ w = w' := by
  have hp := pick_eq i n hn
  have hb := tmod_bd i n hn
  obtain ⟨b0, b1⟩ := hb
  have hn0 : (n == 0) = false := by simp; omega
  by_cases hc : i.tmod n < 0
  · rw [if_pos hc] at hp
    have HP := Lib.hid hp
    clear hp
    go_enter Try.func22, Try.ntmps22
    go_wp2
    go_ret
    exact ⟨by rw [← HP.out]; rfl, rfl⟩
  · rw [if_neg hc] at hp
    have HP := Lib.hid hp
    have hc0 : 0 ≤ i.tmod n := by omega
    clear hp hc
    go_enter Try.func22, Try.ntmps22
    go_wp2
    go_ret
    exact ⟨by rw [← HP.out]; rfl, rfl⟩

/-- A slice that reads as these bytes. -/
def Arr (w : World) (v : Value) (xs : List Int) : Prop := (v = .slice none 0 0 ∧ xs = []) ∨ ∃ ad c, v = .slice (some ad) xs.length c ∧ Cel w ad xs

theorem Arr.below {w w' : World} {v : Value} {xs : List Int} (h : Arr w v xs) (hb : Below w.heap.size w w') : Arr w' v xs := by
  rcases h with h | ⟨ad, c, h1, h2⟩
  · exact .inl h
  · exact .inr ⟨ad, c, h1, h2.below hb⟩
theorem Got.arr {w : World} {base : Nat} {v : Value} {xs : List Int} (h : Got w base v xs) : Arr w v xs := by
  rcases h with h | ⟨h', c', h1, h2, h3⟩
  · exact .inl h
  · exact .inr ⟨_, c', h1, h2.all.at_⟩
theorem Copied.got {w : World} {base : Nat} {v : Value} {xs : List Int} (h : Copied w base v xs) : Got w base v xs := h
theorem Arr.form {w : World} {v : Value} {xs : List Int} (h : Arr w v xs) : ∃ A c, v = .slice A xs.length c := by
  rcases h with ⟨rfl, rfl⟩ | ⟨ad, c, h1, h2⟩
  · exact ⟨none, 0, rfl⟩
  · exact ⟨_, c, h1⟩

/-- Where there are bytes, the address is plain. -/
theorem Cel.plain {w : World} {ad : Addr} {xs : List Int} (h : Cel w ad xs) (hn : 0 < xs.length) : ∃ b o, ad = ⟨b, o, none⟩ ∧ Sl w b o xs := by
  obtain ⟨b, o, spot⟩ := ad
  have h0 := h 0 (.int .u8 xs[0]) (by simp [hn])
  have hspot : spot = none := by simpa [Addr.add] using World.cell?_spot h0
  subst hspot
  refine ⟨b, o, rfl, fun j hj => ?_⟩
  have h1 := h j (.int .u8 xs[j]) (by simp [hj])
  unfold Addr.add at h1
  by_cases hj0 : j = 0
  · subst hj0
    simpa using h1
  · rw [if_neg hj0] at h1
    exact h1

theorem rnewA (v : Value) (xs : List Int) (w : World) (h : Arr w v xs) (hm : xs.length ≤ 1000000) (hx : ∀ v ∈ xs, 0 ≤ v ∧ v ≤ 255) :
    Calls Try.prog 43 #[v] w fun e w' => ∃ g' h' c', e = .returned (.pointer (some ⟨g', 0, none⟩)) ∧ w.heap.size ≤ g' ∧ w.heap.size ≤ h' ∧ RdS w' g' h' c' ⟨xs, 0, 0, 0, 0⟩ ∧ Below w.heap.size w w' := by
  rcases h with ⟨rfl, rfl⟩ | ⟨ad, c, rfl, h2⟩
  · exact rnew_nil w
  · exact rnew ad _ c xs rfl hm w h2 hx

theorem own_any (v : Value) (xs : List Int) (w : World) (h : Arr w v xs) (hm : xs.length ≤ 1000000) :
    Calls Try.prog 13 #[v] w fun e w' => (∃ h' c', e = .returned (.slice (some ⟨h', 0, none⟩) xs.length c') ∧ Row w' h' c' xs ∧ w.heap.size ≤ h') ∧ Below w.heap.size w w' := by
  rcases h with ⟨rfl, rfl⟩ | ⟨ad, c, rfl, hc⟩
  · go_enter Try.func13, Try.ntmps13
    go_wp2
    go_ret
    exact ⟨⟨w.heap.size, 0, rfl, ⟨#[], Has.new w 5 #[], rfl, rfl, Nat.le_refl _, by simp⟩, Nat.le_refl _⟩, (Below.refl _ w).alloc (Nat.le_refl _) _⟩
  · obtain ⟨i0, hi, hz0, hz1, hz2⟩ := info_parts info_u8
    have hc1 := hc.below ((Below.refl _ w).alloc (Nat.le_refl _) (.cells #[] 5))
    have HL : Hid ((u8s xs).length = xs.length * 1) := Lib.hid (by simp)
    have HC := Lib.hid hc1
    clear hc hc1
    go_enter Try.func13, Try.ntmps13
    go_wp2_with (at_builtin; refine wpList_append_own _ rfl _ _ 40 rfl w.heap.size 5 i0 (.int .u8 0) 1 1 Try.underlying40 hi hz0 hz1 hz2 rfl (by decide) _ 0 [] rfl (own_new w) ad xs.length c (u8s xs) rfl HL.out HC.out (u8s_one xs) (by unfold maxLen; omega) (by omega) (by simp) ?_)
    intro v' w1 hown hgrow hnil
    have hbel : Below w.heap.size w w1 := below_only ((Below.refl _ w).alloc (Nat.le_refl _) (.cells #[] 5)) hgrow (Nat.le_refl _) (by simp)
    obtain ⟨g', c', rfl, hb, hr⟩ := own_row hown hnil (by simp)
    clear hown hgrow hnil
    go_wp2
    go_ret
    exact ⟨⟨g', c', by simp, hr, hb⟩, hbel⟩

/-- The sizes of numbers. -/
def sz (k : Nat) : Nat := [1, 2, 3, 4, 6, 8].getD k 8

end Go.Proofs.Ytgdfpmnbofnjfaa

namespace Go.Proofs.Ytgdfpmnbofnjfaa
open Go.RowKit Go.WideShapes Go.ChangeShapes
set_option linter.unusedVariables false
set_option maxRecDepth 100000

theorem laid : laidOutB Try.prog = true := by kernel_rfl

theorem cells_u8 : Try.prog.cellsOf 5 = 1 := by kernel_rfl

section
variable {H : Type} {enc : TypeId × Value → H} {P : Program}

/-- Arguments whose cells have not turned read as they did. -/
theorem all_stay (hl : laidOutB P = true) {W W' : World} {sp : Nat → Bool} : ∀ (ts : List TypeId) (vs : List Value) (ds : List (DataW H)) (ps : List MemPlace), (∀ t ∈ ts, P.readableRec t = true ∧ t < P.types.size) →
    DataW.TrodAll enc P W 0 (fun _ => true) true ts vs ds ps → (∀ p ∈ ps, W.sameAt W' p) → (∀ p ∈ ps, sp p.block = true) → DataW.TrodAll enc P W' 0 sp true ts vs ds ps
  | [], vs, ds, ps, _, h, _, _ => by
    obtain ⟨rfl, rfl, rfl⟩ := trodAll_nil h
    exact trodAll_mk0
  | t :: ts, vs, ds, ps, hts, h, hs, hb => by
    obtain ⟨v, vs', d, ds', p, q, rfl, rfl, rfl, h0, hr⟩ := trodAll_cons h
    obtain ⟨hread, hrow⟩ := hts t (by simp)
    exact trodAll_cons_mk (WideElems.Trod_stays hl hread hrow h0 (fun x hx => hs x (by simp [hx])) (fun x hx => hb x (by simp [hx])))
      (all_stay hl ts vs' ds' q (fun x hx => hts x (by simp [hx])) hr (fun x hx => hs x (by simp [hx])) (fun x hx => hb x (by simp [hx])))

theorem same_below {W W' : World} (hb : Below W.heap.size W W') (p : MemPlace) (hp : p.block < W.heap.size) : W.sameAt W' p := by
  cases p with
  | cell b o => exact hb.cell (p := ⟨b, o, none⟩) hp
  | map b => exact hb.block b hp

/-- The post of a law: it returned what it should, its arguments read as they did, nothing old has turned. -/
theorem post_fine {f : Func} {s : ChangeSpec} {apart fresh handsOn again : Bool} {W W' : World} {args : Array Value} {v : Value} {ds gs : List (DataW H)} {p q : List MemPlace}
    (hl : laidOutB P = true) (hts : ∀ t ∈ f.params.toList, P.readableRec t = true ∧ t < P.types.size)
    (hW : DataW.Whole enc P f.params.toList s.vars apart W args.toList ds gs (p ++ q)) (hA : DataW.TrodAll enc P W 0 (fun _ => true) true f.params.toList args.toList ds p)
    (hq : q = []) (hvs : ∀ sp : Nat → Bool, DataW.TrodVars enc P W' sp s.vars (s.fn H (ds ++ gs)).vars [])
    (hres : ∀ (b : Nat) (sp : Nat → Bool) (hd : Bool), DataW.TrodAll enc P W' b sp hd f.resultTypes.toList (v.resultList f.resultTypes.size) (s.fn H (ds ++ gs)).results [])
    (hsame : (s.fn H (ds ++ gs)).args = ds) (hb : Below W.heap.size W W')
    (hok : ∀ (j : Nat) (t : TypeId) (r : Value), f.resultTypes[j]? = some t → (v.resultList f.resultTypes.size)[j]? = some r → Value.okWide P W' .any 0 t r) :
    s.post enc P f apart fresh handsOn again W args v W' := by
  subst hq
  rw [List.append_nil] at hW
  have hlt : ∀ x ∈ p, x.block < W.heap.size := fun x hx => hW.lt x hx
  have hstay : ∀ sp : Nat → Bool, (∀ x ∈ p, sp x.block = true) → DataW.TrodAll enc P W' 0 sp true f.params.toList args.toList (s.fn H (ds ++ gs)).args p := fun sp hs => by
    rw [hsame]
    exact all_stay hl _ _ _ _ hts hA (fun x hx => same_below hb x (hlt x hx)) hs
  have hold : ∀ x ∈ p, (fun b => decide (b < W.heap.size)) x.block = true := fun x hx => by simpa using hlt x hx
  refine ⟨ds, gs, p, [], p, [], hW, hres _ _ _, hstay _ hold, hvs _, World.keptBut_mono (fun x hx => ⟨hx, .inr (.inl hx)⟩) (hb.frame (· ∈ p)), fun _ => ⟨hok, ?_⟩⟩
  obtain ⟨_, _, _, _, _, hz, hn⟩ := hW
  refine ⟨_, _, ([] ++ p) ++ [], ⟨[] ++ p, [], trodAll_append (hstay _ (fun _ _ => rfl)) (hres _ _ _), hvs _, rfl, ?_, ?_⟩, ?_⟩
  · intro b off hx
    have hin : MemPlace.cell b off ∈ p := by simpa using hx
    rw [hb.frozen (hlt _ hin)]
    exact hz b off hin
  · intro ha
    simpa using hn ha
  · intro x hx _
    simpa using hx

end

section
variable {H : Type} {enc : TypeId × Value → H}

/-- A slice of bytes that came in. -/
theorem open_arr {W : World} {base : Nat} {v : Value} {d : DataW H} {p : List MemPlace} (hv : Value.okWide Try.prog W .any base 40 v) (h : DataW.Trod enc Try.prog W 0 (fun _ => true) true 40 v d p) :
    ∃ xs A c, v = .slice A xs.length c ∧ Arr W v xs ∧ (∀ u ∈ xs, 0 ≤ u ∧ u ≤ 255) ∧ xs.length ≤ maxLen := by
  obtain ⟨A, n, c, rfl⟩ := okWide_slice Try.underlying40 hv
  obtain ⟨fuel, hf⟩ := h
  rcases open_ints Try.underlying40 Try.underlying5 cells_u8 hf with ⟨hcs, _⟩ | ⟨a, len, cap, zs, hcs, _, hl, hm, hz, _, hcell, hwf⟩
  · simp [Value.cells] at hcs
    obtain ⟨rfl, rfl, rfl⟩ := hcs
    exact ⟨[], none, 0, rfl, .inl ⟨rfl, rfl⟩, by simp, by simp⟩
  · simp [Value.cells] at hcs
    obtain ⟨rfl, rfl, rfl⟩ := hcs
    simp only [if_true] at hz
    have hlen : (zs.take n).length = n := by simp; omega
    refine ⟨zs.take n, some a, c, by rw [hlen], .inr ⟨a, c, by rw [hlen], ?_⟩, ?_, by rw [hlen]; omega⟩
    · intro j u hu
      rw [List.getElem?_map] at hu
      obtain ⟨x, hx, rfl⟩ := Option.map_eq_some_iff.1 hu
      obtain ⟨hj, rfl⟩ := List.getElem?_eq_some_iff.1 hx
      have hj2 : j < n := by rw [hlen] at hj; exact hj
      rw [hcell j (by omega), List.getElem_take]
      simp [List.getD, show j < zs.length by omega]
    · intro u hu
      have := hwf u (List.mem_of_mem_take hu)
      simp [Lit.wf, IntKind.min, IntKind.max, IntKind.signed, IntKind.bits] at this
      omega

end

end Go.Proofs.Ytgdfpmnbofnjfaa

namespace Go.Proofs.Ytgdfpmnbofnjfaa
open Go.RowKit
set_option linter.unusedVariables false

/-- The block of the sizes. -/
abbrev sizeb : Obj := .cells #[.int .i64 1, .int .i64 2, .int .i64 3, .int .i64 4, .int .i64 6, .int .i64 8] 3

theorem num_be (v : Int) (k : Nat) : num (be v k) = v % 256 ^ k := by
  have key : ∀ (k : Nat) (a : Int), (be v k).foldl (fun n b => n * 256 + b) a = a * 256 ^ k + v % 256 ^ k := by
    intro k
    induction k with
    | zero =>
      intro a
      rw [Int.pow_zero, Int.mul_one, Int.emod_one, Int.add_zero]
      rfl
    | succ k ih =>
      intro a
      rw [be, List.foldl_cons, ih]
      have hp : (0 : Int) < 256 ^ k := Int.pow_pos (by decide)
      have e : (256 : Int) ^ (k + 1) = 256 ^ k * 256 := Int.pow_succ 256 k
      rw [e]
      generalize (256 : Int) ^ k = q at hp
      have h1 := Int.emod_add_mul_ediv v q
      have h2 := Int.emod_add_mul_ediv (v / q) 256
      have h3 := Int.emod_add_mul_ediv v (q * 256)
      have h4 : v / (q * 256) = v / q / 256 := by rw [Int.ediv_ediv_of_nonneg (by omega)]
      rw [h4] at h3
      have h5 : v % (q * 256) = v % q + q * (v / q % 256) := by
        have : q * (v / q) = q * (v / q % 256) + q * (256 * (v / q / 256)) := by rw [← Int.mul_add, h2]
        have h6 : q * (256 * (v / q / 256)) = q * 256 * (v / q / 256) := by rw [Int.mul_assoc]
        omega
      rw [h5, Int.add_mul, Int.mul_assoc, Int.mul_comm 256 q, Int.mul_comm (v / q % 256) q]
      omega
  simpa [num] using key k 0

theorem num_be_fit (v : Int) (k : Nat) (h0 : 0 ≤ v) (h1 : v < 256 ^ k) : num (be v k) = v := by
  rw [num_be, Int.emod_eq_of_lt h0 h1]

end Go.Proofs.Ytgdfpmnbofnjfaa
