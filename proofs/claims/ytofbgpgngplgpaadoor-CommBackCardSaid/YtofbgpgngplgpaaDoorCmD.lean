/- Rows of numbers of 32 bits: the library's sort and Compact at three elements (9, 7, 9), at one, at none. -/
import Derived.Test.YtofbgpgngplgpaaDoorCmC
import Derived.Lib.SliceRun
namespace Go.Proofs.YtofbgpgngplgpaaDoor
open Go.RowKit
set_option linter.unusedVariables false
set_option maxRecDepth 100000

abbrev Only (w : World) (g : Nat) (w' : World) : Prop := w.grownBy w' (some g)

section
variable {a w w' : World} {g : Nat}
theorem only_refl (w : World) (g : Nat) : Only w g w := World.grownBy.refl w _
theorem only_drewN (h : Only a g w) (n : Nat) : Only a g (w.drewN n) := ⟨h.os, h.tape, h.output, h.size, h.block⟩
theorem only_alloc (h : Only a g w) (o : Obj) : Only a g (w.alloc o) :=
  ⟨h.os, h.tape, h.output, Nat.le_trans h.size (by simp), fun i hi hne => (Below.heap_alloc w o i (Nat.lt_of_lt_of_le hi h.size)).trans (h.block i hi hne)⟩
theorem only_set (h : Only a g w) {p : Addr} (hp : p.block = g ∨ a.heap.size ≤ p.block) (u : Value) : Only a g (w.setCell p u) :=
  ⟨h.os, h.tape, h.output, by simpa [World.setCell] using h.size, fun i hi hne => (Below.heap_setCell w p u i (by
    rintro rfl
    rcases hp with hp | hp
    · exact hne (by rw [hp])
    · omega)).trans (h.block i hi hne)⟩
theorem only_trans (h : Only a g w) (k : Only w g w') : Only a g w' :=
  ⟨k.os.trans h.os, k.tape.trans h.tape, k.output.trans h.output, Nat.le_trans h.size k.size, fun i hi hne => (k.block i (Nat.lt_of_lt_of_le hi h.size) hne).trans (h.block i hi hne)⟩
/-- What turned a new block alone turned no old one. -/
theorem below_only {B : Nat} (h : Below B a w) (k : Only w g w') (hg : B ≤ g) (hB : B ≤ w.heap.size) : Below B a w' :=
  ⟨k.os.trans h.os, k.tape.trans h.tape, k.output.trans h.output, Nat.le_trans h.size k.size, fun i hi => (k.block i (by omega) (by rintro ⟨⟩; omega)).trans (h.block i hi)⟩
end

/-- The beginning of a block holds these numbers. -/
def RowU (w : World) (h cap : Nat) (xs : List Int) : Prop := ∃ cur : Array Value, Has w h 28 cur ∧ cur.size = cap ∧ cur.toList.take xs.length = xs.map (Value.int .u32) ∧ xs.length ≤ cap ∧ cap ≤ maxLen

section
variable {w w' : World} {h cap : Nat} {xs : List Int}
theorem RowU.cell (H : RowU w h cap xs) (i : Nat) (hi : i < xs.length) : w.cell? ⟨h, i, none⟩ = some (.int .u32 xs[i]) := by
  obtain ⟨cur, hh, hs, ht, hl, _⟩ := H
  rw [hh.cell i]
  have h1 : (cur.toList.take xs.length)[i]? = (xs.map (Value.int .u32))[i]? := by rw [ht]
  rw [List.getElem?_take_of_lt hi] at h1
  rw [← Array.getElem?_toList, h1]
  simp [hi]
theorem RowU.free (H : RowU w h cap xs) (i : Nat) : w.frozen? ⟨h, i, none⟩ = false := by
  obtain ⟨cur, hh, _⟩ := H
  exact hh.free i
theorem RowU.lt (H : RowU w h cap xs) : h < w.heap.size := by
  obtain ⟨cur, hh, _⟩ := H
  exact hh.lt
theorem RowU.set_ (H : RowU w h cap xs) (j : Nat) (x : Int) : RowU (w.setCell ⟨h, j, none⟩ (.int .u32 x)) h cap (xs.set j x) := by
  obtain ⟨cur, hh, hs, ht, hl, hm⟩ := H
  refine ⟨_, hh.set_ j (.int .u32 x), by simpa using hs, ?_, by simpa using hl, hm⟩
  rw [List.length_set, Array.toList_setIfInBounds, List.take_set, ht]
  simp [List.map_set]
theorem RowU.drewN (H : RowU w h cap xs) (n : Nat) : RowU (w.drewN n) h cap xs := H
theorem RowU.below (H : RowU w h cap xs) (hb : Below w.heap.size w w') : RowU w' h cap xs := by
  obtain ⟨cur, hh, r⟩ := H
  exact ⟨cur, hh.below hb, r⟩
theorem RowU.bounds (H : RowU w h cap xs) : xs.length ≤ cap ∧ cap ≤ 9223372036854775807 := by
  obtain ⟨cur, _, _, _, h1, h2⟩ := H
  unfold maxLen at h2
  exact ⟨h1, by omega⟩
end

theorem isnan_any (x : Int) (w : World) : Calls Tryd.prog 104 #[.int .u32 x] w fun e w' => e = .returned (.bool false) ∧ w = w' := by
  have hb : (x != x) = false := bne_self_eq_false x
  go_enter Tryd.func104, Tryd.ntmps104
  go_wp2_with fail
  go_ret
  exact ⟨rfl, rfl⟩

theorem less_any (x y : Int) (b : Bool) (hb : decide (x < y) = b) (w : World) : Calls Tryd.prog 93 #[.int .u32 x, .int .u32 y] w fun e w' => e = .returned (.bool b) ∧ w = w' := by
  have h1 : (x != x) = false := bne_self_eq_false x
  have h2 : (y != y) = false := bne_self_eq_false y
  go_enter Tryd.func93, Tryd.ntmps93
  go_wp2_with (go_at_call 104; refine (isnan_any _ _).mono ?_; rintro e w' ⟨rfl, rfl⟩)
  go_ret
  exact ⟨rfl, rfl⟩

set_option maxHeartbeats 1000000 in
theorem ins3 (h cap : Nat) (w : World) (H : RowU w h cap [9, 7, 9]) :
    Calls Tryd.prog 87 #[.slice (some ⟨h, 0, none⟩) 3 cap, .int .i64 0, .int .i64 3] w fun e w' => e = .returned (.tuple #[]) ∧ RowU w' h cap [7, 9, 9] ∧ Only w h w' := by
  have HH := Lib.hid H
  clear H
  go_enter Tryd.func87, Tryd.ntmps87
  go_wp2_with fail
  go_loopw [6] (fun i wr => ∃ n : Nat, i = .int .i64 n ∧ ((n = 1 ∧ RowU wr h cap [9, 7, 9]) ∨ (n = 2 ∧ RowU wr h cap [7, 9, 9]) ∨ (n = 3 ∧ RowU wr h cap [7, 9, 9])) ∧ Only w h wr) (fun i _ => 3 - (intOf i).toNat)
  case atStart => exact ⟨1, rfl, .inl ⟨rfl, HH.out⟩, only_refl w h⟩
  case round =>
    obtain ⟨n, rfl, hc, ho⟩ := hrel
    rcases hc with ⟨rfl, hr⟩ | ⟨rfl, hr⟩ | ⟨rfl, hr⟩
    · have HR : Hid (RowU wr h cap [9, 7, 9] ∧ Only w h wr) := Lib.hid ⟨hr, ho⟩
      clear hr ho
      obtain ⟨wo, hwo⟩ : ∃ wo : World, wo = wr := ⟨_, rfl⟩
      subst hwo
      go_wp2_with fail
      go_loopw [7] (fun j wr => ∃ m : Nat, j = .int .i64 m ∧ ((m = 1 ∧ RowU wr h cap [9, 7, 9]) ∨ (m = 0 ∧ RowU wr h cap [7, 9, 9])) ∧ Only w h wr) (fun j _ => (intOf j).toNat)
      case atStart => exact ⟨1, rfl, .inl ⟨rfl, HR.out.1⟩, HR.out.2⟩
      case round =>
        obtain ⟨m, rfl, hc, ho⟩ := hrel
        rcases hc with ⟨rfl, hr⟩ | ⟨rfl, hr⟩
        · have c0 := hr.cell 0 (by decide)
          have c1 := hr.cell 1 (by decide)
          have f0 := hr.free 0
          have f1 := hr.free 1
          simp only [List.getElem_cons_zero, List.getElem_cons_succ] at c0 c1
          have HQ : Hid (RowU wr h cap [9, 7, 9] ∧ Only w h wr) := Lib.hid ⟨hr, ho⟩
          clear hr ho
          have s1 : IntKind.i64.wrap 0 = 0 := by decide
          go_wp2_with fail
          go_region_held3 (fun w' => w'.cell? ⟨h, 0, none⟩ = some (.int .u32 9) ∧ w'.cell? ⟨h, 1, none⟩ = some (.int .u32 7)) (go_keep)
            (first | (go_at_call 93; refine (less_any 7 9 true (by decide) _).mono ?_; rintro e w9 ⟨rfl, rfl⟩))
          go_wp2_with fail
          go_region
          all_goals
            go_wp2_with fail
            refine ⟨?_, by simp [intOf]⟩
            repeat apply Exists.intro
            refine ⟨⟨0, rfl, .inr ⟨rfl, (HQ.out.1.set_ 1 9).set_ 0 7⟩, only_drewN (only_set (only_set HQ.out.2 (.inl rfl) _) (.inl rfl) _) 2⟩, rfl⟩
        · have HQ : Hid (RowU wr h cap [7, 9, 9] ∧ Only w h wr) := Lib.hid ⟨hr, ho⟩
          clear hr ho
          go_wp2_with fail
          go_quiet (fail)
          go_wp2_with fail
          go_roundw
          case rel => exact ⟨2, by go_num, .inr (.inl ⟨rfl, HQ.out.1.drewN _⟩), only_drewN HQ.out.2 _⟩
          case measure => simp [intOf]
    · have HR : Hid (RowU wr h cap [7, 9, 9] ∧ Only w h wr) := Lib.hid ⟨hr, ho⟩
      clear hr ho
      obtain ⟨wo, hwo⟩ : ∃ wo : World, wo = wr := ⟨_, rfl⟩
      subst hwo
      go_wp2_with fail
      go_loopw [7] (fun j wr => j = .int .i64 2 ∧ RowU wr h cap [7, 9, 9] ∧ Only w h wr) (fun j _ => 0)
      case atStart => exact ⟨rfl, HR.out.1, HR.out.2⟩
      case round =>
        obtain ⟨rfl, hr, ho⟩ := hrel
        have c1 := hr.cell 1 (by decide)
        have c2 := hr.cell 2 (by decide)
        simp only [List.getElem_cons_zero, List.getElem_cons_succ] at c1 c2
        have s1 : IntKind.i64.wrap 1 = 1 := by decide
        have HQ : Hid (RowU wr h cap [7, 9, 9] ∧ Only w h wr) := Lib.hid ⟨hr, ho⟩
        clear hr ho
        go_wp2_with fail
        go_region_held3 (fun w' => w'.cell? ⟨h, 1, none⟩ = some (.int .u32 9) ∧ w'.cell? ⟨h, 2, none⟩ = some (.int .u32 9)) (go_keep)
          (first | (go_at_call 93; refine (less_any 9 9 false (by decide) _).mono ?_; rintro e w9 ⟨rfl, rfl⟩))
        go_wp2_with fail
        go_roundw
        case rel => exact ⟨3, by go_num, .inr (.inr ⟨rfl, HQ.out.1⟩), only_drewN HQ.out.2 1⟩
        case measure => simp [intOf]
    · have HR : Hid (RowU wr h cap [7, 9, 9] ∧ Only w h wr) := Lib.hid ⟨hr, ho⟩
      clear hr ho
      go_wp2_with fail
      go_end0
      exact ⟨rfl, HR.out.1, HR.out.2⟩

theorem ins1 (h cap : Nat) (x : Int) (w : World) :
    Calls Tryd.prog 87 #[.slice (some ⟨h, 0, none⟩) 1 cap, .int .i64 0, .int .i64 1] w fun e w' => e = .returned (.tuple #[]) ∧ w = w' := by
  go_enter Tryd.func87, Tryd.ntmps87
  go_wp2_with fail
  go_loop [6] (fun i => i = .int .i64 1) (fun i => 0)
  case atStart => rfl
  case round =>
    subst hrel
    go_wp2_with fail
    go_end0
    exact ⟨rfl, rfl⟩

theorem len64_3 (w : World) : Calls Tryd.prog 86 #[.int .u64 3] w fun e w' => e = .returned (.int .i64 2) ∧ w = w' := by
  go_enter Tryd.func86, Tryd.ntmps86
  go_wp2_with fail
  go_ret
  exact ⟨by kernel_rfl, rfl⟩
theorem len64_1 (w : World) : Calls Tryd.prog 86 #[.int .u64 1] w fun e w' => e = .returned (.int .i64 1) ∧ w = w' := by
  go_enter Tryd.func86, Tryd.ntmps86
  go_wp2_with fail
  go_ret
  exact ⟨by kernel_rfl, rfl⟩
theorem len_3 (w : World) : Calls Tryd.prog 74 #[.int .u64 3] w fun e w' => e = .returned (.int .i64 2) ∧ w = w' := by
  go_enter Tryd.func74, Tryd.ntmps74
  go_wp2_with (go_at_call 86; refine (len64_3 _).mono ?_; rintro e w' ⟨rfl, rfl⟩)
  go_ret
  exact ⟨rfl, rfl⟩
theorem len_1 (w : World) : Calls Tryd.prog 74 #[.int .u64 1] w fun e w' => e = .returned (.int .i64 1) ∧ w = w' := by
  go_enter Tryd.func74, Tryd.ntmps74
  go_wp2_with (go_at_call 86; refine (len64_1 _).mono ?_; rintro e w' ⟨rfl, rfl⟩)
  go_ret
  exact ⟨rfl, rfl⟩

theorem pdq3 (h cap : Nat) (w : World) (H : RowU w h cap [9, 7, 9]) :
    Calls Tryd.prog 76 #[.slice (some ⟨h, 0, none⟩) 3 cap, .int .i64 0, .int .i64 3, .int .i64 2] w fun e w' => e = .returned (.tuple #[]) ∧ RowU w' h cap [7, 9, 9] ∧ Only w h w' := by
  have HH := Lib.hid H
  clear H
  go_enter Tryd.func76, Tryd.ntmps76
  go_wp2_with fail
  go_loopw [1, 2, 3, 8, 9] (fun a b l p q wr => a = .int .i64 0 ∧ b = .int .i64 3 ∧ l = .int .i64 2 ∧ p = .bool true ∧ q = .bool true ∧ w = wr) (fun _ _ _ _ _ _ => 0)
  case atStart => exact ⟨rfl, rfl, rfl, rfl, rfl, rfl⟩
  case round =>
    obtain ⟨rfl, rfl, rfl, rfl, rfl, rfl⟩ := hrel
    go_wp2_with fail
    refine (ins3 h cap _ HH.out).mono ?_
    rintro e w1 ⟨rfl, hr, ho⟩
    have H1 : Hid (RowU w1 h cap [7, 9, 9] ∧ Only w h w1) := Lib.hid ⟨hr, ho⟩
    clear hr ho
    go_wp2_with fail
    exact bodyPost_ret (v := .tuple #[]) (by simp [results, Tryd.results76, go_sem]) rfl ⟨rfl, H1.out.1, H1.out.2⟩
theorem pdq1 (h cap : Nat) (w : World) :
    Calls Tryd.prog 76 #[.slice (some ⟨h, 0, none⟩) 1 cap, .int .i64 0, .int .i64 1, .int .i64 1] w fun e w' => e = .returned (.tuple #[]) ∧ w = w' := by
  go_enter Tryd.func76, Tryd.ntmps76
  go_wp2_with fail
  go_loopw [1, 2, 3, 8, 9] (fun a b l p q wr => a = .int .i64 0 ∧ b = .int .i64 1 ∧ l = .int .i64 1 ∧ p = .bool true ∧ q = .bool true ∧ w = wr) (fun _ _ _ _ _ _ => 0)
  case atStart => exact ⟨rfl, rfl, rfl, rfl, rfl, rfl⟩
  case round =>
    obtain ⟨rfl, rfl, rfl, rfl, rfl, rfl⟩ := hrel
    go_wp2_with fail
    refine (ins1 h cap 0 _).mono ?_
    rintro e w1 ⟨rfl, rfl⟩
    go_wp2_with fail
    exact bodyPost_ret (v := .tuple #[]) (by simp [results, Tryd.results76, go_sem]) rfl ⟨rfl, rfl⟩
theorem sort3 (h cap : Nat) (w : World) (H : RowU w h cap [9, 7, 9]) :
    Calls Tryd.prog 68 #[.slice (some ⟨h, 0, none⟩) 3 cap] w fun e w' => e = .returned (.tuple #[]) ∧ RowU w' h cap [7, 9, 9] ∧ Only w h w' := by
  have HH := Lib.hid H
  clear H
  go_enter Tryd.func68, Tryd.ntmps68
  go_wp2_with (go_at_call 74; refine (len_3 _).mono ?_; rintro e w' ⟨rfl, rfl⟩)
  refine (pdq3 h cap _ HH.out).mono ?_
  rintro e w1 ⟨rfl, hr, ho⟩
  have H1 : Hid (RowU w1 h cap [7, 9, 9] ∧ Only w h w1) := Lib.hid ⟨hr, ho⟩
  clear hr ho
  go_wp2_with fail
  go_end0
  exact ⟨rfl, H1.out.1, H1.out.2⟩
theorem sort1 (h cap : Nat) (w : World) :
    Calls Tryd.prog 68 #[.slice (some ⟨h, 0, none⟩) 1 cap] w fun e w' => e = .returned (.tuple #[]) ∧ w = w' := by
  go_enter Tryd.func68, Tryd.ntmps68
  go_wp2_with (first | (go_at_call 74; refine (len_1 _).mono ?_; rintro e w' ⟨rfl, rfl⟩) | (go_at_call 76; refine (pdq1 h cap _).mono ?_; rintro e w' ⟨rfl, rfl⟩))
  go_end0
  exact ⟨rfl, rfl⟩
theorem compact1 (h cap : Nat) (w : World) :
    Calls Tryd.prog 69 #[.slice (some ⟨h, 0, none⟩) 1 cap] w fun e w' => e = .returned (.slice (some ⟨h, 0, none⟩) 1 cap) ∧ w = w' := by
  go_enter Tryd.func69, Tryd.ntmps69
  go_wp2_with fail
  go_ret
  exact ⟨rfl, rfl⟩
theorem compact0 (w : World) :
    Calls Tryd.prog 69 #[.slice none 0 0] w fun e w' => e = .returned (.slice none 0 0) ∧ w = w' := by
  go_enter Tryd.func69, Tryd.ntmps69
  go_wp2_with fail
  go_ret
  exact ⟨rfl, rfl⟩

set_option maxHeartbeats 1000000 in
theorem compact3 (h cap : Nat) (w : World) (H : RowU w h cap [7, 9, 9]) :
    Calls Tryd.prog 69 #[.slice (some ⟨h, 0, none⟩) 3 cap] w fun e w' => e = .returned (.slice (some ⟨h, 0, none⟩) 2 cap) ∧ w'.cell? ⟨h, 0, none⟩ = some (.int .u32 7) ∧ w'.cell? ⟨h, 1, none⟩ = some (.int .u32 9) ∧ Only w h w' := by
  have hcap := H.bounds
  simp only [List.length_cons, List.length_nil] at hcap
  obtain ⟨hcap1, hcap2⟩ := hcap
  have c0 := H.cell 0 (by decide)
  have c1 := H.cell 1 (by decide)
  have c2 := H.cell 2 (by decide)
  have f2 := H.free 2
  simp only [List.getElem_cons_zero, List.getElem_cons_succ] at c0 c1 c2
  have s0 : IntKind.i64.wrap 0 = 0 := by decide
  have s1 : IntKind.i64.wrap 1 = 1 := by decide
  have hne : ¬ cap = 2 := by omega
  have HH := Lib.hid H
  clear H
  go_enter Tryd.func69, Tryd.ntmps69
  go_wp2_with fail
  go_loopw [3] (fun k wr => ∃ n q : Nat, k = .int .i64 n ∧ (n = 1 ∨ n = 2) ∧ wr = w.drewN q) (fun k _ => 3 - (intOf k).toNat)
  case atStart => exact ⟨1, 0, rfl, .inl rfl, rfl⟩
  case round =>
    obtain ⟨n, q, rfl, hn, rfl⟩ := hrel
    rcases hn with rfl | rfl
    · go_wp2_with fail
      go_quiet (fail)
      go_wp2_with fail
      go_roundw
      case rel => exact ⟨2, _, by go_num, .inr rfl, rfl⟩
      case measure => simp [intOf]
    · go_wp2_with fail
      go_quiet (fail)
      go_wp2_with fail
      go_loopw [3, 5] (fun k3 k wr => ∃ q2 : Nat, k3 = .int .i64 2 ∧ k = .int .i64 1 ∧ wr = w.drewN q2) (fun _ k _ => 0)
      case atStart => exact ⟨_, rfl, rfl, rfl⟩
      case round =>
        obtain ⟨q2, rfl, rfl, rfl⟩ := hrel
        have hcl : ∀ ty, (Builtin.clear_ #[50] ty #[.slice (some ⟨h, 2, none⟩) 1 (cap - 2)]).run Tryd.prog (w.drewN q2) = .ok (.tuple #[]) ((w.drewN q2).setCell ⟨h, 2, none⟩ (.int .u32 0)) := fun ty =>
          Lib.run_clear_slice (w.drewN q2) _ _ ty (.int .u32 0) Tryd.underlying50 (fun w => by kernel_rfl) rfl rfl h 2 1 (cap - 2) (by omega) (fun j hj => by
            obtain rfl : j = 0 := by omega
            show ((w.drewN q2).cell? ⟨h, 2, none⟩).isSome = true
            rw [(HH.out.drewN q2).cell 2 (by decide)]
            rfl) (fun j hj => by
            obtain rfl : j = 0 := by omega
            exact (HH.out.drewN q2).free 2)
        go_wp2_with fail
        go_ret
        refine ⟨rfl, ?_, ?_, only_set (only_drewN (only_refl w h) q2) (.inl rfl) _⟩
        · have h2 := ((HH.out.drewN q2).set_ 2 0).cell 0 (by decide)
          simpa using h2
        · have h2 := ((HH.out.drewN q2).set_ 2 0).cell 1 (by decide)
          simpa using h2

end Go.Proofs.YtofbgpgngplgpaaDoor
