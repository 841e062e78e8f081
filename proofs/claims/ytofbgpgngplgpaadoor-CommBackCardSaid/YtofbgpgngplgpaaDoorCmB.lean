/- Communities: one built from its kind and its content. -/
import Derived.Test.YtofbgpgngplgpaaDoorCmA
namespace Go.Proofs.YtofbgpgngplgpaaDoor
open Go.RowKit
set_option linter.unusedVariables false
set_option maxRecDepth 100000

/-- The community of a kind with a content. -/
abbrev bcm (k : Nat) (x : Int) : Value := cm (kh k) (kl k) (x / 1099511627776 % 256) (x / 4294967296 % 256) (x / 16777216 % 256) (x / 65536 % 256) (x / 256 % 256) (x % 256)

def sel (k n : Nat) (v : Int) : Int := if k ≤ n then v else 0

abbrev zeros8 : Array Value := #[.int .u8 0, .int .u8 0, .int .u8 0, .int .u8 0, .int .u8 0, .int .u8 0, .int .u8 0, .int .u8 0]

structure BS (w : World) (a b : Int) (W : World) : Prop where
  z : Has W w.heap.size 24 zeros8
  c : Has W (w.heap.size + 1) 24 #[.int .u8 a, .int .u8 b, .int .u8 0, .int .u8 0, .int .u8 0, .int .u8 0, .int .u8 0, .int .u8 0]
  bel : Below w.heap.size w W

/-- The cells when the last j bytes are in their places. -/
def c8 (a b x : Int) : Nat → Array Value
  | 0 => #[.int .u8 a, .int .u8 b, .int .u8 0, .int .u8 0, .int .u8 0, .int .u8 0, .int .u8 0, .int .u8 0]
  | 1 => #[.int .u8 a, .int .u8 b, .int .u8 0, .int .u8 0, .int .u8 0, .int .u8 0, .int .u8 0, .int .u8 (x % 256)]
  | 2 => #[.int .u8 a, .int .u8 b, .int .u8 0, .int .u8 0, .int .u8 0, .int .u8 0, .int .u8 (x / 256 % 256), .int .u8 (x % 256)]
  | 3 => #[.int .u8 a, .int .u8 b, .int .u8 0, .int .u8 0, .int .u8 0, .int .u8 (x / 65536 % 256), .int .u8 (x / 256 % 256), .int .u8 (x % 256)]
  | 4 => #[.int .u8 a, .int .u8 b, .int .u8 0, .int .u8 0, .int .u8 (x / 16777216 % 256), .int .u8 (x / 65536 % 256), .int .u8 (x / 256 % 256), .int .u8 (x % 256)]
  | 5 => #[.int .u8 a, .int .u8 b, .int .u8 0, .int .u8 (x / 4294967296 % 256), .int .u8 (x / 16777216 % 256), .int .u8 (x / 65536 % 256), .int .u8 (x / 256 % 256), .int .u8 (x % 256)]
  | _ => #[.int .u8 a, .int .u8 b, .int .u8 (x / 1099511627776 % 256), .int .u8 (x / 4294967296 % 256), .int .u8 (x / 16777216 % 256), .int .u8 (x / 65536 % 256), .int .u8 (x / 256 % 256), .int .u8 (x % 256)]
/-- The content when j bytes are taken. -/
def shr8 (x : Int) : Nat → Int
  | 0 => x
  | 1 => x / 256
  | 2 => x / 65536
  | 3 => x / 16777216
  | 4 => x / 4294967296
  | 5 => x / 1099511627776
  | _ => x / 281474976710656

structure CS (w : World) (a b x : Int) (j : Nat) (W : World) : Prop where
  z : Has W w.heap.size 24 zeros8
  c : Has W (w.heap.size + 1) 24 (c8 a b x j)
  bel : Below w.heap.size w W

section
variable {w W : World} {a b x : Int}
theorem BS.alloc (H : BS w a b W) (o : Obj) : BS w a b (W.alloc o) := ⟨H.z.alloc o, H.c.alloc o, H.bel.alloc H.bel.size _⟩
theorem BS.drewN (H : BS w a b W) (n : Nat) : BS w a b (W.drewN n) := ⟨H.z, H.c, ⟨H.bel.os, H.bel.tape, H.bel.output, H.bel.size, H.bel.block⟩⟩
theorem BS.drew (H : BS w a b W) : BS w a b W.drew := H.drewN 1
theorem BS.set0 (H : BS w a b W) (v : Int) : BS w v b (W.setCell ⟨w.heap.size + 1, 0, none⟩ (.int .u8 v)) :=
  ⟨H.z.set_other (by omega) 0 _, by simpa using H.c.set_ 0 (.int .u8 v), H.bel.setCell (by simp) _⟩
theorem BS.set1 (H : BS w a b W) (v : Int) : BS w a v (W.setCell ⟨w.heap.size + 1, 1, none⟩ (.int .u8 v)) :=
  ⟨H.z.set_other (by omega) 1 _, by simpa using H.c.set_ 1 (.int .u8 v), H.bel.setCell (by simp) _⟩
theorem CS.step {j : Nat} (H : CS w a b x j W) (i : Nat) (v : Int) (hc : (c8 a b x j).setIfInBounds i (.int .u8 v) = c8 a b x (j + 1)) : CS w a b x (j + 1) (W.setCell ⟨w.heap.size + 1, i, none⟩ (.int .u8 v)) :=
  ⟨H.z.set_other (by omega) i _, by rw [← hc]; exact H.c.set_ i (.int .u8 v), H.bel.setCell (by simp) _⟩
end

theorem new_at {wr : World} (W' : World) (he : W'.heap.size = wr.heap.size) (cs : Array Value) (T : TypeId) (i : Nat) (u : Value) (hu : cs[i]? = some u) : (W'.alloc (.cells cs T)).drew.cell? ⟨wr.heap.size, i, none⟩ = some u := by
  have h := Has.new W' T cs
  rw [he] at h
  rw [← hu]
  exact h.cell i

set_option maxHeartbeats 2000000 in
theorem build_any (k : Nat) (hk1 : 1 ≤ k) (hk7 : k ≤ 7) (x : Int) (x0 : 0 ≤ x) (x1 : x < 18446744073709551616) (w : World) (hw : GK w) :
    Calls Tryd.prog 48 #[.int .i64 (k : Int), .int .u64 x] w fun en w' => en = .returned (bcm k x) ∧ Below w.heap.size w w' := by
  obtain ⟨tt, fr, hg⟩ := hw.keep (((Below.refl _ w).alloc (Nat.le_refl _) (.cells zeros8 24)).alloc (by simp) (.cells zeros8 24))
  have HG := Lib.hid hg
  clear hg hw
  go_enter Tryd.func48, Tryd.ntmps48
  go_wp2_with (refine wpList_load_row rfl 72 _ rfl 0 rfl tt _ fr _ HG.out Tryd.underlying72 rfl (by kernel_rfl) ?_)
  go_loopw [10] (fun i wr => ∃ n : Nat, n ≤ 7 ∧ i = .int .i64 n ∧ BS w (sel k n (kh k)) (sel k n (kl k)) wr) (fun i _ => 7 - (intOf i).toNat)
  case atStart =>
    refine ⟨0, by omega, rfl, ?_⟩
    rw [show sel k 0 (kh k) = 0 from if_neg (by omega), show sel k 0 (kl k) = 0 from if_neg (by omega)]
    refine ⟨(Has.new _ _ _).alloc _, ?_, ((Below.refl _ w).alloc (Nat.le_refl _) _).alloc (by simp) _⟩
    have h := Has.new (w.alloc (.cells zeros8 24)) 24 zeros8
    simpa using h
  case round =>
    obtain ⟨n, hn, rfl, hb⟩ := hrel
    have hlt := hb.c.lt
    have hlt0 : w.heap.size < wr.heap.size := by omega
    have hf0 := hb.c.free 0
    have hf1 := hb.c.free 1
    have hcc0 := hb.c.cell 0
    have hcc1 := hb.c.cell 1
    simp only [List.getElem?_toArray, List.getElem?_cons_zero, List.getElem?_cons_succ] at hcc0 hcc1
    have HB := Lib.hid hb
    clear hb
    have hn8 : n = 0 ∨ n = 1 ∨ n = 2 ∨ n = 3 ∨ n = 4 ∨ n = 5 ∨ n = 6 ∨ n = 7 := by omega
    clear hn
    rcases hn8 with rfl | rfl | rfl | rfl | rfl | rfl | rfl | rfl
    · have hx := kidx0
      by_cases h1 : k = 1
      · have hq : ((1 : Int) == (k : Int)) = true := by simp; omega
        have H1 := Lib.hid h1
        clear h1
        go_wp2_with fail
        go_region_held3 (fun w' => w'.cell? ⟨wr.heap.size, 1, none⟩ = some (.int .u8 0) ∧ w'.cell? ⟨wr.heap.size, 2, none⟩ = some (.int .u8 2)) (first | exact ⟨new_at _ (by simp [World.setCell]) _ _ 1 _ rfl, new_at _ (by simp [World.setCell]) _ _ 2 _ rfl⟩ | go_keep) (fail)
        all_goals
          go_wp2_with fail
          go_roundw
          case rel => exact ⟨1, by omega, by go_num, by
            rw [show sel k 1 (kh k) = 0 by rw [H1.out]; rfl, show sel k 1 (kl k) = 2 by rw [H1.out]; rfl]
            first | exact (((HB.out.set0 0).set1 2).alloc _).drew | exact (((HB.out.set1 2).set0 0).alloc _).drew⟩
          case measure => simp [intOf]
      · have hq : ((1 : Int) == (k : Int)) = false := by simp; omega
        go_wp2_with fail
        go_roundw
        case rel =>
          refine ⟨1, by omega, by go_num, ?_⟩
          rw [show sel k 1 (kh k) = sel k 0 (kh k) by unfold sel; congr 1; simp; omega, show sel k 1 (kl k) = sel k 0 (kl k) by unfold sel; congr 1; simp; omega]
          exact HB.out.alloc _
        case measure => simp [intOf]
    · have hx := kidx1
      by_cases h1 : k = 2
      · have hq : ((2 : Int) == (k : Int)) = true := by simp; omega
        have H1 := Lib.hid h1
        clear h1
        go_wp2_with fail
        go_region_held3 (fun w' => w'.cell? ⟨wr.heap.size, 1, none⟩ = some (.int .u8 3) ∧ w'.cell? ⟨wr.heap.size, 2, none⟩ = some (.int .u8 12)) (first | exact ⟨new_at _ (by simp [World.setCell]) _ _ 1 _ rfl, new_at _ (by simp [World.setCell]) _ _ 2 _ rfl⟩ | go_keep) (fail)
        all_goals
          go_wp2_with fail
          go_roundw
          case rel => exact ⟨2, by omega, by go_num, by
            rw [show sel k 2 (kh k) = 3 by rw [H1.out]; rfl, show sel k 2 (kl k) = 12 by rw [H1.out]; rfl]
            first | exact (((HB.out.set0 3).set1 12).alloc _).drew | exact (((HB.out.set1 12).set0 3).alloc _).drew⟩
          case measure => simp [intOf]
      · have hq : ((2 : Int) == (k : Int)) = false := by simp; omega
        go_wp2_with fail
        go_roundw
        case rel =>
          refine ⟨2, by omega, by go_num, ?_⟩
          rw [show sel k 2 (kh k) = sel k 1 (kh k) by unfold sel; congr 1; simp; omega, show sel k 2 (kl k) = sel k 1 (kl k) by unfold sel; congr 1; simp; omega]
          exact HB.out.alloc _
        case measure => simp [intOf]
    · have hx := kidx2
      by_cases h1 : k = 3
      · have hq : ((3 : Int) == (k : Int)) = true := by simp; omega
        have H1 := Lib.hid h1
        clear h1
        go_wp2_with fail
        go_region_held3 (fun w' => w'.cell? ⟨wr.heap.size, 1, none⟩ = some (.int .u8 6) ∧ w'.cell? ⟨wr.heap.size, 2, none⟩ = some (.int .u8 0)) (first | exact ⟨new_at _ (by simp [World.setCell]) _ _ 1 _ rfl, new_at _ (by simp [World.setCell]) _ _ 2 _ rfl⟩ | go_keep) (fail)
        all_goals
          go_wp2_with fail
          go_roundw
          case rel => exact ⟨3, by omega, by go_num, by
            rw [show sel k 3 (kh k) = 6 by rw [H1.out]; rfl, show sel k 3 (kl k) = 0 by rw [H1.out]; rfl]
            first | exact (((HB.out.set0 6).set1 0).alloc _).drew | exact (((HB.out.set1 0).set0 6).alloc _).drew⟩
          case measure => simp [intOf]
      · have hq : ((3 : Int) == (k : Int)) = false := by simp; omega
        go_wp2_with fail
        go_roundw
        case rel =>
          refine ⟨3, by omega, by go_num, ?_⟩
          rw [show sel k 3 (kh k) = sel k 2 (kh k) by unfold sel; congr 1; simp; omega, show sel k 3 (kl k) = sel k 2 (kl k) by unfold sel; congr 1; simp; omega]
          exact HB.out.alloc _
        case measure => simp [intOf]
    · have hx := kidx3
      by_cases h1 : k = 4
      · have hq : ((4 : Int) == (k : Int)) = true := by simp; omega
        have H1 := Lib.hid h1
        clear h1
        go_wp2_with fail
        go_region_held3 (fun w' => w'.cell? ⟨wr.heap.size, 1, none⟩ = some (.int .u8 6) ∧ w'.cell? ⟨wr.heap.size, 2, none⟩ = some (.int .u8 1)) (first | exact ⟨new_at _ (by simp [World.setCell]) _ _ 1 _ rfl, new_at _ (by simp [World.setCell]) _ _ 2 _ rfl⟩ | go_keep) (fail)
        all_goals
          go_wp2_with fail
          go_roundw
          case rel => exact ⟨4, by omega, by go_num, by
            rw [show sel k 4 (kh k) = 6 by rw [H1.out]; rfl, show sel k 4 (kl k) = 1 by rw [H1.out]; rfl]
            first | exact (((HB.out.set0 6).set1 1).alloc _).drew | exact (((HB.out.set1 1).set0 6).alloc _).drew⟩
          case measure => simp [intOf]
      · have hq : ((4 : Int) == (k : Int)) = false := by simp; omega
        go_wp2_with fail
        go_roundw
        case rel =>
          refine ⟨4, by omega, by go_num, ?_⟩
          rw [show sel k 4 (kh k) = sel k 3 (kh k) by unfold sel; congr 1; simp; omega, show sel k 4 (kl k) = sel k 3 (kl k) by unfold sel; congr 1; simp; omega]
          exact HB.out.alloc _
        case measure => simp [intOf]
    · have hx := kidx4
      by_cases h1 : k = 5
      · have hq : ((5 : Int) == (k : Int)) = true := by simp; omega
        have H1 := Lib.hid h1
        clear h1
        go_wp2_with fail
        go_region_held3 (fun w' => w'.cell? ⟨wr.heap.size, 1, none⟩ = some (.int .u8 6) ∧ w'.cell? ⟨wr.heap.size, 2, none⟩ = some (.int .u8 2)) (first | exact ⟨new_at _ (by simp [World.setCell]) _ _ 1 _ rfl, new_at _ (by simp [World.setCell]) _ _ 2 _ rfl⟩ | go_keep) (fail)
        all_goals
          go_wp2_with fail
          go_roundw
          case rel => exact ⟨5, by omega, by go_num, by
            rw [show sel k 5 (kh k) = 6 by rw [H1.out]; rfl, show sel k 5 (kl k) = 2 by rw [H1.out]; rfl]
            first | exact (((HB.out.set0 6).set1 2).alloc _).drew | exact (((HB.out.set1 2).set0 6).alloc _).drew⟩
          case measure => simp [intOf]
      · have hq : ((5 : Int) == (k : Int)) = false := by simp; omega
        go_wp2_with fail
        go_roundw
        case rel =>
          refine ⟨5, by omega, by go_num, ?_⟩
          rw [show sel k 5 (kh k) = sel k 4 (kh k) by unfold sel; congr 1; simp; omega, show sel k 5 (kl k) = sel k 4 (kl k) by unfold sel; congr 1; simp; omega]
          exact HB.out.alloc _
        case measure => simp [intOf]
    · have hx := kidx5
      by_cases h1 : k = 6
      · have hq : ((6 : Int) == (k : Int)) = true := by simp; omega
        have H1 := Lib.hid h1
        clear h1
        go_wp2_with fail
        go_region_held3 (fun w' => w'.cell? ⟨wr.heap.size, 1, none⟩ = some (.int .u8 6) ∧ w'.cell? ⟨wr.heap.size, 2, none⟩ = some (.int .u8 3)) (first | exact ⟨new_at _ (by simp [World.setCell]) _ _ 1 _ rfl, new_at _ (by simp [World.setCell]) _ _ 2 _ rfl⟩ | go_keep) (fail)
        all_goals
          go_wp2_with fail
          go_roundw
          case rel => exact ⟨6, by omega, by go_num, by
            rw [show sel k 6 (kh k) = 6 by rw [H1.out]; rfl, show sel k 6 (kl k) = 3 by rw [H1.out]; rfl]
            first | exact (((HB.out.set0 6).set1 3).alloc _).drew | exact (((HB.out.set1 3).set0 6).alloc _).drew⟩
          case measure => simp [intOf]
      · have hq : ((6 : Int) == (k : Int)) = false := by simp; omega
        go_wp2_with fail
        go_roundw
        case rel =>
          refine ⟨6, by omega, by go_num, ?_⟩
          rw [show sel k 6 (kh k) = sel k 5 (kh k) by unfold sel; congr 1; simp; omega, show sel k 6 (kl k) = sel k 5 (kl k) by unfold sel; congr 1; simp; omega]
          exact HB.out.alloc _
        case measure => simp [intOf]
    · have hx := kidx6
      by_cases h1 : k = 7
      · have hq : ((7 : Int) == (k : Int)) = true := by simp; omega
        have H1 := Lib.hid h1
        clear h1
        go_wp2_with fail
        go_region_held3 (fun w' => w'.cell? ⟨wr.heap.size, 1, none⟩ = some (.int .u8 6) ∧ w'.cell? ⟨wr.heap.size, 2, none⟩ = some (.int .u8 6)) (first | exact ⟨new_at _ (by simp [World.setCell]) _ _ 1 _ rfl, new_at _ (by simp [World.setCell]) _ _ 2 _ rfl⟩ | go_keep) (fail)
        all_goals
          go_wp2_with fail
          go_roundw
          case rel => exact ⟨7, by omega, by go_num, by
            rw [show sel k 7 (kh k) = 6 by rw [H1.out]; rfl, show sel k 7 (kl k) = 6 by rw [H1.out]; rfl]
            first | exact (((HB.out.set0 6).set1 6).alloc _).drew | exact (((HB.out.set1 6).set0 6).alloc _).drew⟩
          case measure => simp [intOf]
      · have hq : ((7 : Int) == (k : Int)) = false := by simp; omega
        go_wp2_with fail
        go_roundw
        case rel =>
          refine ⟨7, by omega, by go_num, ?_⟩
          rw [show sel k 7 (kh k) = sel k 6 (kh k) by unfold sel; congr 1; simp; omega, show sel k 7 (kl k) = sel k 6 (kl k) by unfold sel; congr 1; simp; omega]
          exact HB.out.alloc _
        case measure => simp [intOf]
    · go_wp2_with fail
      have HC : Hid (CS w (kh k) (kl k) x 0 wr) := Lib.hid (by
        have h := HB.out
        rw [show sel k 7 (kh k) = kh k from if_pos hk7, show sel k 7 (kl k) = kl k from if_pos hk7] at h
        exact ⟨h.z, h.c, h.bel⟩)
      clear HB hf0 hf1 hcc0 hcc1 hlt hlt0
      go_loopw [1, 8] (fun c i wr => ∃ j : Nat, j ≤ 6 ∧ i = .int .i64 (7 - (j : Int)) ∧ c = .int .u64 (shr8 x j) ∧ CS w (kh k) (kl k) x j wr) (fun _ i _ => (intOf i).toNat)
      case atStart => exact ⟨0, by omega, rfl, rfl, HC.out⟩
      case round =>
        obtain ⟨j, hj, rfl, rfl, hc⟩ := hrel
        clear HC
        have HC := Lib.hid hc
        have hlt := hc.c.lt
        have hlt0 := hc.z.lt
        have hj7 : j = 0 ∨ j = 1 ∨ j = 2 ∨ j = 3 ∨ j = 4 ∨ j = 5 ∨ j = 6 := by omega
        clear hj
        rcases hj7 with rfl | rfl | rfl | rfl | rfl | rfl | rfl
        · have hf := hc.c.free 7
          have hcc := hc.c.cell 7
          simp only [c8, List.getElem?_toArray, List.getElem?_cons_zero, List.getElem?_cons_succ] at hcc
          simp only [shr8]
          clear hc
          go_wp2_with fail
          go_roundw
          case rel =>
            refine ⟨1, by omega, by go_num, ?_, HC.out.step 7 _ rfl⟩
            first | rfl | go_num | (simp only [shr8]; done) | (simp only [shr8]; go_num)
          case measure => simp [intOf]
        · have hf := hc.c.free 6
          have hcc := hc.c.cell 6
          simp only [c8, List.getElem?_toArray, List.getElem?_cons_zero, List.getElem?_cons_succ] at hcc
          simp only [shr8]
          clear hc
          go_wp2_with fail
          go_roundw
          case rel =>
            refine ⟨2, by omega, by go_num, ?_, HC.out.step 6 _ rfl⟩
            first | rfl | go_num | (simp only [shr8]; done) | (simp only [shr8]; go_num)
          case measure => simp [intOf]
        · have hf := hc.c.free 5
          have hcc := hc.c.cell 5
          simp only [c8, List.getElem?_toArray, List.getElem?_cons_zero, List.getElem?_cons_succ] at hcc
          simp only [shr8]
          clear hc
          go_wp2_with fail
          go_roundw
          case rel =>
            refine ⟨3, by omega, by go_num, ?_, HC.out.step 5 _ rfl⟩
            first | rfl | go_num | (simp only [shr8]; done) | (simp only [shr8]; go_num)
          case measure => simp [intOf]
        · have hf := hc.c.free 4
          have hcc := hc.c.cell 4
          simp only [c8, List.getElem?_toArray, List.getElem?_cons_zero, List.getElem?_cons_succ] at hcc
          simp only [shr8]
          clear hc
          go_wp2_with fail
          go_roundw
          case rel =>
            refine ⟨4, by omega, by go_num, ?_, HC.out.step 4 _ rfl⟩
            first | rfl | go_num | (simp only [shr8]; done) | (simp only [shr8]; go_num)
          case measure => simp [intOf]
        · have hf := hc.c.free 3
          have hcc := hc.c.cell 3
          simp only [c8, List.getElem?_toArray, List.getElem?_cons_zero, List.getElem?_cons_succ] at hcc
          simp only [shr8]
          clear hc
          go_wp2_with fail
          go_roundw
          case rel =>
            refine ⟨5, by omega, by go_num, ?_, HC.out.step 3 _ rfl⟩
            first | rfl | go_num | (simp only [shr8]; done) | (simp only [shr8]; go_num)
          case measure => simp [intOf]
        · have hf := hc.c.free 2
          have hcc := hc.c.cell 2
          simp only [c8, List.getElem?_toArray, List.getElem?_cons_zero, List.getElem?_cons_succ] at hcc
          simp only [shr8]
          clear hc
          go_wp2_with fail
          go_roundw
          case rel =>
            refine ⟨6, by omega, by go_num, ?_, HC.out.step 2 _ rfl⟩
            first | rfl | go_num | (simp only [shr8]; done) | (simp only [shr8]; go_num)
          case measure => simp [intOf]
        · have q0 := hc.c.cell 0
          have q1 := hc.c.cell 1
          have q2 := hc.c.cell 2
          have q3 := hc.c.cell 3
          have q4 := hc.c.cell 4
          have q5 := hc.c.cell 5
          have q6 := hc.c.cell 6
          have q7 := hc.c.cell 7
          have p0 := hc.z.cell 0
          have p1 := hc.z.cell 1
          have p2 := hc.z.cell 2
          have p3 := hc.z.cell 3
          have p4 := hc.z.cell 4
          have p5 := hc.z.cell 5
          have p6 := hc.z.cell 6
          have p7 := hc.z.cell 7
          simp only [c8, List.getElem?_toArray, List.getElem?_cons_zero, List.getElem?_cons_succ] at q0 q1 q2 q3 q4 q5 q6 q7 p0 p1 p2 p3 p4 p5 p6 p7
          have z0 := hc.z.free 0
          have z1 := hc.z.free 1
          have z2 := hc.z.free 2
          have z3 := hc.z.free 3
          have z4 := hc.z.free 4
          have z5 := hc.z.free 5
          have z6 := hc.z.free 6
          have z7 := hc.z.free 7
          clear hc
          go_wp2_with fail
          refine bodyPost_ret (v := bcm k x) (by simp [results, Tryd.results48, go_sem, *]) rfl ⟨rfl, ?_⟩
          exact (((((((HC.out.bel.setCell (by simp) _).setCell (by simp) _).setCell (by simp) _).setCell (by simp) _).setCell (by simp) _).setCell (by simp) _).setCell (by simp) _).setCell (by simp) _

end Go.Proofs.YtofbgpgngplgpaaDoor
