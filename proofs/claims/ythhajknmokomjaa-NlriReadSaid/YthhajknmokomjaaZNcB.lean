/- Routes: the document's mask and Clean. -/
import Derived.Test.YthhajknmokomjaaZNcA
import Derived.Deep.RegionHeld3
namespace Go.Proofs.Ythhajknmokomjaa
open Go.RowKit Go.Shelf
set_option linter.unusedVariables false
set_option linter.unusedSimpArgs false
set_option maxRecDepth 100000
theorem rmask_bits : ∀ k : Fin 33, bits BinOp.xor IntKind.u32 IntKind.u32.max (((2 : Int) ^ (32 - (k.val : Int)).toNat - 1) % 4294967296) = msk k.val := by decide +kernel
theorem rmask (n : Int) (h0 : 0 ≤ n) (h1 : n ≤ 32) (w : World) :
    Calls Try.prog 52 #[.int .i64 n] w fun e w' => e = .returned (.int .u32 (msk n)) ∧ w = w' := by
  have hm := rmask_bits ⟨n.toNat, by omega⟩
  rw [show ((⟨n.toNat, by omega⟩ : Fin 33).val : Int) = n from by simp; omega] at hm
  go_enter Try.func52, Try.ntmps52
  go_wp2
  go_ret
  refine ⟨?_, rfl⟩
  rw [← hm]
  rfl

theorem rclean_no (p l : Int) (hv : vld l = false) (w : World) :
    Calls Try.prog 30 #[pfx p l] w fun e w' => e = .returned (.tuple #[pfx 0 0, .int .i64 2]) ∧ Below w.heap.size w w' := by
  have HV := Lib.hid hv
  have HZ : Hid (Has ((w.alloc (pfxb p l)).alloc (pfxb 0 0)) (w.heap.size + 1) 29 #[.int .u32 0, .int .i64 0]) := Lib.hid (by
    have h := Has.new (w.alloc (pfxb p l)) 29 #[.int .u32 0, .int .i64 0]
    simpa using h)
  have HB : Hid (Below w.heap.size w ((w.alloc (pfxb p l)).alloc (pfxb 0 0))) := Lib.hid (((Below.refl _ w).alloc (Nat.le_refl _) _).alloc (by simp) _)
  clear hv
  go_enter Try.func30, Try.ntmps30
  go_wp2_with (go_at_call 51; refine (rvalid p l _ HV.out _).mono ?_; rintro e w1 ⟨rfl, hb1⟩; have HZ1 := Lib.hid (HZ.out.below hb1); have HB1 : Hid (Below w.heap.size w w1) := Lib.hid (HB.out.trans (hb1.mono HB.out.size)); have c0 := HZ1.out.cell 0; have c1 := HZ1.out.cell 1; have f0 := HZ1.out.free 0; have f1 := HZ1.out.free 1; clear hb1)
  have q := ((HZ1.out.set_ 0 (.int .u32 0)).set_ 1 (.int .i64 0))
  have hb := (HB1.out.setCell (p := ⟨w.heap.size + 1, 0, none⟩) (by simp) (.int .u32 0)).setCell (p := ⟨w.heap.size + 1, 1, none⟩) (by simp) (.int .i64 0)
  refine bodyPost_ret (v := .tuple #[pfx 0 0, .int .i64 2]) ?_ rfl ⟨rfl, hb⟩
  have d0 := q.cell 0
  have d1 := q.cell 1
  simp at d0 d1
  simp [results, Try.results30, go_sem, d0, d1]

set_option maxHeartbeats 1000000 in
theorem rclean_yes (p l : Int) (hv : vld l = true) (w : World) :
    Calls Try.prog 30 #[pfx p l] w fun e w' => e = .returned (.tuple #[pfx (cl p l) l, .int .i64 0]) ∧ Below w.heap.size w w' := by
  obtain ⟨hl0, hl1⟩ := vld_iff.1 hv
  have HV := Lib.hid hv
  have HX : Hid (Has ((w.alloc (pfxb p l)).alloc (pfxb 0 0)) w.heap.size 29 #[.int .u32 p, .int .i64 l]) := Lib.hid ((Has.new w 29 #[.int .u32 p, .int .i64 l]).below ((Below.refl _ _).alloc (Nat.le_refl _) _))
  have HZ : Hid (Has ((w.alloc (pfxb p l)).alloc (pfxb 0 0)) (w.heap.size + 1) 29 #[.int .u32 0, .int .i64 0]) := Lib.hid (by
    have h := Has.new (w.alloc (pfxb p l)) 29 #[.int .u32 0, .int .i64 0]
    simpa using h)
  have HB : Hid (Below w.heap.size w ((w.alloc (pfxb p l)).alloc (pfxb 0 0))) := Lib.hid (((Below.refl _ w).alloc (Nat.le_refl _) _).alloc (by simp) _)
  clear hv
  go_enter Try.func30, Try.ntmps30
  go_wp2_with (go_at_call 51; refine (rvalid p l _ HV.out _).mono ?_; rintro e w1 ⟨rfl, hb1⟩; have HZ1 := Lib.hid (HZ.out.below hb1); have HX1 := Lib.hid (HX.out.below hb1); have HB1 : Hid (Below w.heap.size w w1) := Lib.hid (HB.out.trans (hb1.mono HB.out.size)); clear hb1)
  have c0 := HZ1.out.cell 0
  have c1 := HZ1.out.cell 1
  have f0 := HZ1.out.free 0
  have f1 := HZ1.out.free 1
  have d0 := HX1.out.cell 0
  have d1 := HX1.out.cell 1
  go_region_held3 (fun w' => w'.cell? ⟨w.heap.size, 0, none⟩ = some (.int .u32 p) ∧ w'.cell? ⟨w.heap.size, 1, none⟩ = some (.int .i64 l))
    (first | exact ⟨d0, d1⟩ | (refine ⟨?_, ?_⟩ <;> (first | assumption | go_simp)))
    ((go_at_call 52; refine (rmask l hl0 hl1 _).mono ?_; rintro e w' ⟨rfl, rfl⟩))
  go_wp2_with fail
  have q := ((HZ1.out.set_ 0 (.int .u32 (cl p l))).set_ 1 (.int .i64 l))
  have hb := (HB1.out.setCell (p := ⟨w.heap.size + 1, 0, none⟩) (by simp) (.int .u32 (cl p l))).setCell (p := ⟨w.heap.size + 1, 1, none⟩) (by simp) (.int .i64 l)
  refine bodyPost_ret (v := .tuple #[pfx (cl p l) l, .int .i64 0]) ?_ rfl ⟨rfl, below_drewN hb 1⟩
  have e0 := q.cell 0
  have e1 := q.cell 1
  unfold cl at e0 e1 ⊢
  simp at e0 e1
  simp [results, Try.results30, go_sem, e0, e1]

end Go.Proofs.Ythhajknmokomjaa
