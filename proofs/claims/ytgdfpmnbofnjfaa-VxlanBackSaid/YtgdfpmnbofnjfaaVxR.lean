/- Packets that carry frames: the head checked, the headers decoded, the frame inside read; written by gen_vxr.py. -/
import Derived.Test.YtgdfpmnbofnjfaaVxE
import Derived.Defers
namespace Go.Proofs.Ytgdfpmnbofnjfaa
open Go.RowKit Go.Shelf
set_option linter.unusedVariables false
set_option linter.unusedSimpArgs false
set_option maxRecDepth 100000

/-- Why the head is none. -/
def vhd (bs : List Int) : Int × Int := if bs.length < 36 then (4, (bs.length : Int)) else if nm bs 9 1 ≠ 17 then (6, 9) else if nm bs 22 2 ≠ 4789 then (6, 22) else (0, 0)
theorem ft_of {w W : World} {er i : Int} (b : Nat) (h : Has W b 37 #[.int .i64 er, .int .i64 i]) (tmps : Array Value) (h2 : tmps[2]?.getD undef = .pointer (some ⟨b, 0, none⟩)) :
    (results Try.f23 tmps).run Try.prog W = .ok (.agg #[.int .i64 er, .int .i64 i]) W := by
  have hl := run_loadVar_row W b 37 37 #[.int .i64 er, .int .i64 i] (0, 0) _ h Try.underlying37 rfl ft_fit
  simp [results, Try.f23, asAddr, Result.andThen, h2, hl]

theorem head_short (v : Value) (bs : List Int) (w : World) (hA : Arr w v bs) (hl : bs.length < 36) :
    Calls Try.prog 23 #[v] w fun e w' => e = .returned (.agg #[.int .i64 (vhd bs).1, .int .i64 (vhd bs).2]) ∧ Below w.heap.size w w' := by
  obtain ⟨A, c, rfl⟩ := hA.form
  have HF : Hid (vhd bs = (4, (bs.length : Int))) := Lib.hid (by unfold vhd; rw [if_pos hl])
  rw [HF.out]
  obtain ⟨n, hn⟩ : ∃ n, bs.length = n := ⟨_, rfl⟩
  rw [hn] at hl ⊢
  have e1 : (n : Int) < 36 := by omega
  clear hn hA HF
  have HE : Hid (Has (w.alloc (.cells #[.int .i64 4, .int .i64 n] 37)) w.heap.size 37 #[.int .i64 4, .int .i64 n] ∧ Below w.heap.size w (w.alloc (.cells #[.int .i64 4, .int .i64 n] 37))) := Lib.hid ⟨Has.new _ _ _, (Below.refl _ w).alloc (Nat.le_refl _) _⟩
  go_enter Try.func23, Try.ntmps23
  go_wp2
  exact bodyPost_ret (v := .agg #[.int .i64 4, .int .i64 n]) (ft_of (w := w) w.heap.size HE.out.1 _ rfl) rfl ⟨rfl, HE.out.2⟩

set_option maxHeartbeats 1000000 in
theorem head_proto (v : Value) (bs : List Int) (w : World) (hA : Arr w v bs) (hl : 36 ≤ bs.length) (hby : ∀ v ∈ bs, 0 ≤ v ∧ v ≤ 255) (hk : nm bs 9 1 ≠ 17) :
    Calls Try.prog 23 #[v] w fun e w' => e = .returned (.agg #[.int .i64 (vhd bs).1, .int .i64 (vhd bs).2]) ∧ Below w.heap.size w w' := by
  have HF : Hid (vhd bs = (6, 9)) := Lib.hid (by unfold vhd; rw [if_neg (by omega), if_pos hk])
  rw [HF.out]
  rcases hA with ⟨_, h⟩ | ⟨ad, c, rfl, h2⟩
  · rw [h] at hl; simp at hl
  obtain ⟨b, o, rfl, hs⟩ := h2.plain (by omega)
  have h9 := hs 9 (by omega)
  have h22 := hs 22 (by omega)
  have h23 := hs 23 (by omega)
  have hlt : b < w.heap.size := cell_block (hs 0 (by omega))
  have hn9 : nm bs 9 1 = bs[9] := nm_one (by omega)
  have hn22 : nm bs 22 2 = bs[22] * 256 + bs[23] := nm_two (p := 22) (by omega)
  obtain ⟨hx0, hx1⟩ := hby bs[9] (List.getElem_mem _)
  obtain ⟨hy0, hy1⟩ := hby bs[22] (List.getElem_mem _)
  obtain ⟨hz0, hz1⟩ := hby bs[23] (List.getElem_mem _)
  obtain ⟨x, hx⟩ : ∃ x, bs[9] = x := ⟨_, rfl⟩
  obtain ⟨y, hy⟩ : ∃ y, bs[22] = y := ⟨_, rfl⟩
  obtain ⟨z, hz⟩ : ∃ z, bs[23] = z := ⟨_, rfl⟩
  rw [hx] at h9 hx0 hx1 hn9
  rw [hy] at h22 hy0 hy1 hn22
  rw [hz] at h23 hz0 hz1 hn22
  have hor := or_i64 y z hy0 hy1 hz0 hz1
  obtain ⟨n, hn⟩ : ∃ n, bs.length = n := ⟨_, rfl⟩
  have t1 : (x != 17) = true := by rw [hn9] at hk; simpa using hk
  clear hk
  rw [hn] at hl ⊢
  have e0 : ¬ ((n : Int) < 36) := by omega
  have e1 : (9 : Int) < (n : Int) := by omega
  have e2 : (22 : Int) < (n : Int) := by omega
  have e3 : (23 : Int) < (n : Int) := by omega
  clear hn hx hy hz hn9 hn22 h2 hs hby hl
  go_enter Try.func23, Try.ntmps23
  go_wp2
  exact bodyPost_ret (v := .agg #[.int .i64 6, .int .i64 9]) (ft_of (w := w) w.heap.size (Has.new w _ _) _ rfl) rfl ⟨rfl, (Below.refl _ w).alloc (Nat.le_refl _) _⟩

set_option maxHeartbeats 1000000 in
theorem head_port (v : Value) (bs : List Int) (w : World) (hA : Arr w v bs) (hl : 36 ≤ bs.length) (hby : ∀ v ∈ bs, 0 ≤ v ∧ v ≤ 255) (hk : nm bs 9 1 = 17) (hp : nm bs 22 2 ≠ 4789) :
    Calls Try.prog 23 #[v] w fun e w' => e = .returned (.agg #[.int .i64 (vhd bs).1, .int .i64 (vhd bs).2]) ∧ Below w.heap.size w w' := by
  have HF : Hid (vhd bs = (6, 22)) := Lib.hid (by unfold vhd; rw [if_neg (by omega), if_neg (by omega), if_pos hp])
  rw [HF.out]
  rcases hA with ⟨_, h⟩ | ⟨ad, c, rfl, h2⟩
  · rw [h] at hl; simp at hl
  obtain ⟨b, o, rfl, hs⟩ := h2.plain (by omega)
  have h9 := hs 9 (by omega)
  have h22 := hs 22 (by omega)
  have h23 := hs 23 (by omega)
  have hlt : b < w.heap.size := cell_block (hs 0 (by omega))
  have hn9 : nm bs 9 1 = bs[9] := nm_one (by omega)
  have hn22 : nm bs 22 2 = bs[22] * 256 + bs[23] := nm_two (p := 22) (by omega)
  obtain ⟨hx0, hx1⟩ := hby bs[9] (List.getElem_mem _)
  obtain ⟨hy0, hy1⟩ := hby bs[22] (List.getElem_mem _)
  obtain ⟨hz0, hz1⟩ := hby bs[23] (List.getElem_mem _)
  obtain ⟨x, hx⟩ : ∃ x, bs[9] = x := ⟨_, rfl⟩
  obtain ⟨y, hy⟩ : ∃ y, bs[22] = y := ⟨_, rfl⟩
  obtain ⟨z, hz⟩ : ∃ z, bs[23] = z := ⟨_, rfl⟩
  rw [hx] at h9 hx0 hx1 hn9
  rw [hy] at h22 hy0 hy1 hn22
  rw [hz] at h23 hz0 hz1 hn22
  have hor := or_i64 y z hy0 hy1 hz0 hz1
  obtain ⟨n, hn⟩ : ∃ n, bs.length = n := ⟨_, rfl⟩
  have t1 : (x != 17) = false := by rw [hn9] at hk; simpa using hk
  have t2 : (y * 256 + z != 4789) = true := by rw [hn22] at hp; simpa using hp
  clear hk hp
  rw [hn] at hl ⊢
  have e0 : ¬ ((n : Int) < 36) := by omega
  have e1 : (9 : Int) < (n : Int) := by omega
  have e2 : (22 : Int) < (n : Int) := by omega
  have e3 : (23 : Int) < (n : Int) := by omega
  clear hn hx hy hz hn9 hn22 h2 hs hby hl
  go_enter Try.func23, Try.ntmps23
  go_wp2
  go_quiet (fail)
  go_wp2
  have hA := (Below.refl w.heap.size w).alloc (Nat.le_refl _) (.cells #[.int .i64 0, .int .i64 0] 37)
  exact bodyPost_ret (v := .agg #[.int .i64 6, .int .i64 22]) (ft_of (w := w) w.heap.size (((show Has ((w.alloc (.cells #[.int .i64 0, .int .i64 0] 37)).drewN nq) w.heap.size 37 #[.int .i64 0, .int .i64 0] from Has.new w _ _).set_ 0 (.int .i64 6)).set_ 1 (.int .i64 22)) _ rfl) rfl ⟨rfl, ((hA.trans ((below_drewN _ nq).mono hA.size)).setCell (p := ⟨w.heap.size, 0, none⟩) (Nat.le_refl _) _).setCell (p := ⟨w.heap.size, 1, none⟩) (Nat.le_refl _) _⟩

set_option maxHeartbeats 1000000 in
theorem head_ok (v : Value) (bs : List Int) (w : World) (hA : Arr w v bs) (hl : 36 ≤ bs.length) (hby : ∀ v ∈ bs, 0 ≤ v ∧ v ≤ 255) (hk : nm bs 9 1 = 17) (hp : nm bs 22 2 = 4789) :
    Calls Try.prog 23 #[v] w fun e w' => e = .returned (.agg #[.int .i64 (vhd bs).1, .int .i64 (vhd bs).2]) ∧ Below w.heap.size w w' := by
  have HF : Hid (vhd bs = (0, 0)) := Lib.hid (by unfold vhd; rw [if_neg (by omega), if_neg (by omega), if_neg (by omega)])
  rw [HF.out]
  rcases hA with ⟨_, h⟩ | ⟨ad, c, rfl, h2⟩
  · rw [h] at hl; simp at hl
  obtain ⟨b, o, rfl, hs⟩ := h2.plain (by omega)
  have h9 := hs 9 (by omega)
  have h22 := hs 22 (by omega)
  have h23 := hs 23 (by omega)
  have hlt : b < w.heap.size := cell_block (hs 0 (by omega))
  have hn9 : nm bs 9 1 = bs[9] := nm_one (by omega)
  have hn22 : nm bs 22 2 = bs[22] * 256 + bs[23] := nm_two (p := 22) (by omega)
  obtain ⟨hx0, hx1⟩ := hby bs[9] (List.getElem_mem _)
  obtain ⟨hy0, hy1⟩ := hby bs[22] (List.getElem_mem _)
  obtain ⟨hz0, hz1⟩ := hby bs[23] (List.getElem_mem _)
  obtain ⟨x, hx⟩ : ∃ x, bs[9] = x := ⟨_, rfl⟩
  obtain ⟨y, hy⟩ : ∃ y, bs[22] = y := ⟨_, rfl⟩
  obtain ⟨z, hz⟩ : ∃ z, bs[23] = z := ⟨_, rfl⟩
  rw [hx] at h9 hx0 hx1 hn9
  rw [hy] at h22 hy0 hy1 hn22
  rw [hz] at h23 hz0 hz1 hn22
  have hor := or_i64 y z hy0 hy1 hz0 hz1
  obtain ⟨n, hn⟩ : ∃ n, bs.length = n := ⟨_, rfl⟩
  have t1 : (x != 17) = false := by rw [hn9] at hk; simpa using hk
  have t2 : (y * 256 + z != 4789) = false := by rw [hn22] at hp; simpa using hp
  clear hk hp
  rw [hn] at hl ⊢
  have e0 : ¬ ((n : Int) < 36) := by omega
  have e1 : (9 : Int) < (n : Int) := by omega
  have e2 : (22 : Int) < (n : Int) := by omega
  have e3 : (23 : Int) < (n : Int) := by omega
  clear hn hx hy hz hn9 hn22 h2 hs hby hl
  go_enter Try.func23, Try.ntmps23
  go_wp2
  go_quiet (fail)
  go_wp2
  have hA := (Below.refl w.heap.size w).alloc (Nat.le_refl _) (.cells #[.int .i64 0, .int .i64 0] 37)
  exact bodyPost_ret (v := .agg #[.int .i64 0, .int .i64 0]) (ft_of (w := w) w.heap.size (((show Has ((w.alloc (.cells #[.int .i64 0, .int .i64 0] 37)).drewN nq) w.heap.size 37 #[.int .i64 0, .int .i64 0] from Has.new w _ _).set_ 0 (.int .i64 0)).set_ 1 (.int .i64 0)) _ rfl) rfl ⟨rfl, ((hA.trans ((below_drewN _ nq).mono hA.size)).setCell (p := ⟨w.heap.size, 0, none⟩) (Nat.le_refl _) _).setCell (p := ⟨w.heap.size, 1, none⟩) (Nat.le_refl _) _⟩

theorem head_any (v : Value) (bs : List Int) (w : World) (hA : Arr w v bs) (hby : ∀ v ∈ bs, 0 ≤ v ∧ v ≤ 255) :
    Calls Try.prog 23 #[v] w fun e w' => e = .returned (.agg #[.int .i64 (vhd bs).1, .int .i64 (vhd bs).2]) ∧ Below w.heap.size w w' := by
  by_cases hl : bs.length < 36
  · exact head_short v bs w hA hl
  by_cases hk : nm bs 9 1 = 17
  · by_cases hp : nm bs 22 2 = 4789
    · exact head_ok v bs w hA (by omega) hby hk hp
    · exact head_port v bs w hA (by omega) hby hk hp
  · exact head_proto v bs w hA (by omega) hby hk

end Go.Proofs.Ytgdfpmnbofnjfaa
