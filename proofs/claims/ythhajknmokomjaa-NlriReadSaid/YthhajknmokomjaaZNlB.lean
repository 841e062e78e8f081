/- Routes: the map of codings, made and read. -/
import Derived.Test.YthhajknmokomjaaZNlA
import Derived.Maps.OwnOps
namespace Go.Proofs.Ythhajknmokomjaa
open Go.RowKit Go.Maps
set_option linter.unusedVariables false
set_option maxRecDepth 100000

/-- The type of a kind. -/
def tk : Nat → TypeId
  | 1 => 91
  | 2 => 92
  | 3 => 93
  | 4 => 94
  | _ => 95

theorem find_yes (k : Nat) (h1 : 1 ≤ k) (h5 : k ≤ 5) : ∃ i, Instr.findNow (.int .i64) (.int .i64 (k : Int)) codes.toList 0 = some (some (i, cod (tk k))) := by
  have h : k = 1 ∨ k = 2 ∨ k = 3 ∨ k = 4 ∨ k = 5 := by omega
  rcases h with rfl | rfl | rfl | rfl | rfl
  · exact ⟨0, rfl⟩
  · exact ⟨1, rfl⟩
  · exact ⟨2, rfl⟩
  · exact ⟨3, rfl⟩
  · exact ⟨4, rfl⟩
theorem find_no (k : Int) (h : k < 1 ∨ 5 < k) : Instr.findNow (.int .i64) (.int .i64 k) codes.toList 0 = some none := by
  have h1 : (k == 1) = false := by simp; omega
  have h2 : (k == 2) = false := by simp; omega
  have h3 : (k == 3) = false := by simp; omega
  have h4 : (k == 4) = false := by simp; omega
  have h5 : (k == 5) = false := by simp; omega
  simp [codes, Instr.findNow, Instr.sameNow, h1, h2, h3, h4, h5]

theorem look_yes (w : World) (b n : Nat) (h : MapAt w b codes n) (k : Nat) (h1 : 1 ≤ k) (h5 : k ≤ 5) (c : Bool) :
    (Instr.lookup 58 (.map (some b)) (.int .i64 (k : Int)) c).run Try.prog w = .ok (if c then .tuple #[cod (tk k), .bool true] else cod (tk k)) w := by
  have hb : w.heap[b]? = some (.map codes n) := h
  have hkey := Go.Maps.keyOf_int_mk (P := Try.prog) (k := 3) (q := .i64) (a := (k : Int)) Try.underlying3 (WalkArith.wf_i64 (by omega))
  have hch := (Go.Maps.int_keyed (P := Try.prog) Try.underlying3).check w codes.isEmpty hkey
  obtain ⟨i, hi⟩ := find_yes k h1 h5
  simp [Instr.lookup, run_underlying Try.underlying58, run_underlying Try.underlying3, MapKept.run_getObj_map hb, hch, Instr.findKey, hi, Result.andThen]
theorem look_no (w : World) (b n : Nat) (h : MapAt w b codes n) (k : Int) (hk : k < 1 ∨ 5 < k) (hwf : (Lit.int .i64 k).wf = true) :
    (Instr.lookup 58 (.map (some b)) (.int .i64 k) true).run Try.prog w = .ok (.tuple #[.nilIface, .bool false]) w := by
  have hb : w.heap[b]? = some (.map codes n) := h
  have hkey := Go.Maps.keyOf_int_mk (P := Try.prog) (k := 3) Try.underlying3 hwf
  have hch := (Go.Maps.int_keyed (P := Try.prog) Try.underlying3).check w codes.isEmpty hkey
  simp [Instr.lookup, run_underlying Try.underlying58, run_underlying Try.underlying3, MapKept.run_getObj_map hb, hch, Instr.findKey, find_no k hk, Result.andThen]

set_option maxHeartbeats 1000000 in
theorem codings_any (w : World) :
    Calls Try.prog 23 #[] w fun e w' => ∃ b, e = .returned (.map (some b)) ∧ MapAt w' b codes 5 ∧ Below w.heap.size w w' := by
  have hmm := @run_makeMap Try.prog
  have hm0 : MapAt (w.alloc (.map #[] 0)) w.heap.size #[] 0 := heap_alloc_new w _
  obtain ⟨w1, r1, m1, o1⟩ := run_insert _ _ _ _ hm0 1 rfl (cod 91) rfl
  obtain ⟨w2, r2, m2, o2⟩ := run_insert _ _ _ _ m1 2 rfl (cod 92) rfl
  obtain ⟨w3, r3, m3, o3⟩ := run_insert _ _ _ _ m2 3 rfl (cod 93) rfl
  obtain ⟨w4, r4, m4, o4⟩ := run_insert _ _ _ _ m3 4 rfl (cod 94) rfl
  obtain ⟨w5, r5, m5, o5⟩ := run_insert _ _ _ _ m4 5 rfl (cod 95) rfl
  have hb : Below w.heap.size w w5 := below_only ((Below.refl _ w).alloc (Nat.le_refl _) _) (only_trans (only_trans (only_trans (only_trans o1 o2) o3) o4) o5) (Nat.le_refl _) (by simp)
  have HF : Hid (MapAt w5 w.heap.size codes 5 ∧ Below w.heap.size w w5) := Lib.hid ⟨m5, hb⟩
  have R1 := Lib.hid r1
  have R2 := Lib.hid r2
  have R3 := Lib.hid r3
  have R4 := Lib.hid r4
  have R5 := Lib.hid r5
  clear hm0 m1 m2 m3 m4 m5 o1 o2 o3 o4 o5 r1 r2 r3 r4 r5 hb
  go_enter Try.func23, Try.ntmps23
  go_wp2_with (first
    | (refine wpList_insert rfl (.tmp 1) (.const (.int .i64 1)) (.tmp 3) 58 rfl (.map (some w.heap.size)) (.int .i64 1) (cod 91) rfl rfl rfl w1 R1.out ?_)
    | (refine wpList_insert rfl (.tmp 1) (.const (.int .i64 2)) (.tmp 5) 58 rfl (.map (some w.heap.size)) (.int .i64 2) (cod 92) rfl rfl rfl w2 R2.out ?_)
    | (refine wpList_insert rfl (.tmp 1) (.const (.int .i64 3)) (.tmp 7) 58 rfl (.map (some w.heap.size)) (.int .i64 3) (cod 93) rfl rfl rfl w3 R3.out ?_)
    | (refine wpList_insert rfl (.tmp 1) (.const (.int .i64 4)) (.tmp 9) 58 rfl (.map (some w.heap.size)) (.int .i64 4) (cod 94) rfl rfl rfl w4 R4.out ?_)
    | (refine wpList_insert rfl (.tmp 1) (.const (.int .i64 5)) (.tmp 11) 58 rfl (.map (some w.heap.size)) (.int .i64 5) (cod 95) rfl rfl rfl w5 R5.out ?_))
  go_ret
  exact ⟨_, rfl, HF.out.1, HF.out.2⟩

end Go.Proofs.Ythhajknmokomjaa
