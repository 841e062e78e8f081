/- Writers: the words for their memory; a buffer that grows by zeros. -/
import Derived.Test.YtgdfpmnbofnjfaaRdD
import Derived.Lib.AppendZerosOnto
import Derived.Laws.CopyOwn
namespace Go.Proofs.Ytgdfpmnbofnjfaa
open Go.RowKit
set_option maxRecDepth 100000

/-- Nothing but the blocks of the list, and what is new, has turned. -/
structure Turn (l : List Nat) (w w' : World) : Prop where
  os : w'.os = w.os
  tape : w'.tape = w.tape
  output : w'.output = w.output
  size : w.heap.size ≤ w'.heap.size
  block : ∀ k, k < w.heap.size → k ∉ l → w'.heap[k]? = w.heap[k]?

section
variable {l l' : List Nat} {a w w' : World}
theorem Turn.refl (l : List Nat) (w : World) : Turn l w w := ⟨rfl, rfl, rfl, Nat.le_refl _, fun _ _ _ => rfl⟩
theorem Turn.mono (h : Turn l a w) (hl : ∀ k ∈ l, k ∈ l' ∨ a.heap.size ≤ k) : Turn l' a w :=
  ⟨h.os, h.tape, h.output, h.size, fun k hk hn => h.block k hk (fun hm => by rcases hl k hm with h1 | h1; exact hn h1; omega)⟩
theorem Turn.trans (h : Turn l a w) (k : Turn l w w') : Turn l a w' :=
  ⟨k.os.trans h.os, k.tape.trans h.tape, k.output.trans h.output, Nat.le_trans h.size k.size, fun i hi hn => (k.block i (Nat.lt_of_lt_of_le hi h.size) hn).trans (h.block i hi hn)⟩
/-- A second step that turns what the first one made too. -/
theorem Turn.then_ (h : Turn l a w) (k : Turn l' w w') (hl : ∀ x ∈ l', x ∈ l ∨ a.heap.size ≤ x) : Turn l a w' :=
  ⟨k.os.trans h.os, k.tape.trans h.tape, k.output.trans h.output, Nat.le_trans h.size k.size, fun i hi hn => (k.block i (Nat.lt_of_lt_of_le hi h.size) (fun hm => by rcases hl i hm with h1 | h1; exact hn h1; omega)).trans (h.block i hi hn)⟩
theorem Turn.below {B : Nat} (h : Turn l a w) (hl : ∀ k ∈ l, B ≤ k) (hB : B ≤ a.heap.size) : Below B a w :=
  ⟨h.os, h.tape, h.output, h.size, fun k hk => h.block k (by omega) (fun hm => by have := hl k hm; omega)⟩
theorem turn_only {g : Nat} (h : Only a g w) : Turn [g] a w := ⟨h.os, h.tape, h.output, h.size, fun k hk hn => h.block k hk (by rintro ⟨⟩; simp at hn)⟩
theorem turn_grown {row : Option Nat} (h : a.grownBy w row) : Turn row.toList a w := ⟨h.os, h.tape, h.output, h.size, fun k hk hn => h.block k hk (by rintro rfl; simp at hn)⟩
theorem turn_below (h : Below a.heap.size a w) (l : List Nat) : Turn l a w := ⟨h.os, h.tape, h.output, h.size, fun k hk _ => h.block k hk⟩
theorem Turn.alloc (h : Turn l a w) (o : Obj) : Turn l a (w.alloc o) :=
  ⟨h.os, h.tape, h.output, Nat.le_trans h.size (by simp), fun i hi hn => (Below.heap_alloc w o i (Nat.lt_of_lt_of_le hi h.size)).trans (h.block i hi hn)⟩
theorem Turn.drew (h : Turn l a w) : Turn l a w.drew := ⟨h.os, h.tape, h.output, h.size, h.block⟩
theorem Turn.set_ (h : Turn l a w) {p : Addr} (hp : p.block ∈ l ∨ a.heap.size ≤ p.block) (u : Value) : Turn l a (w.setCell p u) :=
  ⟨h.os, h.tape, h.output, by simpa [World.setCell] using h.size, fun i hi hn => (Below.heap_setCell w p u i (by
    rintro rfl
    rcases hp with hp | hp
    · exact hn hp
    · omega)).trans (h.block i hi hn)⟩
theorem Has.turn {g : Nat} {t : TypeId} {cs : Array Value} (h : Has w g t cs) (ht : Turn l w w') (hn : g ∉ l) : Has w' g t cs := (ht.block g h.lt hn).trans h
theorem Row.turn {g cap : Nat} {bs : List Int} (h : Row w g cap bs) (ht : Turn l w w') (hn : g ∉ l) : Row w' g cap bs := by
  obtain ⟨cur, hh, r⟩ := h
  exact ⟨cur, hh.turn ht hn, r⟩
end

/-- A slice that holds these bytes: nil, or the beginning of a block. -/
def Vec (w : World) (v : Value) (xs : List Int) : Prop :=
  (v = .slice none 0 0 ∧ xs = []) ∨ ∃ g cap, v = .slice (some ⟨g, 0, none⟩) xs.length cap ∧ Row w g cap xs

theorem Vec.turn {l : List Nat} {w w' : World} {v : Value} {xs : List Int} (h : Vec w v xs) (ht : Turn l w w') (hn : ∀ g, v.ownBlock = some g → g ∉ l) : Vec w' v xs := by
  rcases h with h | ⟨g, cap, rfl, hr⟩
  · exact .inl h
  · exact .inr ⟨g, cap, rfl, hr.turn ht (hn g rfl)⟩

theorem Row.lt {w : World} {h cap : Nat} {bs : List Int} (H : Row w h cap bs) : h < w.heap.size := by
  obtain ⟨cur, hh, _⟩ := H
  exact hh.lt

theorem Vec.lt {w : World} {v : Value} {xs : List Int} (h : Vec w v xs) {g : Nat} (hg : v.ownBlock = some g) : g < w.heap.size := by
  rcases h with ⟨rfl, _⟩ | ⟨g', cap, rfl, hr⟩
  · cases hg
  · injection hg with hg
    subst hg
    exact hr.lt

theorem zeros_u8 (k : Nat) : (Builtin.zeroCells (Value.cells (.int .u8 0)) k) = (u8s (List.replicate k 0)).toArray := by
  apply Array.ext'
  simp [Builtin.zeroCells, Value.cells, Nat.mod_one, List.map_const']

/-- append(s, make([]byte, k)...) -/
theorem run_grow (w : World) (v : Value) (xs : List Int) (hv : Vec w v xs) (k : Nat) (hk : xs.length + k ≤ 1000000) (ty : TypeId) :
    ∃ v' w', (Builtin.append_ #[40, 3] ty #[v, .int .i64 k]).run Try.prog w = .ok v' w' ∧ Vec w' v' (xs ++ List.replicate k 0) ∧ Turn v.ownBlock.toList w w' ∧ (v'.ownBlock = v.ownBlock ∨ v'.ownBlock = some w.heap.size) := by
  obtain ⟨i0, hi, hz0, hz1, hz2⟩ := info_parts info_u8
  have hz : i0.zero = some (.int .u8 0) := hz0
  rcases hv with ⟨rfl, rfl⟩ | ⟨g, cap, rfl, cur, hh, hcs, hct, hl, hcm⟩
  · by_cases h0 : k = 0
    · subst h0
      refine ⟨.slice none 0 0, w, ?_, .inl ⟨rfl, rfl⟩, Turn.refl _ _, .inl rfl⟩
      simp [Builtin.append_, run_underlying Try.underlying40, run_underlying Try.underlying3, sizeOf, typeInfo, hi, asInt, asIntOf, IntKind.wrap_i64]
    · have hr := Lib.run_append_nil_zeros (P := Try.prog) w 40 3 ty 5 i0 (.int .u8 0) .i64 .i64 Try.underlying40 Try.underlying3 hi hz k (by omega) (by omega) (by omega) (by rw [hz2]; omega)
      rw [zeros_u8, zeros_u8] at hr
      have hge := grownCap_ge w k 0 5
      have hle := grownCap_le_maxLen w k 0 5 (by unfold maxLen; omega)
      refine ⟨_, _, hr, .inr ⟨w.heap.size, _, by simp, _, Has.new w.drew 5 _, ?_, ?_, by simpa using hge, hle⟩, (Turn.refl _ w).drew.alloc _, .inr rfl⟩
      · simp
        omega
      · simp
  · by_cases h0 : k = 0
    · subst h0
      refine ⟨.slice (some ⟨g, 0, none⟩) xs.length cap, w, ?_, .inr ⟨g, cap, by simp, cur, hh, hcs, by simpa using hct, by simpa using hl, hcm⟩, Turn.refl _ _, .inl rfl⟩
      simp [Builtin.append_, run_underlying Try.underlying40, run_underlying Try.underlying3, sizeOf, typeInfo, hi, asInt, asIntOf, IntKind.wrap_i64, hl, storeCells]
    · have hw : IntKind.i64.wrap (k : Int) = k := by rw [IntKind.wrap_i64]; omega
      have hneg : ¬ ((k : Int) < 0) := by omega
      by_cases hroom : xs.length + k ≤ cap
      · have hst := run_storeCells_at Try.prog g xs.length 5 (u8s (List.replicate k 0)) 0 cur w hh (by simp; omega) (u8s_one _)
        simp only [Nat.add_zero] at hst
        have h48i : ¬ (281474976710656 < (k : Int) * (i0.bytes : Int)) := by rw [hz2]; omega
        refine ⟨.slice (some ⟨g, 0, none⟩) (xs.length + k) cap, w.setRow g (cur.toList.take xs.length ++ u8s (List.replicate k 0) ++ cur.toList.drop (xs.length + (u8s (List.replicate k 0)).length)).toArray, ?_, .inr ⟨g, cap, by simp, _, setRow_heap w g cur _ 5 _ hh, ?_, ?_, by simpa using hroom, hcm⟩, ⟨rfl, rfl, rfl, by simp [World.setRow], fun j _ hj => setRow_other w g j _ (by rintro rfl; simp [Value.ownBlock] at hj)⟩, .inl rfl⟩
        · simp [Builtin.append_, run_underlying Try.underlying40, run_underlying Try.underlying3, sizeOf, typeInfo, zeroValue, hi, hz, hz1, asInt, asIntOf, hw, hneg, h48i, h0, hroom, Addr.add_lit, zeros_u8]
          simp only [List.map_replicate, List.length_replicate, List.append_assoc] at hst
          rw [hst]
          simp
        · simp
          omega
        · have e1 : cur.toList.take xs.length = u8s xs := hct
          simp only [List.length_append, List.length_replicate, e1, List.append_assoc]
          rw [← List.append_assoc, List.take_left' (by simp)]
          simp
      · have holds : (Builtin.firstCells i0.size xs.length (.slice (some ⟨g, 0, none⟩) xs.length cap)).run Try.prog w.drew = .ok (u8s xs).toArray w.drew := by
          refine run_firstCells_some (P := Try.prog) w.drew i0.size xs.length ⟨g, 0, none⟩ xs.length cap (u8s xs) (by rw [hz1]; simp) ?_
          have hR : Row w g cap xs := ⟨cur, hh, hcs, hct, hl, hcm⟩
          exact hR.all.at_
        have hr := Lib.run_append_grow_zeros (P := Try.prog) w 40 3 ty 5 i0 (.int .u8 0) .i64 .i64 Try.underlying40 Try.underlying3 hi hz (some ⟨g, 0, none⟩) xs.length cap (u8s xs) holds k (by omega) (by omega) (by omega) (by omega) (by rw [hz2]; omega) (by
          have := growslice_fits (bytes := i0.bytes) (need := xs.length + k) (old := cap) (by omega) (by rw [hz2]; omega)
          exact this)
        rw [zeros_u8, zeros_u8] at hr
        have hge := grownCap_ge w (xs.length + k) cap 5
        have hle := grownCap_le_maxLen w (xs.length + k) cap 5 (by unfold maxLen; omega)
        refine ⟨_, _, hr, .inr ⟨w.heap.size, _, by simp, _, Has.new w.drew 5 _, ?_, ?_, by simpa using hge, hle⟩, (Turn.refl _ w).drew.alloc _, .inr rfl⟩
        · simp
          omega
        · simp only [List.length_append, List.length_replicate, Array.toList_append]
          rw [List.take_left' (by simp)]
          simp

end Go.Proofs.Ytgdfpmnbofnjfaa
