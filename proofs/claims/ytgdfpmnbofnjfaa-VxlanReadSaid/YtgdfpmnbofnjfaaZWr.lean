/- Writers: the words for their memory; a buffer that grows by zeros. -/
import Derived.Test.YtgdfpmnbofnjfaaZRd
import Derived.Lib.AppendZerosOnto
import Derived.Laws.CopyOwn
import Derived.Maps.OwnSet
import Derived.Maps.OwnOps
namespace Go.Proofs.Ytgdfpmnbofnjfaa
open Go.RowKit
set_option maxRecDepth 100000

/-- Nothing but the blocks of the list, and what is new, has turned. -/
structure Turn (l : List Nat) (w w' : World) : Prop where
  os : w'.os = w.os
  tape : w'.tape = w.tape
  output : w'.output = w.output
  size : w.heap.size ≤ w'.heap.size
  block : ∀ k, k < w.heap.size → k ∉ l → w'.heap[k]? = w.heap[k]?

section
variable {l l' : List Nat} {a w w' : World}
theorem Turn.refl (l : List Nat) (w : World) : Turn l w w := ⟨rfl, rfl, rfl, Nat.le_refl _, fun _ _ _ => rfl⟩
theorem Turn.mono (h : Turn l a w) (hl : ∀ k ∈ l, k ∈ l' ∨ a.heap.size ≤ k) : Turn l' a w :=
  ⟨h.os, h.tape, h.output, h.size, fun k hk hn => h.block k hk (fun hm => by rcases hl k hm with h1 | h1; exact hn h1; omega)⟩
theorem Turn.trans (h : Turn l a w) (k : Turn l w w') : Turn l a w' :=
  ⟨k.os.trans h.os, k.tape.trans h.tape, k.output.trans h.output, Nat.le_trans h.size k.size, fun i hi hn => (k.block i (Nat.lt_of_lt_of_le hi h.size) hn).trans (h.block i hi hn)⟩
/-- A second step that turns what the first one made too. -/
theorem Turn.then_ (h : Turn l a w) (k : Turn l' w w') (hl : ∀ x ∈ l', x ∈ l ∨ a.heap.size ≤ x) : Turn l a w' :=
  ⟨k.os.trans h.os, k.tape.trans h.tape, k.output.trans h.output, Nat.le_trans h.size k.size, fun i hi hn => (k.block i (Nat.lt_of_lt_of_le hi h.size) (fun hm => by rcases hl i hm with h1 | h1; exact hn h1; omega)).trans (h.block i hi hn)⟩
theorem Turn.below {B : Nat} (h : Turn l a w) (hl : ∀ k ∈ l, B ≤ k) (hB : B ≤ a.heap.size) : Below B a w :=
  ⟨h.os, h.tape, h.output, h.size, fun k hk => h.block k (by omega) (fun hm => by have := hl k hm; omega)⟩
theorem turn_only {g : Nat} (h : Only a g w) : Turn [g] a w := ⟨h.os, h.tape, h.output, h.size, fun k hk hn => h.block k hk (by rintro ⟨⟩; simp at hn)⟩
theorem turn_grown {row : Option Nat} (h : a.grownBy w row) : Turn row.toList a w := ⟨h.os, h.tape, h.output, h.size, fun k hk hn => h.block k hk (by rintro rfl; simp at hn)⟩
theorem turn_below (h : Below a.heap.size a w) (l : List Nat) : Turn l a w := ⟨h.os, h.tape, h.output, h.size, fun k hk _ => h.block k hk⟩
theorem Turn.alloc (h : Turn l a w) (o : Obj) : Turn l a (w.alloc o) :=
  ⟨h.os, h.tape, h.output, Nat.le_trans h.size (by simp), fun i hi hn => (Below.heap_alloc w o i (Nat.lt_of_lt_of_le hi h.size)).trans (h.block i hi hn)⟩
theorem Turn.drew (h : Turn l a w) : Turn l a w.drew := ⟨h.os, h.tape, h.output, h.size, h.block⟩
theorem Turn.set_ (h : Turn l a w) {p : Addr} (hp : p.block ∈ l ∨ a.heap.size ≤ p.block) (u : Value) : Turn l a (w.setCell p u) :=
  ⟨h.os, h.tape, h.output, by simpa [World.setCell] using h.size, fun i hi hn => (Below.heap_setCell w p u i (by
    rintro rfl
    rcases hp with hp | hp
    · exact hn hp
    · omega)).trans (h.block i hi hn)⟩
theorem Has.turn {g : Nat} {t : TypeId} {cs : Array Value} (h : Has w g t cs) (ht : Turn l w w') (hn : g ∉ l) : Has w' g t cs := (ht.block g h.lt hn).trans h
theorem Row.turn {g cap : Nat} {bs : List Int} (h : Row w g cap bs) (ht : Turn l w w') (hn : g ∉ l) : Row w' g cap bs := by
  obtain ⟨cur, hh, r⟩ := h
  exact ⟨cur, hh.turn ht hn, r⟩
end

/-- A slice that holds these bytes: nil, or the beginning of a block. -/
def Vec (w : World) (v : Value) (xs : List Int) : Prop :=
  (v = .slice none 0 0 ∧ xs = []) ∨ ∃ g cap, v = .slice (some ⟨g, 0, none⟩) xs.length cap ∧ Row w g cap xs

theorem Vec.turn {l : List Nat} {w w' : World} {v : Value} {xs : List Int} (h : Vec w v xs) (ht : Turn l w w') (hn : ∀ g, v.ownBlock = some g → g ∉ l) : Vec w' v xs := by
  rcases h with h | ⟨g, cap, rfl, hr⟩
  · exact .inl h
  · exact .inr ⟨g, cap, rfl, hr.turn ht (hn g rfl)⟩

theorem Row.lt {w : World} {h cap : Nat} {bs : List Int} (H : Row w h cap bs) : h < w.heap.size := by
  obtain ⟨cur, hh, _⟩ := H
  exact hh.lt

theorem Vec.lt {w : World} {v : Value} {xs : List Int} (h : Vec w v xs) {g : Nat} (hg : v.ownBlock = some g) : g < w.heap.size := by
  rcases h with ⟨rfl, _⟩ | ⟨g', cap, rfl, hr⟩
  · cases hg
  · injection hg with hg
    subst hg
    exact hr.lt

theorem zeros_u8 (k : Nat) : (Builtin.zeroCells (Value.cells (.int .u8 0)) k) = (u8s (List.replicate k 0)).toArray := by
  apply Array.ext'
  simp [Builtin.zeroCells, Value.cells, Nat.mod_one, List.map_const']

/-- append(s, make([]byte, k)...) -/
theorem run_grow (w : World) (v : Value) (xs : List Int) (hv : Vec w v xs) (k : Nat) (hk : xs.length + k ≤ 1000000) (ty : TypeId) :
    ∃ v' w', (Builtin.append_ #[40, 3] ty #[v, .int .i64 k]).run Try.prog w = .ok v' w' ∧ Vec w' v' (xs ++ List.replicate k 0) ∧ Turn v.ownBlock.toList w w' ∧ (v'.ownBlock = v.ownBlock ∨ v'.ownBlock = some w.heap.size) := by
  obtain ⟨i0, hi, hz0, hz1, hz2⟩ := info_parts info_u8
  have hz : i0.zero = some (.int .u8 0) := hz0
  rcases hv with ⟨rfl, rfl⟩ | ⟨g, cap, rfl, cur, hh, hcs, hct, hl, hcm⟩
  · by_cases h0 : k = 0
    · subst h0
      refine ⟨.slice none 0 0, w, ?_, .inl ⟨rfl, rfl⟩, Turn.refl _ _, .inl rfl⟩
      simp [Builtin.append_, run_underlying Try.underlying40, run_underlying Try.underlying3, sizeOf, typeInfo, hi, asInt, asIntOf, IntKind.wrap_i64]
    · have hr := Lib.run_append_nil_zeros (P := Try.prog) w 40 3 ty 5 i0 (.int .u8 0) .i64 .i64 Try.underlying40 Try.underlying3 hi hz k (by omega) (by omega) (by omega) (by rw [hz2]; omega)
      rw [zeros_u8, zeros_u8] at hr
      have hge := grownCap_ge w k 0 5
      have hle := grownCap_le_maxLen w k 0 5 (by unfold maxLen; omega)
      refine ⟨_, _, hr, .inr ⟨w.heap.size, _, by simp, _, Has.new w.drew 5 _, ?_, ?_, by simpa using hge, hle⟩, (Turn.refl _ w).drew.alloc _, .inr rfl⟩
      · simp
        omega
      · simp
  · by_cases h0 : k = 0
    · subst h0
      refine ⟨.slice (some ⟨g, 0, none⟩) xs.length cap, w, ?_, .inr ⟨g, cap, by simp, cur, hh, hcs, by simpa using hct, by simpa using hl, hcm⟩, Turn.refl _ _, .inl rfl⟩
      simp [Builtin.append_, run_underlying Try.underlying40, run_underlying Try.underlying3, sizeOf, typeInfo, hi, asInt, asIntOf, IntKind.wrap_i64, hl, storeCells]
    · have hw : IntKind.i64.wrap (k : Int) = k := by rw [IntKind.wrap_i64]; omega
      have hneg : ¬ ((k : Int) < 0) := by omega
      by_cases hroom : xs.length + k ≤ cap
      · have hst := run_storeCells_at Try.prog g xs.length 5 (u8s (List.replicate k 0)) 0 cur w hh (by simp; omega) (u8s_one _)
        simp only [Nat.add_zero] at hst
        have h48i : ¬ (281474976710656 < (k : Int) * (i0.bytes : Int)) := by rw [hz2]; omega
        refine ⟨.slice (some ⟨g, 0, none⟩) (xs.length + k) cap, w.setRow g (cur.toList.take xs.length ++ u8s (List.replicate k 0) ++ cur.toList.drop (xs.length + (u8s (List.replicate k 0)).length)).toArray, ?_, .inr ⟨g, cap, by simp, _, setRow_heap w g cur _ 5 _ hh, ?_, ?_, by simpa using hroom, hcm⟩, ⟨rfl, rfl, rfl, by simp [World.setRow], fun j _ hj => setRow_other w g j _ (by rintro rfl; simp [Value.ownBlock] at hj)⟩, .inl rfl⟩
        · simp [Builtin.append_, run_underlying Try.underlying40, run_underlying Try.underlying3, sizeOf, typeInfo, zeroValue, hi, hz, hz1, asInt, asIntOf, hw, hneg, h48i, h0, hroom, Addr.add_lit, zeros_u8]
          simp only [List.map_replicate, List.length_replicate, List.append_assoc] at hst
          rw [hst]
          simp
        · simp
          omega
        · have e1 : cur.toList.take xs.length = u8s xs := hct
          simp only [List.length_append, List.length_replicate, e1, List.append_assoc]
          rw [← List.append_assoc, List.take_left' (by simp)]
          simp
      · have holds : (Builtin.firstCells i0.size xs.length (.slice (some ⟨g, 0, none⟩) xs.length cap)).run Try.prog w.drew = .ok (u8s xs).toArray w.drew := by
          refine run_firstCells_some (P := Try.prog) w.drew i0.size xs.length ⟨g, 0, none⟩ xs.length cap (u8s xs) (by rw [hz1]; simp) ?_
          have hR : Row w g cap xs := ⟨cur, hh, hcs, hct, hl, hcm⟩
          exact hR.all.at_
        have hr := Lib.run_append_grow_zeros (P := Try.prog) w 40 3 ty 5 i0 (.int .u8 0) .i64 .i64 Try.underlying40 Try.underlying3 hi hz (some ⟨g, 0, none⟩) xs.length cap (u8s xs) holds k (by omega) (by omega) (by omega) (by omega) (by rw [hz2]; omega) (by
          have := growslice_fits (bytes := i0.bytes) (need := xs.length + k) (old := cap) (by omega) (by rw [hz2]; omega)
          exact this)
        rw [zeros_u8, zeros_u8] at hr
        have hge := grownCap_ge w (xs.length + k) cap 5
        have hle := grownCap_le_maxLen w (xs.length + k) cap 5 (by unfold maxLen; omega)
        refine ⟨_, _, hr, .inr ⟨w.heap.size, _, by simp, _, Has.new w.drew 5 _, ?_, ?_, by simpa using hge, hle⟩, (Turn.refl _ w).drew.alloc _, .inr rfl⟩
        · simp
          omega
        · simp only [List.length_append, List.length_replicate, Array.toList_append]
          rw [List.take_left' (by simp)]
          simp

end Go.Proofs.Ytgdfpmnbofnjfaa

namespace Go.Proofs.Ytgdfpmnbofnjfaa
open Go.RowKit
set_option maxRecDepth 100000
set_option linter.unusedVariables false

/-- The last k bytes of a number, most significant byte first. -/
def be (v : Int) : Nat → List Int
  | 0 => []
  | k + 1 => v / 256 ^ k % 256 :: be v k

theorem be_length (v : Int) (k : Nat) : (be v k).length = k := by induction k <;> simp_all [be]
theorem be_byte (v : Int) (k : Nat) : ∀ x ∈ be v k, 0 ≤ x ∧ x ≤ 255 := by
  induction k with
  | zero => simp [be]
  | succ k ih =>
    intro x hx
    simp only [be, List.mem_cons] at hx
    rcases hx with rfl | hx
    · omega
    · exact ih x hx

theorem Row.set_ {w : World} {h cap : Nat} {bs : List Int} (H : Row w h cap bs) (j : Nat) (x : Int) : Row (w.setCell ⟨h, j, none⟩ (.int .u8 x)) h cap (bs.set j x) := by
  obtain ⟨cur, hh, hs, ht, hl, hm⟩ := H
  refine ⟨_, hh.set_ j (.int .u8 x), by simpa using hs, ?_, by simpa using hl, hm⟩
  rw [List.length_set, Array.toList_setIfInBounds, List.take_set, ht]
  simp [List.map_set]

theorem splice_step (xs : List Int) (o n k : Nat) (v x : Int) (hk : k < n) (ho : o + n ≤ xs.length) (hx : x = v / 256 ^ k % 256) :
    (xs.take (o + n - k) ++ be v k ++ xs.drop (o + n)).set (o + (n - 1 - k)) x = xs.take (o + n - (k + 1)) ++ be v (k + 1) ++ xs.drop (o + n) := by
  subst hx
  have e1 : o + (n - 1 - k) = o + n - (k + 1) := by omega
  have e2 : xs.take (o + n - k) = xs.take (o + n - (k + 1)) ++ [xs[o + n - (k + 1)]'(by omega)] := by
    rw [show o + n - k = (o + n - (k + 1)) + 1 by omega, List.take_succ_eq_append_getElem (by omega)]
  rw [e1, e2]
  simp only [List.append_assoc, be, List.cons_append]
  rw [List.set_append_right _ _ (by simp; omega)]
  have e3 : o + n - (k + 1) - (xs.take (o + n - (k + 1))).length = 0 := by simp; omega
  rw [e3]
  rfl

theorem pow_eight (k : Nat) : (2 : Int) ^ (8 * k) = 256 ^ k := by
  rw [Int.pow_mul]
  rfl

set_option maxHeartbeats 1000000 in
theorem wput64 (h o n c cap : Nat) (xs : List Int) (v : Int) (w : World) (hn : n ≤ 8) (ho : o + n ≤ xs.length) (h0 : 0 ≤ v) (h1 : v < 18446744073709551616) (H : Row w h cap xs) (hl : xs.length ≤ 1000000) :
    Calls Try.prog 88 #[.slice (some ⟨h, o, none⟩) n c, .int .u64 v] w fun e w' => e = .returned (.tuple #[]) ∧ Row w' h cap (xs.take o ++ be v n ++ xs.drop (o + n)) ∧ Only w h w' := by
  have HH := Lib.hid H
  clear H
  go_enter Try.func88, Try.ntmps88
  go_wp2
  go_loopw [7] (fun i wr => ∃ k : Nat, k ≤ n ∧ i = .int .i64 k ∧ Row wr h cap (xs.take (o + n - k) ++ be v k ++ xs.drop (o + n)) ∧ Only w h wr) (fun i _ => n - (intOf i).toNat)
  case atStart => exact ⟨0, Nat.zero_le _, rfl, by simpa [be] using HH.out, only_refl w h⟩
  case round =>
    obtain ⟨k, hk, rfl, hR, hO⟩ := hrel
    by_cases hlt : k < n
    · have hcell := hR.cell (o + (n - 1 - k)) (by simp [be_length]; omega)
      obtain ⟨y, hy⟩ : ∃ y, (xs.take (o + n - k) ++ be v k ++ xs.drop (o + n))[o + (n - 1 - k)]'(by simp [be_length]; omega) = y := ⟨_, rfl⟩
      rw [hy] at hcell
      have hfree : wr.frozen? ⟨h, o + (n - 1 - k), none⟩ = false := by
        obtain ⟨cur, hh, _⟩ := hR
        exact hh.free _
      have HR := Lib.hid hR
      have HO := Lib.hid hO
      clear hy hR hO
      go_wp2
      go_roundw
      case rel =>
        refine ⟨k + 1, by omega, by go_num, ?_, only_set HO.out (.inl rfl) _⟩
        have hs := HR.out.set_ (o + (n - 1 - k)) (v / 2 ^ (8 * k) % 256)
        rw [splice_step xs o n k v _ hlt ho (by rw [pow_eight])] at hs
        exact hs
      case measure => simp [intOf]; omega
    · have hke : k = n := by omega
      subst hke
      have HR := Lib.hid hR
      have HO := Lib.hid hO
      clear hR hO
      go_wp2
      go_end0
      exact ⟨rfl, by simpa using HR.out, HO.out⟩

theorem wput_nil (v : Int) (w : World) (n c : Nat) (a : Option Addr) (hn : n = 0) :
    Calls Try.prog 88 #[.slice a n c, .int .u64 v] w fun e w' => e = .returned (.tuple #[]) ∧ w = w' := by
  subst hn
  go_enter Try.func88, Try.ntmps88
  go_wp2
  go_loop [7] (fun i => i = .int .i64 0) (fun i => 0)
  case atStart => rfl
  case round =>
    subst hrel
    go_wp2
    go_end0
    exact ⟨rfl, rfl⟩

end Go.Proofs.Ytgdfpmnbofnjfaa

namespace Go.Proofs.Ytgdfpmnbofnjfaa
open Go.RowKit Go.Maps
set_option maxRecDepth 100000
set_option linter.unusedVariables false

/-- What a writer is: its limit, its bytes, the offsets of its open marks. -/
structure WS where
  lim : Nat
  out : List Int
  marks : List Int

/-- Block b is a map whose keys are these offsets. -/
def MapIs (w : World) (b n : Nat) (marks : List Int) : Prop :=
  ∃ D : DataW Unit, w.ownsMap Try.prog 3 unitElem b n D ∧ ∀ m : Int, (Lit.int .i64 m).wf = true → Maps.has D (.int .i64 m) = decide (m ∈ marks)

theorem MapIs.lt {w : World} {b n : Nat} {marks : List Int} (h : MapIs w b n marks) : b < w.heap.size := by
  obtain ⟨D, h1, _⟩ := h
  exact h1.lt
theorem MapIs.kept {w w' : World} {b n : Nat} {marks : List Int} (h : MapIs w b n marks) (hb : w'.heap[b]? = w.heap[b]?) : MapIs w' b n marks := by
  obtain ⟨D, ⟨es, clock, h1, h2⟩, h3⟩ := h
  exact ⟨D, ⟨es, clock, hb.trans h1, h2⟩, h3⟩
theorem MapIs.unlike {w : World} {b n g : Nat} {marks : List Int} {t : TypeId} {cs : Array Value} (h : MapIs w b n marks) (h' : Has w g t cs) : g ≠ b := by
  rintro rfl
  obtain ⟨D, ⟨es, clock, h1, _⟩, _⟩ := h
  unfold Has at h'
  rw [h1] at h'
  cases h'

/-- The block of an address, if there is one. -/
def blkOf (A : Option Addr) : List Nat := (A.map (·.block)).toList

/-- A slice that holds these bytes. -/
def Buf (w : World) (A : Option Addr) (c : Nat) (xs : List Int) : Prop := (A = none ∧ c = 0 ∧ xs = []) ∨ ∃ h, A = some ⟨h, 0, none⟩ ∧ Row w h c xs

theorem Buf.vec {w : World} {A : Option Addr} {c : Nat} {xs : List Int} (h : Buf w A c xs) : Vec w (.slice A xs.length c) xs := by
  rcases h with ⟨rfl, rfl, rfl⟩ | ⟨h, rfl, hr⟩
  · exact .inl ⟨rfl, rfl⟩
  · exact .inr ⟨h, c, rfl, hr⟩
theorem Vec.buf {w : World} {v : Value} {xs : List Int} (h : Vec w v xs) : ∃ A c, v = .slice A xs.length c ∧ Buf w A c xs := by
  rcases h with ⟨rfl, rfl⟩ | ⟨h, c, rfl, hr⟩
  · exact ⟨none, 0, rfl, .inl ⟨rfl, rfl, rfl⟩⟩
  · exact ⟨_, c, rfl, .inr ⟨h, rfl, hr⟩⟩
theorem Buf.turn {l : List Nat} {w w' : World} {A : Option Addr} {c : Nat} {xs : List Int} (h : Buf w A c xs) (ht : Turn l w w') (hn : ∀ k ∈ blkOf A, k ∉ l) : Buf w' A c xs := by
  rcases h with h | ⟨h, rfl, hr⟩
  · exact .inl h
  · exact .inr ⟨h, rfl, hr.turn ht (hn h (by simp [blkOf]))⟩
theorem Buf.lt {w : World} {A : Option Addr} {c : Nat} {xs : List Int} (h : Buf w A c xs) : ∀ k ∈ blkOf A, k < w.heap.size := by
  rcases h with ⟨rfl, _⟩ | ⟨h, rfl, hr⟩
  · simp [blkOf]
  · simpa [blkOf] using hr.lt

/-- The cells of a writer. -/
abbrev wrc (lim : Nat) (A : Option Addr) (n c b : Nat) : Array Value := #[.int .i64 lim, .slice A n c, .map (some b)]

/-- Block g is a writer. -/
structure Wr (w : World) (g : Nat) (A : Option Addr) (c b n : Nat) (s : WS) : Prop where
  blk : Has w g 109 (wrc s.lim A s.out.length c b)
  buf : Buf w A c s.out
  map : MapIs w b n s.marks
  cnt : n ≤ s.out.length
  room : s.out.length ≤ s.lim
  top : s.lim ≤ 65536
  byte : ∀ v ∈ s.out, 0 ≤ v ∧ v ≤ 255
  open_ : ∀ m ∈ s.marks, 0 ≤ m ∧ m + 2 ≤ (s.out.length : Int)

section
variable {w w' : World} {g : Nat} {A : Option Addr} {c b n : Nat} {s : WS}
theorem Wr.ne_ (H : Wr w g A c b n s) : g ≠ b ∧ g ∉ blkOf A ∧ b ∉ blkOf A := by
  refine ⟨H.map.unlike H.blk, ?_, ?_⟩
  · rcases H.buf with ⟨rfl, _⟩ | ⟨h, rfl, cur, hh, _⟩
    · simp [blkOf]
    · have := H.blk.unlike hh (by decide)
      simpa [blkOf] using this
  · rcases H.buf with ⟨rfl, _⟩ | ⟨h, rfl, cur, hh, _⟩
    · simp [blkOf]
    · have := (H.map.unlike hh).symm
      simpa [blkOf] using this
theorem Wr.turn (H : Wr w g A c b n s) {l : List Nat} (ht : Turn l w w') (hn : ∀ k ∈ g :: b :: blkOf A, k ∉ l) : Wr w' g A c b n s :=
  ⟨H.blk.turn ht (hn g (by simp)), H.buf.turn ht (fun k hk => hn k (by simp [hk])), H.map.kept (ht.block b H.map.lt (hn b (by simp))), H.cnt, H.room, H.top, H.byte, H.open_⟩
theorem Wr.below (H : Wr w g A c b n s) (hb : Below w.heap.size w w') : Wr w' g A c b n s := H.turn (turn_below hb []) (by simp)
theorem Wr.lt (H : Wr w g A c b n s) : ∀ k ∈ g :: b :: blkOf A, k < w.heap.size := by
  intro k hk
  simp only [List.mem_cons] at hk
  rcases hk with rfl | rfl | hk
  · exact H.blk.lt
  · exact H.map.lt
  · exact H.buf.lt k hk
theorem Wr.c0 (H : Wr w g A c b n s) : w.cell? ⟨g, 0, none⟩ = some (.int .i64 (s.lim : Int)) := H.blk.cell 0
theorem Wr.c1 (H : Wr w g A c b n s) : w.cell? ⟨g, 1, none⟩ = some (.slice A s.out.length c) := H.blk.cell 1
theorem Wr.c2 (H : Wr w g A c b n s) : w.cell? ⟨g, 2, none⟩ = some (.map (some b)) := H.blk.cell 2
end

theorem neq_nil_map (w : World) (r : Option Nat) : (binOp .neq 107 (.map r) (.map none)).run Try.prog w = .ok (.bool (!r.isNone)) w :=
  run_neq_map_nil w 107 3 103 r Try.underlying107

theorem wvalid_yes (g : Nat) (A : Option Addr) (c b n : Nat) (s : WS) (w : World) (H : Wr w g A c b n s) :
    Calls Try.prog 73 #[.pointer (some ⟨g, 0, none⟩)] w fun e w' => e = .returned (.bool true) ∧ w = w' := by
  have c2 := H.c2
  have hn := fun w => neq_nil_map w (some b)
  clear H
  go_enter Try.func73, Try.ntmps73
  go_wp2
  go_ret
  exact ⟨rfl, rfl⟩

theorem wvalid_no (w : World) :
    Calls Try.prog 73 #[.pointer none] w fun e w' => e = .returned (.bool false) ∧ w = w' := by
  go_enter Try.func73, Try.ntmps73
  go_wp2
  go_ret
  exact ⟨rfl, rfl⟩

/-- A copy: nil, or an array of its own from base on. -/
def Copied (w : World) (base : Nat) (v : Value) (xs : List Int) : Prop :=
  (v = .slice none 0 0 ∧ xs = []) ∨ ∃ h' c', v = .slice (some ⟨h', 0, none⟩) xs.length c' ∧ Row w h' c' xs ∧ base ≤ h'

theorem wout (g : Nat) (A : Option Addr) (c b n : Nat) (s : WS) (w : World) (H : Wr w g A c b n s) :
    Calls Try.prog 55 #[.pointer (some ⟨g, 0, none⟩)] w fun e w' => (∃ v, e = .returned v ∧ Copied w' w.heap.size v s.out) ∧ Below w.heap.size w w' := by
  have c1 := H.c1
  have HH := Lib.hid H
  clear H
  rcases HH.out.buf with ⟨rfl, rfl, h0⟩ | ⟨h, rfl, hr⟩
  · rw [h0] at c1 ⊢
    simp only [List.length_nil] at c1
    clear h0
    go_enter Try.func55, Try.ntmps55
    go_wp2_with (first
      | (go_at_call 73; refine (wvalid_yes _ _ _ _ _ _ _ HH.out).mono ?_; rintro e w' ⟨rfl, rfl⟩)
      | (go_at_call 69; refine (rclone_nil _).mono ?_; rintro e w' ⟨rfl, rfl⟩))
    go_ret
    exact ⟨⟨_, rfl, .inl ⟨rfl, rfl⟩⟩, Below.refl _ _⟩
  · have hm : s.out.length ≤ 1000000 := by have := HH.out.room; have := HH.out.top; omega
    have HR := Lib.hid hr.all
    clear hr
    go_enter Try.func55, Try.ntmps55
    go_wp2_with (first
      | (go_at_call 73; refine (wvalid_yes _ _ _ _ _ _ _ HH.out).mono ?_; rintro e w' ⟨rfl, rfl⟩)
      | (go_at_call 69; refine (rclone _ _ _ _ _ rfl hm _ HR.out).mono ?_; rintro e w2 ⟨⟨h', c', rfl, hrow, hh⟩, hb2⟩; have HRow := Lib.hid hrow; clear hrow))
    go_ret
    exact ⟨⟨_, rfl, .inr ⟨h', c', rfl, HRow.out, hh⟩⟩, hb2⟩

theorem wout_nil (w : World) :
    Calls Try.prog 55 #[.pointer none] w fun e w' => e = .returned (.slice none 0 0) ∧ w = w' := by
  go_enter Try.func55, Try.ntmps55
  go_wp2_with (go_at_call 73; refine (wvalid_no _).mono ?_; rintro e w' ⟨rfl, rfl⟩)
  go_ret
  exact ⟨rfl, rfl⟩

theorem wnew_no (lim : Int) (h : lim < 0 ∨ 65536 < lim) (w : World) :
    Calls Try.prog 51 #[.int .i64 lim] w fun e w' => e = .returned (.tuple #[.pointer none, .int .i64 2]) ∧ w = w' := by
  rcases h with h | h
  · go_enter Try.func51, Try.ntmps51
    go_wp2
    go_ret2
    exact ⟨rfl, rfl⟩
  · have h0 : 0 ≤ lim := by omega
    go_enter Try.func51, Try.ntmps51
    go_wp2
    go_ret2
    exact ⟨rfl, rfl⟩

theorem wnew (lim : Nat) (h : lim ≤ 65536) (w : World) :
    Calls Try.prog 51 #[.int .i64 lim] w fun e w' => ∃ g b, e = .returned (.tuple #[.pointer (some ⟨g, 0, none⟩), .int .i64 0]) ∧ w.heap.size ≤ g ∧ w.heap.size ≤ b ∧ Wr w' g none 0 b 0 ⟨lim, [], []⟩ ∧ Below w.heap.size w w' := by
  have hmm := @run_makeMap Try.prog
  go_enter Try.func51, Try.ntmps51
  go_wp2
  go_ret2
  have hb1 : Below w.heap.size w (w.alloc (.map #[] 0)) := (Below.refl _ w).alloc (Nat.le_refl _) _
  have hb2 : Below w.heap.size w ((w.alloc (.map #[] 0)).alloc (.cells (wrc lim none 0 0 w.heap.size) 109)) := hb1.alloc (by simp) _
  have hm0 : MapIs (w.alloc (.map #[] 0)) w.heap.size 0 [] := ⟨.map [], World.ownsMap_made w _ _ _, fun m _ => by simp [Maps.has]⟩
  have hm1 : MapIs ((w.alloc (.map #[] 0)).alloc (.cells (wrc lim none 0 0 w.heap.size) 109)) w.heap.size 0 [] := hm0.kept (Below.heap_alloc _ _ _ (by simp))
  have hnew := Has.new (w.alloc (.map #[] 0)) 109 (wrc lim none 0 0 w.heap.size)
  exact ⟨w.heap.size + 1, w.heap.size, rfl, by omega, Nat.le_refl _, ⟨by simpa using hnew, .inl ⟨rfl, rfl, rfl⟩, hm1, Nat.le_refl _, Nat.zero_le _, h, by simp, by simp⟩, hb2⟩

end Go.Proofs.Ytgdfpmnbofnjfaa

namespace Go.Proofs.Ytgdfpmnbofnjfaa
open Go.RowKit Go.Maps
set_option maxRecDepth 100000
set_option linter.unusedVariables false

theorem wextend_full (g : Nat) (A : Option Addr) (c b n : Nat) (s : WS) (w : World) (H : Wr w g A c b n s) (k : Nat) (hk : s.lim - s.out.length < k) (hk2 : k ≤ 1000000) :
    Calls Try.prog 87 #[.pointer (some ⟨g, 0, none⟩), .int .i64 k] w fun e w' => e = .returned (.tuple #[.slice none 0 0, .int .i64 7]) ∧ w = w' := by
  have c0 := H.c0
  have c1 := H.c1
  have hr := H.room
  have ht := H.top
  have HH := Lib.hid H
  clear H
  go_enter Try.func87, Try.ntmps87
  go_wp2_with (go_at_call 73; refine (wvalid_yes _ _ _ _ _ _ _ HH.out).mono ?_; rintro e w' ⟨rfl, rfl⟩)
  go_ret2
  exact ⟨rfl, rfl⟩

theorem wextend_nil (w : World) (k : Int) :
    Calls Try.prog 87 #[.pointer none, .int .i64 k] w fun e w' => e = .returned (.tuple #[.slice none 0 0, .int .i64 1]) ∧ w = w' := by
  go_enter Try.func87, Try.ntmps87
  go_wp2_with (go_at_call 73; refine (wvalid_no _).mono ?_; rintro e w' ⟨rfl, rfl⟩)
  go_ret2
  exact ⟨rfl, rfl⟩

/-- The writer with more zeros, and the slice of them. -/
def Ext (w : World) (g : Nat) (A : Option Addr) (b n : Nat) (s : WS) (k : Nat) (e : Ending) (w' : World) : Prop :=
  ∃ A2 c2 As cs, e = .returned (.tuple #[.slice As k cs, .int .i64 0]) ∧ Wr w' g A2 c2 b n { s with out := s.out ++ List.replicate k 0 } ∧
    (0 < k → ∃ h, A2 = some ⟨h, 0, none⟩ ∧ As = some ⟨h, s.out.length, none⟩) ∧ Turn (g :: blkOf A) w w' ∧ ∀ x ∈ blkOf A2, x ∈ blkOf A ∨ w.heap.size ≤ x

theorem own_blk (A : Option Addr) (n c : Nat) : (Value.slice A n c).ownBlock.toList = blkOf A := by cases A <;> rfl

set_option maxHeartbeats 1000000 in
theorem wextend_ok (g : Nat) (A : Option Addr) (c b n : Nat) (s : WS) (w : World) (H : Wr w g A c b n s) (k : Nat) (hk : k ≤ s.lim - s.out.length) :
    Calls Try.prog 87 #[.pointer (some ⟨g, 0, none⟩), .int .i64 k] w (Ext w g A b n s k) := by
  have c0 := H.c0
  have c1 := H.c1
  have hr := H.room
  have ht := H.top
  have HH := Lib.hid H
  obtain ⟨v', w1, hrun, hvec, hturn, hnew⟩ := run_grow w (.slice A s.out.length c) s.out H.buf.vec k (by omega) 40
  obtain ⟨A2, c2, rfl, hbuf⟩ := hvec.buf
  rw [own_blk] at hturn
  have hne := H.ne_
  have hg1 : Has w1 g 109 (wrc s.lim A s.out.length c b) := H.blk.turn hturn hne.2.1
  have d1 : w1.cell? ⟨g, 1, none⟩ = some (.slice A s.out.length c) := hg1.cell 1
  have f1 : w1.frozen? ⟨g, 1, none⟩ = false := hg1.free 1
  have hlen : (s.out ++ List.replicate k 0).length = s.out.length + k := by simp
  rw [hlen] at hrun hnew
  have hcap : s.out.length + k ≤ c2 := by
    rcases hbuf with ⟨_, rfl, h0⟩ | ⟨h, _, cur, _, _, _, h1, _⟩
    · rw [← hlen, h0]; simp
    · rw [← hlen]; exact h1
  have hmax : c2 ≤ 9223372036854775807 := by
    rcases hbuf with ⟨_, rfl, h0⟩ | ⟨h, _, cur, _, _, _, _, h1⟩
    · omega
    · unfold maxLen at h1; omega
  have hblk : blkOf A2 = blkOf A ∨ blkOf A2 = [w.heap.size] := by
    cases A2 <;> cases A <;> simp [Value.ownBlock, blkOf] at hnew ⊢ <;> exact hnew
  have hsome : 0 < k → ∃ h, A2 = some ⟨h, 0, none⟩ := by
    intro h0
    rcases hbuf with ⟨_, _, h1⟩ | ⟨h, h1, _⟩
    · have h2 := congrArg List.length h1
      rw [hlen] at h2
      simp at h2
      omega
    · exact ⟨h, h1⟩
  have hgA2 : g ∉ blkOf A2 := by
    rcases hblk with h1 | h1
    · rw [h1]; exact hne.2.1
    · rw [h1]; have := H.blk.lt; simp; omega
  have hfin : Wr (w1.setCell ⟨g, 1, none⟩ (.slice A2 (s.out.length + k) c2)) g A2 c2 b n { s with out := s.out ++ List.replicate k 0 } ∧ Turn (g :: blkOf A) w (w1.setCell ⟨g, 1, none⟩ (.slice A2 (s.out.length + k) c2)) := by
    have ho : Only w1 g (w1.setCell ⟨g, 1, none⟩ (.slice A2 (s.out.length + k) c2)) := only_set (only_refl w1 g) (.inl rfl) _
    refine ⟨⟨?_, hbuf.turn (turn_only ho) (fun x hx => by simp; rintro rfl; exact hgA2 hx), ?_, ?_, ?_, H.top, ?_, ?_⟩, ?_⟩
    · have h1 := hg1.set_ 1 (.slice A2 (s.out.length + k) c2)
      simpa using h1
    · exact (H.map.kept (hturn.block b H.map.lt hne.2.2)).kept ((turn_only ho).block b (Nat.lt_of_lt_of_le H.map.lt hturn.size) (by simp; exact fun h => hne.1 h.symm))
    · have := H.cnt
      simp
      omega
    · simp
      omega
    · intro v hv
      simp only [List.mem_append, List.mem_replicate] at hv
      rcases hv with hv | ⟨_, rfl⟩
      · exact H.byte v hv
      · omega
    · intro m hm
      have h1 := H.open_ m hm
      simp
      omega
    · exact (hturn.mono (fun x hx => .inl (by simp [hx]))).set_ (.inl (by simp)) _
  have hold : ∀ x ∈ blkOf A2, x ∈ blkOf A ∨ w.heap.size ≤ x := by
    intro x hx
    rcases hblk with h1 | h1
    · exact .inl (h1 ▸ hx)
    · rw [h1] at hx
      simp at hx
      exact .inr (by omega)
  have HF := Lib.hid hfin
  have HO := Lib.hid hold
  have HS := Lib.hid hsome
  have HR := Lib.hid hrun
  clear H hvec hturn hbuf hne hg1 hblk hnew hrun hlen hfin hold hsome hgA2
  go_enter Try.func87, Try.ntmps87
  go_wp2_with (first
    | (go_at_call 73; refine (wvalid_yes _ _ _ _ _ _ _ HH.out).mono ?_; rintro e w' ⟨rfl, rfl⟩)
    | (at_builtin; refine Lib.wpList_append_run _ rfl _ _ _ _ rfl _ _ rfl rfl _ _ HR.out ?_))
  · rename_i h
    subst h
    have hk0 : k = 0 := by omega
    go_ret2
    exact ⟨A2, _, _, _, rfl, HF.out.1, fun h0 => by omega, HF.out.2, HO.out⟩
  · go_ret2
    refine ⟨A2, _, _, _, rfl, HF.out.1, fun h0 => ?_, HF.out.2, HO.out⟩
    obtain ⟨h, rfl⟩ := HS.out h0
    refine ⟨h, rfl, ?_⟩
    simp [Addr.add]
    intro h1
    rw [h1]
    rfl

end Go.Proofs.Ytgdfpmnbofnjfaa

namespace Go.Proofs.Ytgdfpmnbofnjfaa
open Go.RowKit Go.Maps
set_option maxRecDepth 100000
set_option linter.unusedVariables false

/-- A call of a writer has ended: its result, the writer, what has turned. -/
def Wrote (w : World) (g : Nat) (A : Option Addr) (b n : Nat) (s2 : WS) (r : Int) (e : Ending) (w' : World) : Prop :=
  ∃ A2 c2, e = .returned (.int .i64 r) ∧ Wr w' g A2 c2 b n s2 ∧ Turn (g :: b :: blkOf A) w w' ∧ ∀ x ∈ blkOf A2, x ∈ blkOf A ∨ w.heap.size ≤ x

theorem Wr.wrote {w w' : World} {g h c b n : Nat} {s : WS} (H : Wr w g (some ⟨h, 0, none⟩) c b n s) (ho : Only w h w') {out2 : List Int} (hr : Row w' h c out2) (hl : out2.length = s.out.length) (hb : ∀ v ∈ out2, 0 ≤ v ∧ v ≤ 255) :
    Wr w' g (some ⟨h, 0, none⟩) c b n { s with out := out2 } := by
  have hne := H.ne_
  have h1 : g ≠ h := by have := hne.2.1; simpa [blkOf] using this
  have h2 : b ≠ h := by have := hne.2.2; simpa [blkOf] using this
  refine ⟨?_, .inr ⟨h, rfl, hr⟩, H.map.kept ((turn_only ho).block b H.map.lt (by simpa using h2)), by rw [hl]; exact H.cnt, by rw [hl]; exact H.room, H.top, hb, by rw [hl]; exact H.open_⟩
  rw [hl]
  exact H.blk.turn (turn_only ho) (by simpa using h1)

def WS.put (s : WS) (v : Int) (m : Nat) : Int × WS :=
  if 256 ^ m ≤ v then (2, s) else if s.lim - s.out.length < m then (7, s) else (0, { s with out := s.out ++ be v m })

theorem Wr.row {w : World} {g h c b n : Nat} {s : WS} (H : Wr w g (some ⟨h, 0, none⟩) c b n s) : Row w h c s.out := by
  rcases H.buf with ⟨h1, _⟩ | ⟨h', h1, hr⟩
  · cases h1
  · injection h1 with h1
    injection h1 with h1
    subst h1
    exact hr

theorem pow_shift (v : Int) (m : Nat) (h0 : 0 ≤ v) : (v / 2 ^ (8 * m) != 0) = decide ((256 : Int) ^ m ≤ v) := by
  rw [pow_eight, Bool.eq_iff_iff]
  have hp : (0 : Int) < 256 ^ m := Int.pow_pos (by omega)
  simp only [bne_iff_ne, ne_eq, decide_eq_true_eq]
  constructor
  · intro h
    apply Decidable.byContradiction
    intro hlt
    exact h (Int.ediv_eq_zero_of_lt h0 (by omega))
  · intro h he
    have h1 := Int.le_ediv_of_mul_le hp (by rwa [Int.one_mul] : 1 * (256 : Int) ^ m ≤ v)
    omega

set_option maxHeartbeats 1000000 in
theorem wnumber (g : Nat) (A : Option Addr) (c b n : Nat) (s : WS) (w : World) (H : Wr w g A c b n s) (v : Int) (h0 : 0 ≤ v) (h1 : v < 18446744073709551616) (m : Nat) (hm1 : 1 ≤ m) (hm : m ≤ 8) :
    Calls Try.prog 72 #[.pointer (some ⟨g, 0, none⟩), .int .u64 v, .int .i64 m] w (Wrote w g A b n (s.put v m).2 (s.put v m).1) := by
  have HH := Lib.hid H
  clear H
  have hp := pow_shift v m h0
  by_cases hr : (256 : Int) ^ m ≤ v
  · have e : Hid (s.put v m = (2, s)) := Lib.hid (by unfold WS.put; rw [if_pos hr])
    have hq : (v / 2 ^ (8 * m) != 0) = true := by rw [hp]; simpa using hr
    clear hp hr
    go_enter Try.func72, Try.ntmps72
    go_wp2_with (go_at_call 73; refine (wvalid_yes _ _ _ _ _ _ _ HH.out).mono ?_; rintro e w' ⟨rfl, rfl⟩)
    go_ret
    rw [e.out]
    exact ⟨A, c, rfl, HH.out, Turn.refl _ _, fun x hx => .inl hx⟩
  · have hq : (v / 2 ^ (8 * m) != 0) = false := by rw [hp]; simpa using hr
    clear hp
    by_cases hf : s.lim - s.out.length < m
    · have e : Hid (s.put v m = (7, s)) := Lib.hid (by unfold WS.put; rw [if_neg hr, if_pos hf])
      have HF := Lib.hid hf
      clear hr hf
      go_enter Try.func72, Try.ntmps72
      go_wp2_with (first
        | (go_at_call 73; refine (wvalid_yes _ _ _ _ _ _ _ HH.out).mono ?_; rintro e w' ⟨rfl, rfl⟩)
        | (go_at_call 87; refine (wextend_full _ _ _ _ _ _ _ HH.out m HF.out (by omega)).mono ?_; rintro e w' ⟨rfl, rfl⟩)
        | (go_at_call 88; refine (wput_nil v _ 0 0 none rfl).mono ?_; rintro e w' ⟨rfl, rfl⟩))
      go_ret
      rw [e.out]
      exact ⟨A, c, rfl, HH.out, Turn.refl _ _, fun x hx => .inl hx⟩
    · have e : Hid (s.put v m = (0, { s with out := s.out ++ be v m })) := Lib.hid (by unfold WS.put; rw [if_neg hr, if_neg hf])
      have HF : Hid (m ≤ s.lim - s.out.length) := Lib.hid (by omega)
      clear hr hf
      go_enter Try.func72, Try.ntmps72
      go_wp2_with (go_at_call 73; refine (wvalid_yes _ _ _ _ _ _ _ HH.out).mono ?_; rintro e w' ⟨rfl, rfl⟩)
      refine (wextend_ok _ _ _ _ _ _ _ HH.out m HF.out).mono ?_
      rintro e1 w1 ⟨A2, c2, As, cs, rfl, hw, hs, ht, hn⟩
      obtain ⟨h, rfl, rfl⟩ := hs (by omega)
      have hlen : (s.out ++ List.replicate m (0 : Int)).length = s.out.length + m := by simp
      have HL : Hid (s.out.length + m ≤ (s.out ++ List.replicate m (0 : Int)).length ∧ (s.out ++ List.replicate m (0 : Int)).length ≤ 1000000) := by
        have h1 := hw.room
        have h2 := HH.out.top
        simp only [hlen] at h1 ⊢
        exact Lib.hid ⟨Nat.le_refl _, by omega⟩
      have HW := Lib.hid hw
      have HT := Lib.hid ht
      have HN := Lib.hid hn
      clear hw hs ht hn hlen
      go_wp2_with fail
      refine (wput64 h s.out.length m cs c2 (s.out ++ List.replicate m 0) v w1 hm HL.out.1 h0 h1 HW.out.row HL.out.2).mono ?_
      rintro e2 w2 ⟨rfl, hrow, ho⟩
      have e3 : (s.out ++ List.replicate m (0 : Int)).take s.out.length ++ be v m ++ (s.out ++ List.replicate m (0 : Int)).drop (s.out.length + m) = s.out ++ be v m := by
        rw [List.take_left, List.drop_eq_nil_of_le (by simp), List.append_nil]
      rw [e3] at hrow
      have hw2 := HW.out.wrote ho hrow (by simp [be_length]) (by
        intro x hx
        rcases List.mem_append.1 hx with hx | hx
        · exact HH.out.byte x hx
        · exact be_byte v m x hx)
      have HW2 := Lib.hid hw2
      have HT2 : Hid (Turn (g :: b :: blkOf A) w w2) := Lib.hid ((HT.out.mono (fun x hx => .inl (by simp only [List.mem_cons] at hx ⊢; rcases hx with hx | hx; exact .inl hx; exact .inr (.inr hx)))).then_ (turn_only ho) (fun x hx => by
        simp only [List.mem_singleton] at hx
        subst hx
        rcases HN.out x (by simp [blkOf]) with h1 | h1
        · exact .inl (by simp [h1])
        · exact .inr h1))
      clear e3 hrow ho hw2
      go_wp2_with fail
      go_ret
      rw [e.out]
      exact ⟨_, _, rfl, HW2.out, HT2.out, HN.out⟩

theorem wU1 (g : Nat) (A : Option Addr) (c b n : Nat) (s : WS) (w : World) (H : Wr w g A c b n s) (v : Int) (h0 : 0 ≤ v) (h1 : v < 18446744073709551616) :
    Calls Try.prog 65 #[.pointer (some ⟨g, 0, none⟩), .int .u64 v] w (Wrote w g A b n (s.put v 1).2 (s.put v 1).1) := by
  have HH := Lib.hid H
  clear H
  go_enter Try.func65, Try.ntmps65
  go_wp2_with (go_at_call 72; refine (wnumber _ _ _ _ _ _ _ HH.out v h0 h1 1 (by omega) (by omega)).mono ?_; rintro e w' ⟨A2, c2, rfl, hw, ht, hn⟩; have HW := Lib.hid hw; have HT := Lib.hid ht; have HN := Lib.hid hn; clear hw ht hn)
  go_ret
  exact ⟨A2, c2, rfl, HW.out, HT.out, HN.out⟩

theorem wU2 (g : Nat) (A : Option Addr) (c b n : Nat) (s : WS) (w : World) (H : Wr w g A c b n s) (v : Int) (h0 : 0 ≤ v) (h1 : v < 18446744073709551616) :
    Calls Try.prog 53 #[.pointer (some ⟨g, 0, none⟩), .int .u64 v] w (Wrote w g A b n (s.put v 2).2 (s.put v 2).1) := by
  have HH := Lib.hid H
  clear H
  go_enter Try.func53, Try.ntmps53
  go_wp2_with (go_at_call 72; refine (wnumber _ _ _ _ _ _ _ HH.out v h0 h1 2 (by omega) (by omega)).mono ?_; rintro e w' ⟨A2, c2, rfl, hw, ht, hn⟩; have HW := Lib.hid hw; have HT := Lib.hid ht; have HN := Lib.hid hn; clear hw ht hn)
  go_ret
  exact ⟨A2, c2, rfl, HW.out, HT.out, HN.out⟩

theorem wU3 (g : Nat) (A : Option Addr) (c b n : Nat) (s : WS) (w : World) (H : Wr w g A c b n s) (v : Int) (h0 : 0 ≤ v) (h1 : v < 18446744073709551616) :
    Calls Try.prog 77 #[.pointer (some ⟨g, 0, none⟩), .int .u64 v] w (Wrote w g A b n (s.put v 3).2 (s.put v 3).1) := by
  have HH := Lib.hid H
  clear H
  go_enter Try.func77, Try.ntmps77
  go_wp2_with (go_at_call 72; refine (wnumber _ _ _ _ _ _ _ HH.out v h0 h1 3 (by omega) (by omega)).mono ?_; rintro e w' ⟨A2, c2, rfl, hw, ht, hn⟩; have HW := Lib.hid hw; have HT := Lib.hid ht; have HN := Lib.hid hn; clear hw ht hn)
  go_ret
  exact ⟨A2, c2, rfl, HW.out, HT.out, HN.out⟩

theorem wU4 (g : Nat) (A : Option Addr) (c b n : Nat) (s : WS) (w : World) (H : Wr w g A c b n s) (v : Int) (h0 : 0 ≤ v) (h1 : v < 18446744073709551616) :
    Calls Try.prog 64 #[.pointer (some ⟨g, 0, none⟩), .int .u64 v] w (Wrote w g A b n (s.put v 4).2 (s.put v 4).1) := by
  have HH := Lib.hid H
  clear H
  go_enter Try.func64, Try.ntmps64
  go_wp2_with (go_at_call 72; refine (wnumber _ _ _ _ _ _ _ HH.out v h0 h1 4 (by omega) (by omega)).mono ?_; rintro e w' ⟨A2, c2, rfl, hw, ht, hn⟩; have HW := Lib.hid hw; have HT := Lib.hid ht; have HN := Lib.hid hn; clear hw ht hn)
  go_ret
  exact ⟨A2, c2, rfl, HW.out, HT.out, HN.out⟩

theorem wU6 (g : Nat) (A : Option Addr) (c b n : Nat) (s : WS) (w : World) (H : Wr w g A c b n s) (v : Int) (h0 : 0 ≤ v) (h1 : v < 18446744073709551616) :
    Calls Try.prog 52 #[.pointer (some ⟨g, 0, none⟩), .int .u64 v] w (Wrote w g A b n (s.put v 6).2 (s.put v 6).1) := by
  have HH := Lib.hid H
  clear H
  go_enter Try.func52, Try.ntmps52
  go_wp2_with (go_at_call 72; refine (wnumber _ _ _ _ _ _ _ HH.out v h0 h1 6 (by omega) (by omega)).mono ?_; rintro e w' ⟨A2, c2, rfl, hw, ht, hn⟩; have HW := Lib.hid hw; have HT := Lib.hid ht; have HN := Lib.hid hn; clear hw ht hn)
  go_ret
  exact ⟨A2, c2, rfl, HW.out, HT.out, HN.out⟩

theorem wU8 (g : Nat) (A : Option Addr) (c b n : Nat) (s : WS) (w : World) (H : Wr w g A c b n s) (v : Int) (h0 : 0 ≤ v) (h1 : v < 18446744073709551616) :
    Calls Try.prog 54 #[.pointer (some ⟨g, 0, none⟩), .int .u64 v] w (Wrote w g A b n (s.put v 8).2 (s.put v 8).1) := by
  have HH := Lib.hid H
  clear H
  go_enter Try.func54, Try.ntmps54
  go_wp2_with (go_at_call 72; refine (wnumber _ _ _ _ _ _ _ HH.out v h0 h1 8 (by omega) (by omega)).mono ?_; rintro e w' ⟨A2, c2, rfl, hw, ht, hn⟩; have HW := Lib.hid hw; have HT := Lib.hid ht; have HN := Lib.hid hn; clear hw ht hn)
  go_ret
  exact ⟨A2, c2, rfl, HW.out, HT.out, HN.out⟩

end Go.Proofs.Ytgdfpmnbofnjfaa

namespace Go.Proofs.Ytgdfpmnbofnjfaa
open Go.RowKit Go.Maps
set_option maxRecDepth 100000
set_option linter.unusedVariables false

def WS.putB (s : WS) (xs : List Int) : Int × WS :=
  if s.lim - s.out.length < xs.length then (7, s) else (0, { s with out := s.out ++ xs })

theorem u8_size : (Try.prog.info? 5).map (·.size) = some 1 := by kernel_rfl

theorem Only.row {w : World} {h : Nat} (cs : Array Value) : Only w h (w.setRow h cs) :=
  ⟨rfl, rfl, rfl, by simp [World.setRow], fun k _ hk => setRow_other w h k _ (by rintro rfl; exact hk rfl)⟩

set_option maxHeartbeats 1000000 in
theorem wbytes (g : Nat) (A : Option Addr) (c b n : Nat) (s : WS) (w : World) (H : Wr w g A c b n s) (h0 o m c0 : Nat) (xs : List Int) (hm : xs.length = m) (hm2 : m ≤ 1000000) (hx : ∀ v ∈ xs, 0 ≤ v ∧ v ≤ 255) (hsl : Sl w h0 o xs) (hfar : h0 ∉ g :: b :: blkOf A) (hlt0 : h0 < w.heap.size) :
    Calls Try.prog 118 #[.pointer (some ⟨g, 0, none⟩), .slice (some ⟨h0, o, none⟩) m c0] w (Wrote w g A b n (s.putB xs).2 (s.putB xs).1) := by
  have HH := Lib.hid H
  have HS := Lib.hid hsl
  have HM := Lib.hid hm
  have HX := Lib.hid hx
  have HFar := Lib.hid hfar
  clear H hsl hx hfar
  by_cases hf : s.lim - s.out.length < m
  · have e : Hid (s.putB xs = (7, s)) := Lib.hid (by unfold WS.putB; rw [hm, if_pos hf])
    have HF := Lib.hid hf
    clear hf hm
    go_enter Try.func118, Try.ntmps118
    go_wp2_with (first
      | (go_at_call 87; refine (wextend_full _ _ _ _ _ _ _ HH.out m HF.out hm2).mono ?_; rintro e w' ⟨rfl, rfl⟩)
      | (with_reducible refine wpList_copy_nothing rfl (.tmp 14) (.tmp 15) 40 40 rfl 5 Try.underlying40 u8_size none (some ⟨h0, o, none⟩) 0 0 m c0 rfl rfl (by simp) ?_))
    go_ret
    rw [e.out]
    exact ⟨A, c, rfl, HH.out, Turn.refl _ _, fun x hx => .inl hx⟩
  · have e : Hid (s.putB xs = (0, { s with out := s.out ++ xs })) := Lib.hid (by unfold WS.putB; rw [hm, if_neg hf])
    have HF : Hid (m ≤ s.lim - s.out.length) := Lib.hid (by omega)
    clear hf hm
    go_enter Try.func118, Try.ntmps118
    go_wp2_with fail
    refine (wextend_ok _ _ _ _ _ _ _ HH.out m HF.out).mono ?_
    rintro e1 w1 ⟨A2, c2, As, cs, rfl, hw, hs, ht, hn⟩
    have HW := Lib.hid hw
    have HT := Lib.hid ht
    have HN := Lib.hid hn
    have HZ := Lib.hid hs
    clear hw ht hn hs
    by_cases hm0 : m = 0
    · have hx0 : xs = [] := List.eq_nil_of_length_eq_zero (by rw [HM.out]; exact hm0)
      subst hm0
      go_wp2_with (with_reducible refine wpList_copy_nothing rfl (.tmp 14) (.tmp 15) 40 40 rfl 5 Try.underlying40 u8_size As (some ⟨h0, o, none⟩) 0 cs 0 c0 rfl rfl (by simp) ?_)
      go_ret
      rw [e.out, hx0]
      exact ⟨A2, c2, rfl, HW.out, HT.out.mono (fun x hx => .inl (by simp only [List.mem_cons] at hx ⊢; rcases hx with hx | hx; exact .inl hx; exact .inr (.inr hx))), HN.out⟩
    · obtain ⟨h, rfl, rfl⟩ := HZ.out (by omega)
      obtain ⟨cur, hcur, hsz, htk, hle, hcm⟩ := HW.out.row
      have hne : h0 ≠ h := by
        rintro rfl
        rcases HN.out h0 (by simp [blkOf]) with h1 | h1
        · exact HFar.out (by simp [h1])
        · omega
      have hne2 : h0 ∉ g :: blkOf A := fun h1 => HFar.out (by simp only [List.mem_cons] at h1 ⊢; rcases h1 with h1 | h1; exact .inl h1; exact .inr (.inr h1))
      have hsl1 : Sl w1 h0 o xs := fun j hj => (World.cell?_of_block (a := ⟨h0, o + j, none⟩) (HT.out.block h0 hlt0 hne2)).trans (HS.out j hj)
      have hlen : (s.out ++ List.replicate m (0 : Int)).length = s.out.length + m := by simp
      simp only [hlen] at hle htk
      have hrow : Row (w1.setRow h (cur.toList.take s.out.length ++ (u8s xs ++ cur.toList.drop (s.out.length + (u8s xs).length))).toArray) h c2 (s.out ++ xs) := by
        refine ⟨_, setRow_heap w1 h cur _ 5 _ hcur, ?_, ?_, by simpa [HM.out] using hle, hcm⟩
        · simp [HM.out]
          omega
        · have h1 : cur.toList.take s.out.length = u8s s.out := by
            have h2 := congrArg (List.take s.out.length) htk
            rw [List.take_take, Nat.min_eq_left (by omega)] at h2
            rw [h2]
            simp [u8s]
          rw [h1]
          simp only [List.length_append, HM.out]
          rw [← List.append_assoc, List.take_left' (by simp [HM.out])]
          simp
      have hw2 := HW.out.wrote (Only.row _) hrow (by simp [HM.out]) (by
        intro x hx
        rcases List.mem_append.1 hx with hx | hx
        · exact HH.out.byte x hx
        · exact HX.out x hx)
      have HW2 := Lib.hid hw2
      have HT2 := Lib.hid ((HT.out.mono (l' := g :: b :: blkOf A) (fun x hx => .inl (by simp only [List.mem_cons] at hx ⊢; rcases hx with hx | hx; exact .inl hx; exact .inr (.inr hx)))).then_ (turn_only (Only.row (w := w1) (h := h) (cur.toList.take s.out.length ++ (u8s xs ++ cur.toList.drop (s.out.length + (u8s xs).length))).toArray)) (fun x hx => by
        simp only [List.mem_singleton] at hx
        subst hx
        rcases HN.out x (by simp [blkOf]) with h1 | h1
        · exact .inl (by simp [h1])
        · exact .inr h1))
      have HSL := Lib.hid hsl1
      have HC : Hid (w1.heap[h]? = some (.cells cur 5 (0, 0))) := Lib.hid hcur
      have hfit : s.out.length + (u8s xs).length ≤ cur.size := by simp [HM.out]; omega
      have HMin : Hid ((u8s xs).length = Nat.min m m) := Lib.hid (by simp [HM.out])
      have HFit := Lib.hid hfit
      clear hfit
      clear hrow hw2 htk hcur hsl1
      go_wp2_with (with_reducible refine wpList_copy_own rfl (.tmp 14) (.tmp 15) 40 40 rfl 5 Try.underlying40 u8_size h s.out.length m cs ⟨h0, o, none⟩ m c0 rfl rfl cur 5 HC.out (u8s xs) HMin.out HSL.out.at_ HFit.out (u8s_one xs) ?_)
      go_ret
      rw [e.out]
      have hw3 := HW2.out
      have ht3 := HT2.out
      simp only [List.length_map] at hw3 ht3
      exact ⟨_, _, rfl, hw3, ht3, HN.out⟩

/-- Nothing to append. -/
theorem wbytes_none (g : Nat) (A : Option Addr) (c b n : Nat) (s : WS) (w : World) (H : Wr w g A c b n s) :
    Calls Try.prog 118 #[.pointer (some ⟨g, 0, none⟩), .slice none 0 0] w (Wrote w g A b n (s.putB []).2 (s.putB []).1) := by
  have HH := Lib.hid H
  clear H
  have e : Hid (s.putB [] = (0, { s with out := s.out ++ [] })) := Lib.hid (by unfold WS.putB; rw [if_neg (by simp)])
  go_enter Try.func118, Try.ntmps118
  go_wp2_with fail
  refine (wextend_ok _ _ _ _ _ _ _ HH.out 0 (Nat.zero_le _)).mono ?_
  rintro e1 w1 ⟨A2, c2, As, cs, rfl, hw, hs, ht, hn⟩
  have HW := Lib.hid hw
  have HT := Lib.hid ht
  have HN := Lib.hid hn
  clear hw ht hn hs
  go_wp2_with (with_reducible refine wpList_copy_nothing rfl (.tmp 14) (.tmp 15) 40 40 rfl 5 Try.underlying40 u8_size As none 0 cs 0 0 rfl rfl (by simp) ?_)
  go_ret
  rw [e.out]
  exact ⟨A2, c2, rfl, HW.out, HT.out.mono (fun x hx => .inl (by simp only [List.mem_cons] at hx ⊢; rcases hx with hx | hx; exact .inl hx; exact .inr (.inr hx))), HN.out⟩

/-- A mark: two zeros, and their offset among the open ones. -/
def WS.mark (s : WS) : Int × Int × WS :=
  if s.lim - s.out.length < 2 then (0, 7, s) else (s.out.length, 0, { s with out := s.out ++ List.replicate 2 0, marks := s.marks ++ [(s.out.length : Int)] })

/-- A call with two results has ended. -/
def Wrote2 (w : World) (g : Nat) (A : Option Addr) (b : Nat) (s2 : WS) (x r : Int) (e : Ending) (w' : World) : Prop :=
  ∃ A2 c2 n2, e = .returned (.tuple #[.int .i64 x, .int .i64 r]) ∧ Wr w' g A2 c2 b n2 s2 ∧ Turn (g :: b :: blkOf A) w w' ∧ ∀ y ∈ blkOf A2, y ∈ blkOf A ∨ w.heap.size ≤ y

theorem int_key : Keyed Try.prog 3 := int_keyed Try.underlying3

theorem MapIs.add {w w' : World} {b n : Nat} {marks : List Int} (m : Int) (hm : (Lit.int .i64 m).wf = true) (D : DataW Unit) (hD : w.ownsMap Try.prog 3 unitElem b n D) (hh : ∀ k : Int, (Lit.int .i64 k).wf = true → Maps.has D (.int .i64 k) = decide (k ∈ marks))
    (h2 : w'.ownsMap Try.prog 3 unitElem b (n + 1) (D.put (.int .i64 m) (.agg []))) : MapIs w' b (n + 1) (marks ++ [m]) := by
  refine ⟨_, h2, fun k hk => ?_⟩
  by_cases hkm : k = m
  · subst hkm
    rw [Maps.has_put_same hD.isMap (by trivial)]
    simp
  · rw [Maps.has_put_other (by simpa using hkm), hh k hk]
    simp [hkm]

end Go.Proofs.Ytgdfpmnbofnjfaa

namespace Go.Proofs.Ytgdfpmnbofnjfaa
open Go.RowKit Go.Maps
set_option maxRecDepth 100000
set_option linter.unusedVariables false

/-- The length of what follows a mark, written into it. -/
def WS.patch (s : WS) (m : Int) : Int × WS :=
  if m ∈ s.marks then (0, { s with out := s.out.take m.toNat ++ be ((s.out.length : Int) - (m + 2)) 2 ++ s.out.drop (m.toNat + 2), marks := s.marks.filter (fun k => decide (k ≠ m)) }) else (16, s)

theorem MapIs.drop {w' : World} {b n : Nat} {marks : List Int} (m : Int) (D : DataW Unit) (hh : ∀ k : Int, (Lit.int .i64 k).wf = true → Maps.has D (.int .i64 k) = decide (k ∈ marks))
    (h2 : w'.ownsMap Try.prog 3 unitElem b n (D.del (.int .i64 m))) : MapIs w' b n (marks.filter (fun k => decide (k ≠ m))) := by
  refine ⟨_, h2, fun k hk => ?_⟩
  by_cases hkm : k = m
  · subst hkm
    rw [Maps.has_del_same]
    simp
  · rw [Maps.has_del_other (by simpa using hkm), hh k hk]
    simp [hkm]

theorem zero_unit (w : World) : (zeroValue 103).run Try.prog w = .ok (.agg #[]) w := by kernel_rfl

theorem wbytes_nil (w : World) :
    Calls Try.prog 118 #[.pointer none, .slice none 0 0] w fun e w' => e = .returned (.int .i64 1) ∧ w = w' := by
  go_enter Try.func118, Try.ntmps118
  go_wp2_with (first
    | (go_at_call 87; refine (wextend_nil _ 0).mono ?_; rintro e w' ⟨rfl, rfl⟩)
    | (with_reducible refine wpList_copy_nothing rfl (.tmp 14) (.tmp 15) 40 40 rfl 5 Try.underlying40 u8_size none none 0 0 0 0 rfl rfl (by simp) ?_))
  go_ret
  exact ⟨rfl, rfl⟩

theorem wnumber_nil (w : World) (v : Int) (m : Int) :
    Calls Try.prog 72 #[.pointer none, .int .u64 v, .int .i64 m] w fun e w' => e = .returned (.int .i64 1) ∧ w = w' := by
  go_enter Try.func72, Try.ntmps72
  go_wp2_with (first
    | (go_at_call 73; refine (wvalid_no _).mono ?_; rintro e w' ⟨rfl, rfl⟩)
    | (go_at_call 87; refine (wextend_nil _ m).mono ?_; rintro e w' ⟨rfl, rfl⟩)
    | (go_at_call 88; refine (wput_nil v _ 0 0 none rfl).mono ?_; rintro e w' ⟨rfl, rfl⟩))
  go_ret
  exact ⟨rfl, rfl⟩

theorem wU1_nil (w : World) (v : Int) :
    Calls Try.prog 65 #[.pointer none, .int .u64 v] w fun e w' => e = .returned (.int .i64 1) ∧ w = w' := by
  go_enter Try.func65, Try.ntmps65
  go_wp2_with (go_at_call 72; refine (wnumber_nil _ v 1).mono ?_; rintro e w' ⟨rfl, rfl⟩)
  go_ret
  exact ⟨rfl, rfl⟩

theorem wU8_nil (w : World) (v : Int) :
    Calls Try.prog 54 #[.pointer none, .int .u64 v] w fun e w' => e = .returned (.int .i64 1) ∧ w = w' := by
  go_enter Try.func54, Try.ntmps54
  go_wp2_with (go_at_call 72; refine (wnumber_nil _ v 8).mono ?_; rintro e w' ⟨rfl, rfl⟩)
  go_ret
  exact ⟨rfl, rfl⟩

end Go.Proofs.Ytgdfpmnbofnjfaa
