/- The contract of lower. -/
import Derived.Test.YtlmgbnpimmjijaaDoorMACText
import Derived.Lib.ConvBytes
import Derived.Lib.SlBytesRow
namespace Go.Proofs.YtlmgbnpimmjijaaDoor
open Go.RowKit

/-- A byte in lower case. -/
def lowB (c : UInt8) : UInt8 := if 65 ≤ c.toNat ∧ c.toNat ≤ 90 then UInt8.ofNat (c.toNat + 32) else c
/-- The bytes in lower case up to a position. -/
def lowTo (s : ByteArray) (k j : Nat) : Int := if j < k then ((lowB (s.data.toList.getD j 0)).toNat : Int) else ((s.data.toList.getD j 0).toNat : Int)
/-- A string in lower case. -/
def lowS (s : ByteArray) : ByteArray := ⟨(s.data.toList.map lowB).toArray⟩

theorem lowTo_at (s : ByteArray) (k : Nat) : lowTo s k k = ((s.data.toList.getD k 0).toNat : Int) := by unfold lowTo; rw [if_neg (by omega)]
theorem lowTo_next (s : ByteArray) (k : Nat) : lowTo s (k + 1) k = ((lowB (s.data.toList.getD k 0)).toNat : Int) := by unfold lowTo; rw [if_pos (by omega)]
theorem lowTo_other (s : ByteArray) (k j : Nat) (h : j ≠ k) : lowTo s (k + 1) j = lowTo s k j := by
  unfold lowTo
  by_cases h1 : j < k
  · rw [if_pos h1, if_pos (by omega)]
  · rw [if_neg h1, if_neg (by omega)]
theorem lowTo_zero (s : ByteArray) (j : Nat) : lowTo s 0 j = ((s.data.toList.getD j 0).toNat : Int) := by unfold lowTo; rw [if_neg (by omega)]

theorem lowB_in {c : UInt8} (h : 65 ≤ (c.toNat : Int)) (h1 : (c.toNat : Int) ≤ 90) : ((lowB c).toNat : Int) = (c.toNat : Int) + 32 := by
  unfold lowB
  rw [if_pos (by omega)]
  simp
  omega
theorem lowB_out {c : UInt8} (h : ¬ (65 ≤ (c.toNat : Int) ∧ (c.toNat : Int) ≤ 90)) : ((lowB c).toNat : Int) = (c.toNat : Int) := by
  unfold lowB
  rw [if_neg (by omega)]

/-- What the loop of lower keeps. -/
structure Low (w : World) (s : ByteArray) (k : Nat) (W : World) : Prop where
  bel : Below w.heap.size w W
  cell : ∀ j, j < s.size → W.cell? ⟨w.heap.size, j, none⟩ = some (.int .u8 (lowTo s k j))
  free : ∀ j, j < s.size → W.frozen? ⟨w.heap.size, j, none⟩ = false

theorem Low.skip {w W : World} {s : ByteArray} {k : Nat} (h : Low w s k W) (_ : k < s.size) (he : ((lowB (s.data.toList.getD k 0)).toNat : Int) = ((s.data.toList.getD k 0).toNat : Int)) : Low w s (k + 1) W := by
  refine ⟨h.bel, fun j hj => ?_, h.free⟩
  rw [h.cell j hj]
  by_cases e : j = k
  · subst e
    rw [lowTo_at, lowTo_next, he]
  · rw [lowTo_other s k j e]

theorem cell_past (W : World) (g k j : Nat) (v : Value) (h : ¬ j = k) : (W.setCell ⟨g, k, none⟩ v).cell? ⟨g, j, none⟩ = W.cell? ⟨g, j, none⟩ :=
  World.cell?_setCell_other W _ _ v (by intro e; injection e with _ e2; exact h e2.symm)

theorem Low.next {w W : World} {s : ByteArray} {k : Nat} {v : Int} (h : Low w s k W) (hk : k < s.size) (he : ((lowB (s.data.toList.getD k 0)).toNat : Int) = v) : Low w s (k + 1) (W.setCell ⟨w.heap.size, k, none⟩ (.int .u8 v)) := by
  refine ⟨h.bel.setCell (by simp) _, fun j hj => ?_, fun j hj => by rw [World.frozen?_setCell]; exact h.free j hj⟩
  by_cases e : j = k
  · subst e
    rw [World.cell?_setCell_same' _ _ _ (by rw [h.cell j hj]; rfl), lowTo_next, he]
  · rw [cell_past W w.heap.size k j _ e, h.cell j hj, lowTo_other s k j e]

theorem lowS_size (s : ByteArray) : (lowS s).size = s.size := by
  show (s.data.toList.map lowB).toArray.size = s.data.size
  simp

theorem Low.bytes {w W : World} {s : ByteArray} (h : Low w s s.size W) : Lib.Bytes W w.heap.size 0 (lowS s) := by
  intro i hi
  have hi' : i < s.size := by rw [lowS_size] at hi; exact hi
  rw [Nat.zero_add, h.cell i hi']
  have e : (lowS s)[i] = lowB (s.data.toList.getD i 0) := by
    have h1 := byte_at (lowS s) i hi
    have h2 := byte_at s i hi'
    have h3 : (lowS s).data.toList = s.data.toList.map lowB := by simp [lowS]
    rw [h3, List.getElem?_map, h2] at h1
    simp only [Option.map_some, Option.some.injEq] at h1
    rw [← h1, List.getD_eq_getElem?_getD, h2]
    rfl
  rw [e]
  unfold lowTo
  rw [if_pos hi']

theorem low_start (w : World) (s : ByteArray) : Low w s 0 (Lib.bytesWorld w 5 s) where
  bel := ⟨rfl, rfl, rfl, by rw [Lib.bytesWorld_size]; omega, fun k hk => Lib.bytesWorld_at_old w _ s k hk⟩
  cell := fun j hj => by rw [Lib.bytesWorld_cell w _ s j hj, lowTo_zero]
  free := fun j hj => by
    have h1 : s.size ≤ (Lib.bytesCells w 5 s).size := by simp [Lib.bytesCells]
    simp [World.frozen?, Lib.bytesWorld_at_new]
    omega

set_option maxHeartbeats 1000000 in
set_option maxRecDepth 100000 in
theorem lower_b (s : ByteArray) (hs : s.size ≤ 1000) (w : World) :
    Calls Tryd.prog 21 #[.string s] w fun e w' => e = .returned (.string (lowS s)) ∧ Below w.heap.size w w' := by
  have H0 := low_start w s
  have hcv := Lib.run_convert_string_bytes (P := Tryd.prog) w 9 75 5 s Tryd.underlying9 Tryd.underlying75 Tryd.underlying5
  go_enter Tryd.func21, Tryd.ntmps21
  go_wp2_with fail
  go_loopw [4] (fun iv wr => ∃ k : Nat, k ≤ s.size ∧ iv = .int .i64 k ∧ Low w s k wr) (fun iv _ => s.size - (intOf iv).toNat)
  case atStart => exact ⟨0, Nat.zero_le _, rfl, H0⟩
  case round =>
    obtain ⟨k, hk, rfl, HL⟩ := hrel
    by_cases hlt : k < s.size
    · have hc := HL.cell k hlt
      rw [lowTo_at] at hc
      obtain ⟨c, hce⟩ : ∃ c, s.data.toList.getD k 0 = c := ⟨_, rfl⟩
      rw [hce] at hc
      have hf := HL.free k hlt
      have HL' := Lib.hid HL
      have HE := Lib.hid hce
      have hcr : (0 : Int) ≤ (c.toNat : Int) ∧ (c.toNat : Int) ≤ 255 := ⟨by omega, by have := c.toNat_lt; omega⟩
      have HO := Lib.hid (fun h => lowB_out (c := c) h)
      have HI := Lib.hid (fun h => lowB_in (c := c) h)
      clear hce HL
      obtain ⟨x, hxe⟩ : ∃ x : Int, (c.toNat : Int) = x := ⟨_, rfl⟩
      rw [hxe] at hc hcr HO HI
      obtain ⟨hx0, hx1⟩ := hcr
      have HX := Lib.hid hxe
      clear hxe
      by_cases ha : 65 ≤ x
      · by_cases hb : x ≤ 90
        · go_wp2_with fail
          go_round
          case rel => exact ⟨k + 1, by omega, by go_num, HL'.out.next hlt (by rw [HE.out, HI.out ha hb])⟩
          case measure => simp [intOf]; omega
        · go_wp2_with fail
          go_round
          case rel => exact ⟨k + 1, by omega, by go_num, HL'.out.skip hlt (by rw [HE.out, HX.out, HO.out (by omega)])⟩
          case measure => simp [intOf]; omega
      · go_wp2_with fail
        go_round
        case rel => exact ⟨k + 1, by omega, by go_num, HL'.out.skip hlt (by rw [HE.out, HX.out, HO.out (by omega)])⟩
        case measure => simp [intOf]; omega
    · have hke : k = s.size := by omega
      subst hke
      have hcv2 := Lib.run_convert_whole (P := Tryd.prog) wr 75 5 9 Tryd.underlying75 Tryd.underlying5 Tryd.underlying9 w.heap.size 0 (lowS s) HL.bytes (grownCap w s.size 0 5)
      rw [lowS_size] at hcv2
      have hb := HL.bel
      clear HL
      go_wp2_with fail
      go_ret
      exact ⟨rfl, hb⟩

end Go.Proofs.YtlmgbnpimmjijaaDoor
