/- NlriNames: texts and bytes; Times. -/
import Derived.Test.YtjachhgcoioohaaNrR
import Derived.Test.YtjachhgcoioohaaNoR
import Derived.OwnWalk
import Derived.ArgAppend
import Derived.Great.BuildSlice
import Derived.Laws.IdiomStrings
import Derived.Lib.AppendStr
namespace Go.Proofs.Ytjachhgcoioohaa
open Go.RowKit Go.Maps Go.Shelf
set_option linter.unusedVariables false
set_option linter.unusedSimpArgs false
set_option maxRecDepth 100000

def ints (l : List UInt8) : List Int := l.map fun b => (b.toNat : Int)
/-- Bytes as a text. -/
theorem str_arr {w : World} {A : Option Addr} {n c : Nat} (l : List UInt8) (hl : 0 < l.length) (hn : n = l.length) (h : Arr w (.slice A n c) (ints l)) :
    (convert 23 9 (.slice A n c)).run Try.prog w = .ok (.string ⟨l.toArray⟩) w := by
  subst hn
  rcases h with ⟨_, h1⟩ | ⟨ad, c', h1, h2⟩
  · have := congrArg List.length h1
    simp only [ints, List.length_map, List.length_nil] at this
    omega
  · injection h1 with e1 e2 e3
    subst e1 e3
    exact run_convert_bytes_back w _ _ 5 ad c l Try.underlying23 Try.underlying5 Try.underlying9 (fun j hj => h2 j _ (by simp [ints, u8s, hj]))

/-- A text as bytes: a new row, its capacity open. -/
theorem bytes_str (w : World) (l : List UInt8) : ∃ cap, l.length ≤ cap ∧ (l.length ≤ maxLen → cap ≤ maxLen) ∧ ∃ C : Array Value, C.size = cap ∧ C.toList.take l.length = u8s (ints l) ∧
    (convert 9 23 (.string ⟨l.toArray⟩)).run Try.prog w = .ok (.slice (some ⟨w.heap.size, 0, none⟩) l.length cap) (w.drew.alloc (.cells C 5 (cap, cap + 1))) := by
  have hsz : (⟨l.toArray⟩ : ByteArray).size = l.length := by simp [ByteArray.size]
  refine ⟨grownCap w l.length 0 5, grownCap_ge w l.length 0 5, grownCap_le_maxLen w l.length 0 5, bytesRow ⟨l.toArray⟩ (grownCap w l.length 0 5), ?_, ?_, ?_⟩
  · have := grownCap_ge w l.length 0 5
    simp [bytesRow, hsz]
    omega
  · simp [bytesRow, hsz, u8s, ints]
  · have h := run_bytes_of_string (P := Try.prog) w 9 23 5 ⟨l.toArray⟩ Try.underlying9 Try.underlying23 Try.underlying5
    rw [hsz] at h
    have e : (bytesRow ⟨l.toArray⟩ (grownCap w l.length 0 5)).size = grownCap w l.length 0 5 := by
      have := grownCap_ge w l.length 0 5
      simp [bytesRow, hsz]
      omega
    rw [e] at h
    exact h

theorem str_cells (s : ByteArray) : Lib.strCells s = u8s (ints s.data.toList) := by simp [Lib.strCells, u8s, ints]

def zs (n : Nat) : List UInt8 := List.replicate n 0

set_option maxHeartbeats 1000000 in
/-- 22 bytes of zero. -/
theorem times_zero (w : World) : Calls Try.prog 11 #[.string ⟨#[0]⟩, .int .i64 22] w fun e w' => e = .returned (.string ⟨(zs 22).toArray⟩) ∧ Below w.heap.size w w' := by
  obtain ⟨i0, hi0, hz0, hz1, hz2⟩ := info_parts info_u8
  go_enter Try.func11, Try.ntmps11
  go_wp2_with (refine wpList_make_own w rfl _ (.tmp 11) 23 rfl w.heap.size 5 i0 (.int .u8 0) 1 Try.underlying23 hi0 hz0 hz1 .i64 .i64 22 22 rfl rfl rfl (by rw [hz2]; omega) (by unfold maxLen; omega) (Nat.le_refl _) ?_; intro w1 hown1 hgrow1; have HO1 := Lib.hid hown1; have HB1 : Hid (Below w.heap.size w w1) := Lib.hid ((Below.refl _ w).grown hgrow1 (Nat.le_refl _) (fun k e => by cases e)); clear hown1 hgrow1)
  go_loopw [5, 6] (fun a i wr => ∃ (k : Nat) (A : Option Addr) (c : Nat), k ≤ 22 ∧ a = .slice A k c ∧ i = .int .i64 k ∧ wr.ownsRow w.heap.size 5 1 (.slice A k c) k (u8s (ints (zs k))) ∧ Below w.heap.size w wr) (fun _ i _ => 22 - (intOf i).toNat)
  case atStart => exact ⟨0, _, _, by omega, rfl, rfl, HO1.out, HB1.out⟩
  case round =>
    obtain ⟨k, A, c, hk, rfl, rfl, hown, hbel⟩ := hrel
    have HO := Lib.hid hown
    have HB := Lib.hid hbel
    clear hown hbel
    by_cases hlt : k < 22
    · go_wp2_with (at_builtin; refine Lib.wpList_append_own_string _ rfl (.tmp 18) (.tmp 19) 23 9 rfl w.heap.size 5 i0 Try.underlying23 Try.underlying9 hi0 hz0 hz1 hz2 (.slice A k c) k _ rfl HO.out ⟨#[0]⟩ rfl (by simp [ByteArray.size, maxLen]; omega) (by simp [ByteArray.size]; omega) HB.out.size ?_; intro v2 w2 hown2 hgrow2 hnil2; have hown3 : w2.ownsRow w.heap.size 5 1 v2 (k + 1) (u8s (ints (zs k)) ++ Lib.strCells ⟨#[0]⟩) := hown2; obtain ⟨A2, c2, rfl⟩ := own_form hown3; have HO2 := Lib.hid hown3; have HB2 : Hid (Below w.heap.size w w2) := Lib.hid (own_bel HO.out HB.out hgrow2 HB.out.size (Nat.le_refl _)); clear hown2 hown3 hgrow2 hnil2)
      go_roundw
      case rel =>
        refine ⟨k + 1, A2, c2, by omega, rfl, by go_num, ?_, HB2.out⟩
        have h := HO2.out
        rw [str_cells] at h
        have e : u8s (ints (zs (k + 1))) = u8s (ints (zs k)) ++ u8s (ints [0]) := by
          simp only [zs, List.replicate_succ', u8s, ints, List.map_append]
        rw [e]
        exact h
      case measure => simp [intOf]; omega
    · obtain rfl : k = 22 := by omega
      have hconv : (convert 23 9 (.slice A 22 c)).run Try.prog wr = .ok (.string ⟨(zs 22).toArray⟩) wr := by
        refine str_arr (zs 22) (by decide) (by decide) ?_
        rcases HO.out.2 with ⟨_, h2⟩ | ⟨g, cap, cur, h1, h2, h3, h4, h5, h6, h7⟩
        · cases h2
        · rw [h1]
          refine .inr ⟨_, cap, rfl, fun j u hu => ?_⟩
          have hh : Has wr g 5 cur := h3
          rw [Addr.add_mid, Nat.zero_add, hh.cell j, ← Array.getElem?_toList]
          rw [← h7, List.getElem?_take] at hu
          split at hu
          · exact hu
          · cases hu
      go_wp2_with fail
      go_ret
      exact ⟨rfl, HB.out⟩

end Go.Proofs.Ytjachhgcoioohaa
