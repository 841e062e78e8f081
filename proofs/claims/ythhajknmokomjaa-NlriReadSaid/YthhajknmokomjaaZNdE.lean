/- NlriRead: the walk. -/
import Derived.Test.YthhajknmokomjaaZNdD
import Derived.Test.YthhajknmokomjaaZNrK
import Derived.Test.YthhajknmokomjaaZNrM
import Derived.Test.YthhajknmokomjaaZNoC
namespace Go.Proofs.Ythhajknmokomjaa
open Go.RowKit Go.Maps Go.Shelf
set_option linter.unusedVariables false
set_option linter.unusedSimpArgs false
set_option maxRecDepth 100000

theorem lies_arr {w : World} {A : Option Addr} {n c : Nat} {xs : List Int} (hn : xs.length = n) (h : Arr w (.slice A n c) xs) : Lies w A n xs := fun h0 => by
  rcases h with ⟨_, rfl⟩ | ⟨ad, c', h1, h2⟩
  · simp at hn; omega
  · injection h1 with h1
    obtain ⟨b, o, rfl, hs⟩ := h2.plain (by omega)
    exact ⟨b, o, h1, hs⟩
theorem row_cap {w : World} {h c : Nat} {xs : List Int} (H : Row w h c xs) : xs.length ≤ c ∧ c ≤ 9223372036854775807 := by
  obtain ⟨cur, hh, hs, ht, hl, hm⟩ := H
  exact ⟨hl, hm⟩
theorem readP_len (bs : List Int) : (readP bs).1.length ≤ bs.length := by
  by_cases h : (readP bs).2.1 = 0
  · have := encs_len_le (readP bs).1
    rw [(readP_back h).1] at this
    exact this
  · rw [(readP_fault h).1]; simp

theorem read_long (A : Option Addr) (n c : Nat) (h : 400 < n) (hb : n ≤ 9223372036854775807) (w : World) :
    Calls Try.prog 4 #[.slice A n c] w (Fin4 w) := by
  go_enter Try.func4, Try.ntmps4
  go_wp2_with fail
  refine (lives4 _).mono ?_
  rintro en w1 ⟨rfl, hb1⟩
  go_wp2_with fail
  go_ret
  exact ⟨rfl, hb1⟩

set_option maxHeartbeats 2000000 in
theorem read_same (A : Option Addr) (bs : List Int) (c : Nat) (hm : bs.length ≤ 400) (hc : bs.length ≤ c) (hcm : c ≤ 9223372036854775807) (hby : ∀ v ∈ bs, 0 ≤ v ∧ v ≤ 255) (w : World) (ha : Arr w (.slice A bs.length c) bs) :
    Calls Try.prog 4 #[.slice A bs.length c] w (Fin4 w) := by
  have hrl := readP_len bs
  obtain ⟨L, hL⟩ : ∃ L, (readP bs).1 = L := ⟨_, rfl⟩
  obtain ⟨er, her⟩ : ∃ er, (readP bs).2.1 = er := ⟨_, rfl⟩
  obtain ⟨ea, hea⟩ : ∃ ea, (readP bs).2.2 = ea := ⟨_, rfl⟩
  rw [hL] at hrl
  have HR := Lib.hid (And.intro hL (And.intro her hea))
  have HBy := Lib.hid hby
  have HA := Lib.hid ha
  clear hL her hea hby ha
  go_enter Try.func4, Try.ntmps4
  go_wp2_with fail
  refine (lives4 _).mono ?_
  rintro en w1 ⟨rfl, hb1⟩
  have HA1 := Lib.hid (HA.out.below hb1)
  have HB1 := Lib.hid hb1
  clear hb1
  go_wp2_with fail
  refine (own_any _ bs _ HA1.out (by omega)).mono ?_
  rintro en w2 ⟨⟨h2, c2, rfl, hrow2, hsz2⟩, hb2⟩
  have hcap := row_cap hrow2
  have HA2 := Lib.hid (HA1.out.below hb2)
  have HB2 : Hid (Below w.heap.size w w2) := Lib.hid (HB1.out.trans (hb2.mono HB1.out.size))
  have HX2 : Hid (Arr w2 (.slice (some ⟨h2, 0, none⟩) bs.length c2) bs) := Lib.hid (.inr ⟨_, _, rfl, Sl.at_ hrow2.all⟩)
  have HCp := Lib.hid hcap
  clear hrow2 hsz2 hb2 hcap HA1 HB1
  go_wp2_with fail
  refine (read_arr _ bs _ HX2.out ⟨_, _, _, rfl, HCp.out.1, HCp.out.2⟩ (by omega) HBy.out).mono ?_
  rintro en w3 ⟨v3, rfl, hown3, hb3⟩
  rw [HR.out.2.1, HR.out.2.2]
  rw [HR.out.1] at hown3
  obtain ⟨A3, c3, rfl⟩ := own_form hown3
  have HN3 : Hid (Nls w3 (.slice A3 L.length c3) L) := Lib.hid (own_nls hown3)
  have HB3 : Hid (Below w.heap.size w w3) := Lib.hid (HB2.out.trans (hb3.mono HB2.out.size))
  have HA3 := Lib.hid (HA2.out.below hb3)
  clear hown3 hb3 HA2 HB2 HX2 HCp
  have HN4 : Hid (Nls (w3.alloc (.cells #[.int .i64 er, .int .i64 ea] 47)) (.slice A3 L.length c3) L) := Lib.hid (HN3.out.below ((Below.refl _ w3).alloc (Nat.le_refl _) _))
  have HB4 : Hid (Below w.heap.size w (w3.alloc (.cells #[.int .i64 er, .int .i64 ea] 47))) := Lib.hid (HB3.out.alloc HB3.out.size _)
  have HA4 : Hid (Arr (w3.alloc (.cells #[.int .i64 er, .int .i64 ea] 47)) (.slice A bs.length c) bs) := Lib.hid (HA3.out.below ((Below.refl _ w3).alloc (Nat.le_refl _) _))
  have HF4 : Hid (Has (w3.alloc (.cells #[.int .i64 er, .int .i64 ea] 47)) w3.heap.size 47 #[.int .i64 er, .int .i64 ea]) := Lib.hid (Has.new _ _ _)
  have hs4 : (w3.alloc (.cells #[.int .i64 er, .int .i64 ea] 47)).heap.size = w3.heap.size + 1 := by simp
  have HS4 := Lib.hid hs4
  clear hs4
  go_wp2_with fail
  generalize w3.alloc (.cells #[.int .i64 er, .int .i64 ea] 47) = w4 at *
  refine (rread_any A c bs hm hc hcm HBy.out _ (lies_arr rfl HA4.out)).mono ?_
  rintro en w5 ⟨v5, rfl, hown5, hb5⟩
  rw [HR.out.2.1, HR.out.2.2]
  rw [HR.out.1] at hown5
  obtain ⟨A5, c5, rfl⟩ := own_form hown5
  have HN5 : Hid (Nls w5 (.slice A5 L.length c5) L) := Lib.hid (own_nls hown5)
  have HM5 : Hid (Nls w5 (.slice A3 L.length c3) L) := Lib.hid (HN4.out.below hb5)
  have HB5 : Hid (Below w.heap.size w w5) := Lib.hid (HB4.out.trans (hb5.mono HB4.out.size))
  have HF5 := Lib.hid (HF4.out.below hb5)
  clear hown5 hb5 HN4 HB4 HA4 HF4 HA3 HB3 HN3
  have hE := eql_ft er ea er ea
  simp only [beq_self_eq_true, Bool.and_self] at hE
  have HN6 : Hid (Nls (w5.alloc (.cells #[.int .i64 er, .int .i64 ea] 47)) (.slice A5 L.length c5) L) := Lib.hid (HN5.out.below ((Below.refl _ w5).alloc (Nat.le_refl _) _))
  have HM6 : Hid (Nls (w5.alloc (.cells #[.int .i64 er, .int .i64 ea] 47)) (.slice A3 L.length c3) L) := Lib.hid (HM5.out.below ((Below.refl _ w5).alloc (Nat.le_refl _) _))
  have HB6 : Hid (Below w.heap.size w (w5.alloc (.cells #[.int .i64 er, .int .i64 ea] 47))) := Lib.hid (HB5.out.alloc HB5.out.size _)
  have HF6 : Hid (Has (w5.alloc (.cells #[.int .i64 er, .int .i64 ea] 47)) w3.heap.size 47 #[.int .i64 er, .int .i64 ea]) := Lib.hid (HF5.out.below ((Below.refl _ w5).alloc (Nat.le_refl _) _))
  have HG6 : Hid (Has (w5.alloc (.cells #[.int .i64 er, .int .i64 ea] 47)) w5.heap.size 47 #[.int .i64 er, .int .i64 ea]) := Lib.hid (Has.new _ _ _)
  clear HN5 HM5 HB5 HF5
  go_wp2_with fail
  generalize w5.alloc (.cells #[.int .i64 er, .int .i64 ea] 47) = w6 at *
  have c0 : w6.cell? ⟨w3.heap.size, 0, none⟩ = some (.int .i64 er) := HF6.out.cell 0
  have c1 : w6.cell? ⟨w3.heap.size, 1, none⟩ = some (.int .i64 ea) := HF6.out.cell 1
  have d0 : w6.cell? ⟨w5.heap.size, 0, none⟩ = some (.int .i64 er) := HG6.out.cell 0
  have d1 : w6.cell? ⟨w5.heap.size, 1, none⟩ = some (.int .i64 ea) := HG6.out.cell 1
  refine (same_nl _ _ L _ HM6.out HN6.out (by omega)).mono ?_
  rintro en w7 ⟨rfl, q, rfl⟩
  go_wp2_with fail
  go_ret
  exact ⟨rfl, below_drewN HB6.out q⟩

theorem read_law (A : Option Addr) (bs : List Int) (c : Nat) (hc : bs.length ≤ c) (hcm : c ≤ 9223372036854775807) (hby : ∀ v ∈ bs, 0 ≤ v ∧ v ≤ 255) (w : World) (ha : Arr w (.slice A bs.length c) bs) :
    Calls Try.prog 4 #[.slice A bs.length c] w (Fin4 w) := by
  by_cases hm : bs.length ≤ 400
  · exact read_same A bs c hm hc hcm hby w ha
  · exact read_long A bs.length c (by omega) (by omega) w
end Go.Proofs.Ythhajknmokomjaa
