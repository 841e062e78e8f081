/- Routes: the document's take, and a value being read. -/
import Derived.Test.YthhajknmokomjaaZNra
import Derived.Test.YthhajknmokomjaaZNrF
import Derived.Test.YthhajknmokomjaaZNoR
namespace Go.Proofs.Ythhajknmokomjaa
open Go.RowKit Go.Maps Go.Shelf
set_option linter.unusedVariables false
set_option linter.unusedSimpArgs false
set_option maxRecDepth 100000

/-- A number of some bytes at an offset, or 0 if there are fewer. -/
def tki (xs : List Int) (a s : Int) : Int := if a.toNat + s.toNat ≤ xs.length then num ((xs.drop a.toNat).take s.toNat) else 0

theorem tki_bd {xs : List Int} (h : ∀ v ∈ xs, 0 ≤ v ∧ v ≤ 255) (a s : Int) : 0 ≤ tki xs a s ∧ tki xs a s < 256 ^ s.toNat := by
  unfold tki
  split
  · have := num_bound ((xs.drop a.toNat).take s.toNat) (fun v hv => h v (List.mem_of_mem_drop (List.mem_of_mem_take hv)))
    have e : ((xs.drop a.toNat).take s.toNat).length = s.toNat := by simp; omega
    rwa [e] at this
  · exact ⟨Int.le_refl _, Int.pow_pos (by omega)⟩

/-- Where the bytes lie, if there are any. -/
def Lies (w : World) (A : Option Addr) (n : Nat) (xs : List Int) : Prop := 0 < n → ∃ b o, A = some ⟨b, o, none⟩ ∧ Sl w b o xs
theorem Lies.below {w w' : World} {A : Option Addr} {n : Nat} {xs : List Int} (h : Lies w A n xs) (hb : Below w.heap.size w w') : Lies w' A n xs := fun h0 => by
  obtain ⟨b, o, h1, h2⟩ := h h0
  exact ⟨b, o, h1, h2.below hb⟩

theorem rtk_no (A : Option Addr) (n c : Nat) (a s : Int) (ha : 0 ≤ a ∧ a ≤ 1000) (hs : 1 ≤ s ∧ s ≤ 8) (hm : n ≤ 1000) (hf : (n : Int) < a + s) (w : World) :
    Calls Try.prog 67 #[.slice A n c, .int .i64 a, .int .i64 s] w fun e w' => e = .returned (.int .u64 0) ∧ w = w' := by
  obtain ⟨ha0, ha1⟩ := ha
  obtain ⟨hs0, hs1⟩ := hs
  go_enter Try.func67, Try.ntmps67
  go_wp2
  go_loop [7, 8] (fun n i => i = .int .i64 0 ∧ n = .int .u64 0) (fun _ i => 0)
  case atStart => exact ⟨rfl, rfl⟩
  case round =>
    obtain ⟨rfl, rfl⟩ := hrel
    go_wp2
    go_ret
    exact ⟨rfl, rfl⟩

theorem add_byte (n b : Int) (h0 : 0 ≤ n) (h1 : n < 72057594037927936) (b0 : 0 ≤ b) (b1 : b ≤ 255) : IntKind.u64.wrap (n * 256) = n * 256 ∧ IntKind.u64.wrap (n * 256 + b) = n * 256 + b :=
  ⟨wrap_u64 _ (by omega) (by omega), wrap_u64 _ (by omega) (by omega)⟩

set_option maxHeartbeats 1000000 in
theorem rtk_yes (b o c n : Nat) (xs : List Int) (hn : xs.length = n) (a s : Int) (ha : 0 ≤ a ∧ a ≤ 1000) (hs : 1 ≤ s ∧ s ≤ 8) (hm : n ≤ 1000) (hf : a + s ≤ n) (hx : ∀ v ∈ xs, 0 ≤ v ∧ v ≤ 255) (w : World) (hc : Sl w b o xs) :
    Calls Try.prog 67 #[.slice (some ⟨b, o, none⟩) n c, .int .i64 a, .int .i64 s] w fun e w' => e = .returned (.int .u64 (num ((xs.drop a.toNat).take s.toNat))) ∧ w = w' := by
  subst hn
  obtain ⟨a, rfl⟩ := Int.eq_ofNat_of_zero_le ha.1
  obtain ⟨s, rfl⟩ := Int.eq_ofNat_of_zero_le (show 0 ≤ s by omega)
  have ha1 : a ≤ 1000 := by omega
  have hs0 : 1 ≤ s := by omega
  have hs1 : s ≤ 8 := by omega
  simp only [Int.toNat_natCast]
  have HC := Lib.hid hc
  have HX := Lib.hid hx
  clear hc hx ha hs
  go_enter Try.func67, Try.ntmps67
  go_wp2
  go_loop [7, 8] (fun n i => ∃ k : Nat, k ≤ s ∧ i = .int .i64 k ∧ n = .int .u64 (num ((xs.drop a).take k))) (fun _ i => s - (intOf i).toNat)
  case atStart => exact ⟨0, Nat.zero_le _, rfl, rfl⟩
  case round =>
    obtain ⟨k, hk, rfl, rfl⟩ := hrel
    by_cases hlt : k < s
    · have hcell := HC.out (a + k) (by omega)
      obtain ⟨hx0, hx1⟩ := HX.out xs[a + k] (List.getElem_mem _)
      obtain ⟨x, hxe⟩ : ∃ x, xs[a + k] = x := ⟨_, rfl⟩
      rw [hxe] at hcell hx0 hx1
      obtain ⟨n, hne⟩ : ∃ n, num ((xs.drop a).take k) = n := ⟨_, rfl⟩
      have hn := num_bound ((xs.drop a).take k) (fun v hv => HX.out v (List.mem_of_mem_drop (List.mem_of_mem_take hv)))
      rw [hne] at hn ⊢
      have HS : Hid (num ((xs.drop a).take (k + 1)) = n * 256 + x) := Lib.hid (by rw [List.take_succ_eq_append_getElem (by simp; omega), num_snoc, hne, List.getElem_drop, hxe])
      have hn0 : 0 ≤ n := hn.1
      have hn1 : n < 72057594037927936 := by
        have h2 := hn.2
        have hle : ((xs.drop a).take k).length ≤ 7 := by simp; omega
        have := pow_mono 7 hle
        omega
      obtain ⟨hw1, hw2⟩ := add_byte n x hn0 hn1 hx0 hx1
      clear hn hxe hne
      go_wp2
      go_round
      case rel => exact ⟨k + 1, by omega, by go_num, by rw [HS.out]⟩
      case measure => simp [intOf]; omega
    · have hke : k = s := by omega
      subst hke
      go_wp2
      go_ret
      exact ⟨rfl, rfl⟩

/-- take, of whatever slice. -/
theorem rtk (A : Option Addr) (n c : Nat) (xs : List Int) (hn : xs.length = n) (a s : Int) (ha : 0 ≤ a ∧ a ≤ 1000) (hs : 1 ≤ s ∧ s ≤ 8) (hm : n ≤ 1000) (hx : ∀ v ∈ xs, 0 ≤ v ∧ v ≤ 255) (w : World) (hc : Lies w A n xs) :
    Calls Try.prog 67 #[.slice A n c, .int .i64 a, .int .i64 s] w fun e w' => e = .returned (.int .u64 (tki xs a s)) ∧ w = w' := by
  unfold tki
  by_cases hf : a.toNat + s.toNat ≤ xs.length
  · rw [if_pos hf]
    obtain ⟨b, o, rfl, h⟩ := hc (by omega)
    exact rtk_yes b o c n xs hn a s ha hs hm (by omega) hx w h
  · rw [if_neg hf]
    exact rtk_no A n c a s ha hs hm (by omega) w

/-- A route in a block of the call's own, and a block of zeros for the result. -/
structure VB (w0 : World) (x : NL) (W : World) : Prop where
  box : Has W (w0.heap.size + 1) 31 x.cs
  zer : Has W w0.heap.size 31 zcs
  bel : Below w0.heap.size w0 W
section
variable {w0 W : World} {x : NL}
theorem VB.start (w : World) : VB w nl0 ((w.alloc (.cells zcs 31)).alloc (.cells zcs 31)) := by
  refine ⟨?_, (Has.new w _ _).below ((Below.refl _ _).alloc (Nat.le_refl _) _), ((Below.refl _ w).alloc (Nat.le_refl _) _).alloc (by simp) _⟩
  have h1 := Has.new (w.alloc (.cells zcs 31)) 31 zcs
  have h2 : Has ((w.alloc (.cells zcs 31)).alloc (.cells zcs 31)) (w.heap.size + 1) 31 zcs := by simpa using h1
  exact h2
theorem VB.set (H : VB w0 x W) (i : Nat) (u : Value) (x' : NL) (he : x.cs.setIfInBounds i u = x'.cs) : VB w0 x' (W.setCell ⟨w0.heap.size + 1, i, none⟩ u) :=
  ⟨he ▸ H.box.set_ i u, H.zer.far1 (by omega), H.bel.setCell (p := ⟨w0.heap.size + 1, i, none⟩) (show w0.heap.size ≤ w0.heap.size + 1 by omega) u⟩
theorem VB.row (H : VB w0 x W) (x' : NL) : VB w0 x' (W.setRow (w0.heap.size + 1) x'.cs) :=
  ⟨setRow_heap _ _ _ _ _ _ H.box, H.zer.grown (Only.row (h := w0.heap.size + 1) x'.cs) (by simp), below_setRow H.bel (by omega) _⟩
theorem VB.drew (H : VB w0 x W) : VB w0 x W.drew := ⟨H.box, H.zer, H.bel.drew⟩
theorem VB.lies {A : Option Addr} {n : Nat} {xs : List Int} (H : VB w0 x W) (h : Lies w0 A n xs) : Lies W A n xs := h.below H.bel
theorem VB.end_ (H : VB w0 x W) : Below w0.heap.size w0 (W.setRow w0.heap.size x.cs) := below_setRow H.bel (Nat.le_refl _) _
/-- Ten bytes laid over the identifier. -/
theorem VB.esi (H : VB w0 x W) {W' : World} {X : List Int} (h : W'.heap[w0.heap.size + 1]? = some (.cells (splice x.l 2 (u8s X)).toArray 31 (0, 0))) (hX : X.length = 10) (hb : Below (w0.heap.size + 1) W W') :
    VB w0 { x with e0 := ten X 0, e1 := ten X 1, e2 := ten X 2, e3 := ten X 3, e4 := ten X 4, e5 := ten X 5, e6 := ten X 6, e7 := ten X 7, e8 := ten X 8, e9 := ten X 9 } W' := by
  refine ⟨?_, (hb.block _ (by omega)).trans H.zer, H.bel.trans (hb.mono (by omega))⟩
  obtain ⟨a, b, c, d, e, f, g, h', i, j, rfl⟩ := list10 X hX
  exact h
end

theorem in6 {v : Int} (h : 0 ≤ v ∧ v < 256 ^ 6) : IntKind.u64.wrap v = v := wrap_u64 v h.1 (by omega)

end Go.Proofs.Ythhajknmokomjaa
