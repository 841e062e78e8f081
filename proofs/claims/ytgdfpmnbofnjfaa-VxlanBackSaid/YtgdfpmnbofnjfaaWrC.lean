/- Writers: what a writer is in memory; new ones; lengths and copies; more room. -/
import Derived.Test.YtgdfpmnbofnjfaaWrB
import Derived.Maps.OwnSet
import Derived.Maps.OwnOps
namespace Go.Proofs.Ytgdfpmnbofnjfaa
open Go.RowKit Go.Maps
set_option maxRecDepth 100000
set_option linter.unusedVariables false

/-- What a writer is: its limit, its bytes, the offsets of its open marks. -/
structure WS where
  lim : Nat
  out : List Int
  marks : List Int

/-- Block b is a map whose keys are these offsets. -/
def MapIs (w : World) (b n : Nat) (marks : List Int) : Prop :=
  ∃ D : DataW Unit, w.ownsMap Try.prog 3 unitElem b n D ∧ ∀ m : Int, (Lit.int .i64 m).wf = true → Maps.has D (.int .i64 m) = decide (m ∈ marks)

theorem MapIs.lt {w : World} {b n : Nat} {marks : List Int} (h : MapIs w b n marks) : b < w.heap.size := by
  obtain ⟨D, h1, _⟩ := h
  exact h1.lt
theorem MapIs.kept {w w' : World} {b n : Nat} {marks : List Int} (h : MapIs w b n marks) (hb : w'.heap[b]? = w.heap[b]?) : MapIs w' b n marks := by
  obtain ⟨D, ⟨es, clock, h1, h2⟩, h3⟩ := h
  exact ⟨D, ⟨es, clock, hb.trans h1, h2⟩, h3⟩
theorem MapIs.unlike {w : World} {b n g : Nat} {marks : List Int} {t : TypeId} {cs : Array Value} (h : MapIs w b n marks) (h' : Has w g t cs) : g ≠ b := by
  rintro rfl
  obtain ⟨D, ⟨es, clock, h1, _⟩, _⟩ := h
  unfold Has at h'
  rw [h1] at h'
  cases h'

/-- The block of an address, if there is one. -/
def blkOf (A : Option Addr) : List Nat := (A.map (·.block)).toList

/-- A slice that holds these bytes. -/
def Buf (w : World) (A : Option Addr) (c : Nat) (xs : List Int) : Prop := (A = none ∧ c = 0 ∧ xs = []) ∨ ∃ h, A = some ⟨h, 0, none⟩ ∧ Row w h c xs

theorem Buf.vec {w : World} {A : Option Addr} {c : Nat} {xs : List Int} (h : Buf w A c xs) : Vec w (.slice A xs.length c) xs := by
  rcases h with ⟨rfl, rfl, rfl⟩ | ⟨h, rfl, hr⟩
  · exact .inl ⟨rfl, rfl⟩
  · exact .inr ⟨h, c, rfl, hr⟩
theorem Vec.buf {w : World} {v : Value} {xs : List Int} (h : Vec w v xs) : ∃ A c, v = .slice A xs.length c ∧ Buf w A c xs := by
  rcases h with ⟨rfl, rfl⟩ | ⟨h, c, rfl, hr⟩
  · exact ⟨none, 0, rfl, .inl ⟨rfl, rfl, rfl⟩⟩
  · exact ⟨_, c, rfl, .inr ⟨h, rfl, hr⟩⟩
theorem Buf.turn {l : List Nat} {w w' : World} {A : Option Addr} {c : Nat} {xs : List Int} (h : Buf w A c xs) (ht : Turn l w w') (hn : ∀ k ∈ blkOf A, k ∉ l) : Buf w' A c xs := by
  rcases h with h | ⟨h, rfl, hr⟩
  · exact .inl h
  · exact .inr ⟨h, rfl, hr.turn ht (hn h (by simp [blkOf]))⟩
theorem Buf.lt {w : World} {A : Option Addr} {c : Nat} {xs : List Int} (h : Buf w A c xs) : ∀ k ∈ blkOf A, k < w.heap.size := by
  rcases h with ⟨rfl, _⟩ | ⟨h, rfl, hr⟩
  · simp [blkOf]
  · simpa [blkOf] using hr.lt

/-- The cells of a writer. -/
abbrev wrc (lim : Nat) (A : Option Addr) (n c b : Nat) : Array Value := #[.int .i64 lim, .slice A n c, .map (some b)]

/-- Block g is a writer. -/
structure Wr (w : World) (g : Nat) (A : Option Addr) (c b n : Nat) (s : WS) : Prop where
  blk : Has w g 109 (wrc s.lim A s.out.length c b)
  buf : Buf w A c s.out
  map : MapIs w b n s.marks
  cnt : n ≤ s.out.length
  room : s.out.length ≤ s.lim
  top : s.lim ≤ 65536
  byte : ∀ v ∈ s.out, 0 ≤ v ∧ v ≤ 255
  open_ : ∀ m ∈ s.marks, 0 ≤ m ∧ m + 2 ≤ (s.out.length : Int)

section
variable {w w' : World} {g : Nat} {A : Option Addr} {c b n : Nat} {s : WS}
theorem Wr.ne_ (H : Wr w g A c b n s) : g ≠ b ∧ g ∉ blkOf A ∧ b ∉ blkOf A := by
  refine ⟨H.map.unlike H.blk, ?_, ?_⟩
  · rcases H.buf with ⟨rfl, _⟩ | ⟨h, rfl, cur, hh, _⟩
    · simp [blkOf]
    · have := H.blk.unlike hh (by decide)
      simpa [blkOf] using this
  · rcases H.buf with ⟨rfl, _⟩ | ⟨h, rfl, cur, hh, _⟩
    · simp [blkOf]
    · have := (H.map.unlike hh).symm
      simpa [blkOf] using this
theorem Wr.turn (H : Wr w g A c b n s) {l : List Nat} (ht : Turn l w w') (hn : ∀ k ∈ g :: b :: blkOf A, k ∉ l) : Wr w' g A c b n s :=
  ⟨H.blk.turn ht (hn g (by simp)), H.buf.turn ht (fun k hk => hn k (by simp [hk])), H.map.kept (ht.block b H.map.lt (hn b (by simp))), H.cnt, H.room, H.top, H.byte, H.open_⟩
theorem Wr.below (H : Wr w g A c b n s) (hb : Below w.heap.size w w') : Wr w' g A c b n s := H.turn (turn_below hb []) (by simp)
theorem Wr.lt (H : Wr w g A c b n s) : ∀ k ∈ g :: b :: blkOf A, k < w.heap.size := by
  intro k hk
  simp only [List.mem_cons] at hk
  rcases hk with rfl | rfl | hk
  · exact H.blk.lt
  · exact H.map.lt
  · exact H.buf.lt k hk
theorem Wr.c0 (H : Wr w g A c b n s) : w.cell? ⟨g, 0, none⟩ = some (.int .i64 (s.lim : Int)) := H.blk.cell 0
theorem Wr.c1 (H : Wr w g A c b n s) : w.cell? ⟨g, 1, none⟩ = some (.slice A s.out.length c) := H.blk.cell 1
theorem Wr.c2 (H : Wr w g A c b n s) : w.cell? ⟨g, 2, none⟩ = some (.map (some b)) := H.blk.cell 2
end

theorem neq_nil_map (w : World) (r : Option Nat) : (binOp .neq 107 (.map r) (.map none)).run Try.prog w = .ok (.bool (!r.isNone)) w :=
  run_neq_map_nil w 107 3 103 r Try.underlying107

theorem wvalid_yes (g : Nat) (A : Option Addr) (c b n : Nat) (s : WS) (w : World) (H : Wr w g A c b n s) :
    Calls Try.prog 73 #[.pointer (some ⟨g, 0, none⟩)] w fun e w' => e = .returned (.bool true) ∧ w = w' := by
  have c2 := H.c2
  have hn := fun w => neq_nil_map w (some b)
  clear H
  go_enter Try.func73, Try.ntmps73
  go_wp2
  go_ret
  exact ⟨rfl, rfl⟩

theorem wvalid_no (w : World) :
    Calls Try.prog 73 #[.pointer none] w fun e w' => e = .returned (.bool false) ∧ w = w' := by
  go_enter Try.func73, Try.ntmps73
  go_wp2
  go_ret
  exact ⟨rfl, rfl⟩

/-- A copy: nil, or an array of its own from base on. -/
def Copied (w : World) (base : Nat) (v : Value) (xs : List Int) : Prop :=
  (v = .slice none 0 0 ∧ xs = []) ∨ ∃ h' c', v = .slice (some ⟨h', 0, none⟩) xs.length c' ∧ Row w h' c' xs ∧ base ≤ h'

theorem wout (g : Nat) (A : Option Addr) (c b n : Nat) (s : WS) (w : World) (H : Wr w g A c b n s) :
    Calls Try.prog 55 #[.pointer (some ⟨g, 0, none⟩)] w fun e w' => (∃ v, e = .returned v ∧ Copied w' w.heap.size v s.out) ∧ Below w.heap.size w w' := by
  have c1 := H.c1
  have HH := Lib.hid H
  clear H
  rcases HH.out.buf with ⟨rfl, rfl, h0⟩ | ⟨h, rfl, hr⟩
  · rw [h0] at c1 ⊢
    simp only [List.length_nil] at c1
    clear h0
    go_enter Try.func55, Try.ntmps55
    go_wp2_with (first
      | (go_at_call 73; refine (wvalid_yes _ _ _ _ _ _ _ HH.out).mono ?_; rintro e w' ⟨rfl, rfl⟩)
      | (go_at_call 69; refine (rclone_nil _).mono ?_; rintro e w' ⟨rfl, rfl⟩))
    go_ret
    exact ⟨⟨_, rfl, .inl ⟨rfl, rfl⟩⟩, Below.refl _ _⟩
  · have hm : s.out.length ≤ 1000000 := by have := HH.out.room; have := HH.out.top; omega
    have HR := Lib.hid hr.all
    clear hr
    go_enter Try.func55, Try.ntmps55
    go_wp2_with (first
      | (go_at_call 73; refine (wvalid_yes _ _ _ _ _ _ _ HH.out).mono ?_; rintro e w' ⟨rfl, rfl⟩)
      | (go_at_call 69; refine (rclone _ _ _ _ _ rfl hm _ HR.out).mono ?_; rintro e w2 ⟨⟨h', c', rfl, hrow, hh⟩, hb2⟩; have HRow := Lib.hid hrow; clear hrow))
    go_ret
    exact ⟨⟨_, rfl, .inr ⟨h', c', rfl, HRow.out, hh⟩⟩, hb2⟩

theorem wout_nil (w : World) :
    Calls Try.prog 55 #[.pointer none] w fun e w' => e = .returned (.slice none 0 0) ∧ w = w' := by
  go_enter Try.func55, Try.ntmps55
  go_wp2_with (go_at_call 73; refine (wvalid_no _).mono ?_; rintro e w' ⟨rfl, rfl⟩)
  go_ret
  exact ⟨rfl, rfl⟩

theorem wnew_no (lim : Int) (h : lim < 0 ∨ 65536 < lim) (w : World) :
    Calls Try.prog 51 #[.int .i64 lim] w fun e w' => e = .returned (.tuple #[.pointer none, .int .i64 2]) ∧ w = w' := by
  rcases h with h | h
  · go_enter Try.func51, Try.ntmps51
    go_wp2
    go_ret2
    exact ⟨rfl, rfl⟩
  · have h0 : 0 ≤ lim := by omega
    go_enter Try.func51, Try.ntmps51
    go_wp2
    go_ret2
    exact ⟨rfl, rfl⟩

theorem wnew (lim : Nat) (h : lim ≤ 65536) (w : World) :
    Calls Try.prog 51 #[.int .i64 lim] w fun e w' => ∃ g b, e = .returned (.tuple #[.pointer (some ⟨g, 0, none⟩), .int .i64 0]) ∧ w.heap.size ≤ g ∧ w.heap.size ≤ b ∧ Wr w' g none 0 b 0 ⟨lim, [], []⟩ ∧ Below w.heap.size w w' := by
  have hmm := @run_makeMap Try.prog
  go_enter Try.func51, Try.ntmps51
  go_wp2
  go_ret2
  have hb1 : Below w.heap.size w (w.alloc (.map #[] 0)) := (Below.refl _ w).alloc (Nat.le_refl _) _
  have hb2 : Below w.heap.size w ((w.alloc (.map #[] 0)).alloc (.cells (wrc lim none 0 0 w.heap.size) 109)) := hb1.alloc (by simp) _
  have hm0 : MapIs (w.alloc (.map #[] 0)) w.heap.size 0 [] := ⟨.map [], World.ownsMap_made w _ _ _, fun m _ => by simp [Maps.has]⟩
  have hm1 : MapIs ((w.alloc (.map #[] 0)).alloc (.cells (wrc lim none 0 0 w.heap.size) 109)) w.heap.size 0 [] := hm0.kept (Below.heap_alloc _ _ _ (by simp))
  have hnew := Has.new (w.alloc (.map #[] 0)) 109 (wrc lim none 0 0 w.heap.size)
  exact ⟨w.heap.size + 1, w.heap.size, rfl, by omega, Nat.le_refl _, ⟨by simpa using hnew, .inl ⟨rfl, rfl, rfl⟩, hm1, Nat.le_refl _, Nat.zero_le _, h, by simp, by simp⟩, hb2⟩

end Go.Proofs.Ytgdfpmnbofnjfaa
