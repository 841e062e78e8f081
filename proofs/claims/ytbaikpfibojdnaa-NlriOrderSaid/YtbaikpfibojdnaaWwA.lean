/- WireWrites: the document's own writer: its memory, and how it grows. -/
import Derived.Test.YtbaikpfibojdnaaBkA
import Derived.Test.YtbaikpfibojdnaaAct
import Derived.Deep.AppendLies
import Derived.Deep.RegionLawGrows
import Derived.Deep.RegionHeld3
namespace Go.Proofs.Ytbaikpfibojdnaa
open Go.RowKit
set_option linter.unusedVariables false
set_option maxRecDepth 100000

section
variable {w w' : World} {l : List Nat} {base size n : Nat} {e : TypeId} {v : Value} {xs : List Value}
theorem ow_block (h : w.ownsRow base e size v n xs) : ∀ g, v.ownBlock = some g → base ≤ g ∧ g < w.heap.size ∧ ∃ cur, Has w g e cur := by
  intro g hg
  rcases h.2 with ⟨rfl, _⟩ | ⟨g', cap, cur, rfl, hb, hh, _⟩
  · cases hg
  · injection hg with hg
    subst hg
    have hh' : Has w g' e cur := hh
    exact ⟨hb, hh'.lt, cur, hh'⟩
theorem ow_turn (h : w.ownsRow base e size v n xs) (ht : Turn l w w') (hn : ∀ g, v.ownBlock = some g → g ∉ l) : w'.ownsRow base e size v n xs := by
  refine ⟨h.1, ?_⟩
  rcases h.2 with h0 | ⟨g, cap, cur, hv, hb, hg, r⟩
  · exact .inl h0
  · subst hv
    have hh : Has w g e cur := hg
    exact .inr ⟨g, cap, cur, rfl, hb, (ht.block g hh.lt (hn g rfl)).trans hg, r⟩
theorem ow_below (h : w.ownsRow base e size v n xs) (hb : Below w.heap.size w w') : w'.ownsRow base e size v n xs := ow_turn h (turn_below hb []) (by simp)
theorem ow_ne {base' size' n' : Nat} {e' : TypeId} {v' : Value} {xs' : List Value} (h : w.ownsRow base e size v n xs) (h' : w.ownsRow base' e' size' v' n' xs') (hne : e ≠ e') : ∀ k, v.ownBlock = some k → v'.ownBlock ≠ some k := by
  intro k hk hm
  obtain ⟨_, _, cur, hh⟩ := ow_block h k hk
  obtain ⟨_, _, cur', hh'⟩ := ow_block h' k hm
  exact hh.unlike hh' hne rfl
theorem ow_has {g : Nat} {t : TypeId} {cs : Array Value} (h : w.ownsRow base e size v n xs) (h' : Has w g t cs) (hne : e ≠ t) : v.ownBlock ≠ some g := by
  intro hk
  obtain ⟨_, _, cur, hh⟩ := ow_block h g hk
  exact hh.unlike h' hne rfl
theorem ow_form (h : w.ownsRow base e 1 v n xs) : ∃ A c, v = .slice A n c ∧ n ≤ c ∧ c ≤ maxLen ∧ (A = none → n = 0) ∧ (∀ a, A = some a → ∃ g, a = ⟨g, 0, none⟩) := by
  rcases h.2 with ⟨h0, h1⟩ | ⟨g, cap, cur, hv, hb, hh, hn, hc, _⟩
  · subst h1
    exact ⟨none, 0, h0, Nat.le_refl _, by unfold maxLen; omega, fun _ => rfl, by simp⟩
  · exact ⟨_, cap, hv, hn, hc, by simp, fun a ha => ⟨g, by injection ha with ha; exact ha.symm⟩⟩
end

/-- Block o is the document's writer: its bytes, its limit, its open marks in ascending order. -/
structure Rw (w : World) (o : Nat) (v m : Value) (s : WS) : Prop where
  blk : Has w o 49 #[v, .int .i64 s.lim, m]
  out : w.ownsRow 0 5 1 v s.out.length (u8s s.out)
  mks : w.ownsRow 0 3 1 m s.marks.length (s.marks.map (Value.int .i64))
  room : s.out.length ≤ s.lim
  top : s.lim ≤ 65536
  byte : ∀ x ∈ s.out, 0 ≤ x ∧ x ≤ 255
  open_ : ∀ m ∈ s.marks, 0 ≤ m ∧ m + 2 ≤ (s.out.length : Int)
  asc : s.marks.Pairwise (· < ·)

/-- The blocks of a writer. -/
def rwl (o : Nat) (v m : Value) : List Nat := o :: (v.ownBlock.toList ++ m.ownBlock.toList)

def RwL (w : World) (l : List Nat) (o : Nat) (s : WS) : Prop := ∃ v m, l = rwl o v m ∧ Rw w o v m s

section
variable {w w' : World} {o : Nat} {v m : Value} {s : WS} {l l2 : List Nat}
theorem Rw.turn (H : Rw w o v m s) (ht : Turn l w w') (hn : ∀ k ∈ rwl o v m, k ∉ l) : Rw w' o v m s :=
  ⟨H.blk.turn ht (hn o (by simp [rwl])), ow_turn H.out ht (fun g hg => hn g (by simp [rwl, hg])), ow_turn H.mks ht (fun g hg => hn g (by simp [rwl, hg])), H.room, H.top, H.byte, H.open_, H.asc⟩
theorem Rw.below (H : Rw w o v m s) (hb : Below w.heap.size w w') : Rw w' o v m s := H.turn (turn_below hb []) (by simp)
theorem Rw.lt (H : Rw w o v m s) : ∀ k ∈ rwl o v m, k < w.heap.size := by
  intro k hk
  simp only [rwl, List.mem_cons, List.mem_append, Option.mem_toList] at hk
  rcases hk with rfl | hk | hk
  · exact H.blk.lt
  · exact (ow_block H.out k hk).2.1
  · exact (ow_block H.mks k hk).2.1
theorem RwL.turn (h : RwL w l o s) (ht : Turn l2 w w') (hn : ∀ k ∈ l, k ∉ l2) : RwL w' l o s := by
  obtain ⟨v, m, rfl, hw⟩ := h
  exact ⟨v, m, rfl, hw.turn ht hn⟩
theorem RwL.below (h : RwL w l o s) (hb : Below w.heap.size w w') : RwL w' l o s := h.turn (turn_below hb []) (by simp)
theorem RwL.lt (h : RwL w l o s) : ∀ k ∈ l, k < w.heap.size := by
  obtain ⟨v, m, rfl, hw⟩ := h
  exact hw.lt
theorem Rw.c0 (H : Rw w o v m s) : w.cell? ⟨o, 0, none⟩ = some v := H.blk.cell 0
theorem Rw.c1 (H : Rw w o v m s) : w.cell? ⟨o, 1, none⟩ = some (.int .i64 (s.lim : Int)) := H.blk.cell 1
theorem Rw.c2 (H : Rw w o v m s) : w.cell? ⟨o, 2, none⟩ = some m := H.blk.cell 2
end

theorem pnew_no (lim : Int) (h : lim < 0 ∨ 65536 < lim) (w : World) :
    Calls Try.prog 13 #[.int .i64 lim] w fun e w' => e = .returned (.tuple #[.pointer none, .int .i64 2]) ∧ w = w' := by
  rcases h with h | h
  · go_enter Try.func13, Try.ntmps13
    go_wp2
    go_ret2
    exact ⟨rfl, rfl⟩
  · have h0 : 0 ≤ lim := by omega
    go_enter Try.func13, Try.ntmps13
    go_wp2
    go_ret2
    exact ⟨rfl, rfl⟩

theorem pnew (lim : Nat) (h : lim ≤ 65536) (w : World) :
    Calls Try.prog 13 #[.int .i64 lim] w fun e w' => ∃ o l, e = .returned (.tuple #[.pointer (some ⟨o, 0, none⟩), .int .i64 0]) ∧ RwL w' l o ⟨lim, [], []⟩ ∧ (∀ k ∈ l, w.heap.size ≤ k) ∧ Below w.heap.size w w' := by
  go_enter Try.func13, Try.ntmps13
  go_wp2
  go_ret2
  refine ⟨w.heap.size, _, rfl, ⟨.slice none 0 0, .slice none 0 0, rfl, ?_⟩, ?_, (Below.refl _ w).alloc (Nat.le_refl _) _⟩
  · exact ⟨Has.new _ _ _, World.ownsRow_nil _ _ _ _, World.ownsRow_nil _ _ _ _, Nat.zero_le _, h, by simp, by simp, by simp⟩
  · simp [rwl, Value.ownBlock]

/-- One more byte. -/
theorem Rw.more {w w1 : World} {o : Nat} {v m v' : Value} {s : WS} {xs : List Int} (H : Rw w o v m s) (hl : s.out.length + xs.length ≤ s.lim) (hx : ∀ x ∈ xs, 0 ≤ x ∧ x ≤ 255)
    (hg : w.grownBy w1 v.ownBlock) (ho : w1.ownsRow 0 5 1 v' (s.out.length + xs.length) (u8s s.out ++ u8s xs)) :
    Rw (w1.setCell ⟨o, 0, none⟩ v') o v' m { s with out := s.out ++ xs } ∧ Turn (rwl o v m) w (w1.setCell ⟨o, 0, none⟩ v') := by
  have h1 : v.ownBlock ≠ some o := ow_has H.out H.blk (by decide)
  have hb1 : Has w1 o 49 #[v, .int .i64 s.lim, m] := H.blk.grown hg (by intro h; exact h1 h.symm)
  have hm1 : w1.ownsRow 0 3 1 m s.marks.length (s.marks.map (Value.int .i64)) := ow_turn H.mks (turn_grown hg) (fun g hgm => by
    simp only [Option.mem_toList]
    exact ow_ne H.mks H.out (by decide) g hgm)
  have hb2 := hb1.set_ 0 v'
  have t1 : Turn [o] w1 (w1.setCell ⟨o, 0, none⟩ v') := turn_only (only_set (only_refl w1 o) (.inl rfl) v')
  have h2 : v'.ownBlock ≠ some o := ow_has ho hb1 (by decide)
  have h3 : m.ownBlock ≠ some o := ow_has hm1 hb1 (by decide)
  refine ⟨⟨by simpa using hb2, ?_, ?_, by simpa using hl, H.top, ?_, ?_, H.asc⟩, ?_⟩
  · have h4 := ow_turn ho t1 (fun g hg' => by simp; rintro rfl; exact h2 hg')
    simpa using h4
  · exact ow_turn hm1 t1 (fun g hg' => by simp; rintro rfl; exact h3 hg')
  · intro x hx'
    rcases List.mem_append.1 hx' with h | h
    · exact H.byte x h
    · exact hx x h
  · intro k hk
    have := H.open_ k hk
    simp
    omega
  · exact ((turn_grown hg).mono (fun k hk => .inl (by simp only [rwl, List.mem_cons, List.mem_append]; exact .inr (.inl hk)))).set_ (.inl (by simp [rwl])) _

theorem rwl_more {w w1 : World} {o : Nat} {v m v' : Value} (h : v.ownBlock = v'.ownBlock ∨ ∃ g, v'.ownBlock = some g ∧ w.heap.size ≤ g) : ∀ k ∈ rwl o v' m, k ∈ rwl o v m ∨ w.heap.size ≤ k := by
  intro k hk
  simp only [rwl, List.mem_cons, List.mem_append, Option.mem_toList] at hk ⊢
  rcases hk with hk | hk | hk
  · exact .inl (.inl hk)
  · rcases h with h | ⟨g, h, hg⟩
    · exact .inl (.inr (.inl (h.trans hk)))
    · rw [h] at hk
      injection hk with hk
      exact .inr (hk ▸ hg)
  · exact .inl (.inr (.inr hk))

theorem be_take_succ (v : Int) (n k : Nat) (hk : k < n) : (be v n).take (k + 1) = (be v n).take k ++ [v / 256 ^ (n - 1 - k) % 256] := by
  rw [List.take_succ_eq_append_getElem (by rw [be_length]; exact hk)]
  congr 1
  congr 1
  induction n generalizing k with
  | zero => omega
  | succ n ih =>
    cases k with
    | zero => simp [be]
    | succ k =>
      simp only [be, List.getElem_cons_succ]
      rw [ih k (by omega)]
      congr 3
      omega

end Go.Proofs.Ytbaikpfibojdnaa
