/- Packets: the checksum; its iterator over 16-bit numbers. -/
import Derived.RangeFuncBox
import Derived.RangeFuncNested
import Derived.RangeFuncBound
import Derived.RangeFuncCalls
import Derived.RangeFuncLeaves
import Derived.Shelf.Abstract
import Derived.WalkKit
import Derived.OwnWalkIn
import Derived.TacticsInMore
import Derived.LoopNIn
import Derived.LoopIn
import Derived.Test.YtgdfpmnbofnjfaaOpn
namespace Go.Proofs.Ytgdfpmnbofnjfaa
open Go.RowKit Go.Shelf
set_option linter.unusedVariables false
set_option linter.unusedSimpArgs false

attribute [local go_sem] Oper.semAt_some

/-- The 16-bit numbers of some bytes. -/
def nums : List Int → List Int
  | [] => []
  | [a] => [a * 256]
  | a :: b :: r => (a * 256 + b) :: nums r
theorem nums_len : ∀ bs : List Int, (nums bs).length ≤ bs.length
  | [] => Nat.le_refl _
  | [a] => Nat.le_refl _
  | a :: b :: r => by
    have := nums_len r
    simp only [nums, List.length_cons]
    omega
theorem nums_step {bs : List Int} {k : Nat} (hk : k + 1 < bs.length) : nums (bs.drop k) = (bs[k] * 256 + bs[k + 1]) :: nums (bs.drop (k + 2)) := by
  rw [List.drop_eq_getElem_cons (by omega : k < bs.length), List.drop_eq_getElem_cons (by omega : k + 1 < bs.length)]
  rfl
theorem nums_last {bs : List Int} {k : Nat} (hk : k + 1 = bs.length) : nums (bs.drop k) = (bs[k] * 256) :: nums (bs.drop (k + 2)) := by
  rw [List.drop_eq_getElem_cons (by omega : k < bs.length), List.drop_eq_nil_of_le (by omega), List.drop_eq_nil_of_le (by omega)]
  rfl

/-- A 16-bit number. -/
abbrev N16 : Type := { n : Int // 0 ≤ n ∧ n ≤ 65535 }
def n16E : N16 → Array Value := fun x => #[.int .u16 x.1]
/-- One more number of the sum. -/
def stp (s n : Int) : Int := (s + n) % 65536 + (s + n) / 65536
def sacc (l : List Int) : Int := l.foldl stp 0
theorem stp_le {s n : Int} (h0 : 0 ≤ s) (h1 : s ≤ 65535) (h2 : 0 ≤ n) (h3 : n ≤ 65535) : 0 ≤ stp s n ∧ stp s n ≤ 65535 := by unfold stp; omega
theorem sacc_snoc (l : List Int) (n : Int) : sacc (l ++ [n]) = stp (sacc l) n := by simp [sacc]
theorem sacc_le (l : List N16) : 0 ≤ sacc (l.map (·.1)) ∧ sacc (l.map (·.1)) ≤ 65535 := by
  have key : ∀ (l : List N16) (s : Int), 0 ≤ s ∧ s ≤ 65535 → 0 ≤ (l.map (·.1)).foldl stp s ∧ (l.map (·.1)).foldl stp s ≤ 65535 := by
    intro l
    induction l with
    | nil => exact fun s h => h
    | cons x l ih => exact fun s h => ih _ (stp_le h.1 h.2 x.2.1 x.2.2)
  exact key l 0 (by omega)
/-- The checksum. -/
def sumP (bs : List Int) : Int := 65535 - sacc (nums bs)

theorem or_byte16 (n b : Int) (h0 : 0 ≤ n) (h1 : n ≤ 255) (b0 : 0 ≤ b) (b1 : b ≤ 255) : bits BinOp.or .u16 (n * 256) b = n * 256 + b := by
  obtain ⟨m, rfl⟩ := Int.eq_ofNat_of_zero_le h0
  obtain ⟨c, rfl⟩ := Int.eq_ofNat_of_zero_le b0
  have e1 : BitVec.ofInt 16 ((m : Int) * 256) = BitVec.ofNat 16 (m * 256) := by apply BitVec.eq_of_toNat_eq; simp; omega
  have e2 : BitVec.ofInt 16 (c : Int) = BitVec.ofNat 16 c := by apply BitVec.eq_of_toNat_eq; simp
  have e3 : (BitVec.ofNat 16 (m * 256) ||| BitVec.ofNat 16 c).toNat = m * 256 + c := by
    rw [BitVec.toNat_or, BitVec.toNat_ofNat, BitVec.toNat_ofNat, Nat.mod_eq_of_lt (by omega), Nat.mod_eq_of_lt (by omega)]
    have := Nat.shiftLeft_add_eq_or_of_lt (i := 8) (b := c) (by omega) m
    rw [Nat.shiftLeft_eq] at this
    exact this.symm
  show IntKind.u16.wrap ((BitVec.ofInt 16 ((m : Int) * 256) ||| BitVec.ofInt 16 (c : Int)).toNat : Int) = _
  rw [e1, e2, e3]
  have e4 : IntKind.u16.wrap ((m * 256 + c : Nat) : Int) = ((m * 256 + c : Nat) : Int) % 65536 := by rfl
  rw [e4]
  omega
theorem and_low (s : Int) (h0 : 0 ≤ s) (h1 : s < 4294967296) : bits BinOp.and .u32 s 65535 = s % 65536 := by
  obtain ⟨m, rfl⟩ := Int.eq_ofNat_of_zero_le h0
  have e1 : BitVec.ofInt 32 (m : Int) = BitVec.ofNat 32 m := by apply BitVec.eq_of_toNat_eq; simp
  have e2 : BitVec.ofInt 32 65535 = BitVec.ofNat 32 65535 := by rfl
  have e3 : (BitVec.ofNat 32 m &&& BitVec.ofNat 32 65535).toNat = m % 65536 := by
    rw [BitVec.toNat_and, BitVec.toNat_ofNat, BitVec.toNat_ofNat, Nat.mod_eq_of_lt (by omega), Nat.mod_eq_of_lt (by omega)]
    exact Nat.and_two_pow_sub_one_eq_mod m 16
  show IntKind.u32.wrap ((BitVec.ofInt 32 (m : Int) &&& BitVec.ofInt 32 65535).toNat : Int) = _
  rw [e1, e2, e3]
  have e4 : IntKind.u32.wrap ((m % 65536 : Nat) : Int) = ((m % 65536 : Nat) : Int) % 4294967296 := by rfl
  rw [e4]
  omega

theorem numbers_in (F : Fence) (n : Nat) (hf : F.fn 89) (hro : F.round = none) (v : Value) (A : Option Addr) (len cap : Nat) (hv : v = .slice A len cap) (w : World) :
    CallsIn F n Try.prog 89 #[v] w fun en w' => en = .returned (.func (.func 93) #[] #[.pointer (some ⟨w.heap.size, 0, none⟩)]) ∧ w' = w.alloc (.cells #[v] 40) := by
  subst hv
  refine callsIn_of_wp Try.func89 rfl hf ?_ hro
  simp only [Try.ntmps89, List.size_toArray, List.length_cons, List.length_nil, Nat.reduceAdd, Nat.reduceSub, Array.replicate_succ, Array.replicate_zero, List.push_toArray, List.append_toArray, List.nil_append, List.cons_append]
  gi_wp2
  go_ret
  exact ⟨rfl, rfl⟩

/-- What a round keeps: what lay below, and the iterator's own box. -/
def Keep2 (n₀ Bs : Nat) (W W' : World) : Prop := Below n₀ W W' ∧ W'.heap[Bs]? = W.heap[Bs]?
theorem Keep2.refl (n₀ Bs : Nat) (W : World) : Keep2 n₀ Bs W W := ⟨Below.refl _ _, rfl⟩
theorem Keep2.trans {n₀ Bs : Nat} {A B C : World} (h : Keep2 n₀ Bs A B) (k : Keep2 n₀ Bs B C) : Keep2 n₀ Bs A C := ⟨h.1.trans k.1, k.2.trans h.2⟩

set_option maxRecDepth 100000 in
set_option maxHeartbeats 2000000 in
theorem numbers1_in (F : Fence) (n : Nat) (hf : F.fn 93) (hro : F.round = none) (hn : 1 ≤ n) (l Bs n₀ : Nat) (b o cap : Nat) (bs : List Int) (hm : bs.length ≤ 1000000) (hb : b < n₀) (hby : ∀ v ∈ bs, 0 ≤ v ∧ v ≤ 255) (J Jx : List N16 → World → Prop)
    (hY : ∀ pre x W, J pre W → pre.length < bs.length → YieldAt F (n - 1) Try.prog l (n16E x) W fun e W' =>
      (e = .returned (.bool true) ∧ J (pre ++ [x]) W' ∧ Keep2 n₀ Bs W W') ∨ (e = .returned (.bool false) ∧ Jx (pre ++ [x]) W'))
    (W : World) (hc0 : W.cell? ⟨Bs, 0, none⟩ = some (.slice (some ⟨b, o, none⟩) bs.length cap)) (hsl : Sl W b o bs) (h0 : J [] W) :
    CallsIn F n Try.prog 93 #[.func (.yield l) #[] #[], .pointer (some ⟨Bs, 0, none⟩)] W fun en W' => (∃ v, en = .returned v) ∧
      ((∃ ys : List N16, ys.map (·.1) = nums bs ∧ J ys W') ∨ (∃ pre : List N16, (pre.map (·.1) <+: nums bs) ∧ Jx pre W')) := by
  refine callsIn_of_wp Try.func93 rfl hf ?_ hro
  simp only [Try.ntmps93, List.size_toArray, List.length_cons, List.length_nil, Nat.reduceAdd, Nat.reduceSub, Array.replicate_succ, Array.replicate_zero, List.push_toArray, List.append_toArray, List.nil_append, List.cons_append]
  have hpl := nums_len bs
  have HSl := Lib.hid hsl
  clear hsl
  gi_wp2
  gi_loopw [3] (fun iv wr => ∃ (k : Nat) (pre : List N16), k ≤ bs.length + 1 ∧ iv = .int .i64 k ∧ pre.map (·.1) ++ nums (bs.drop k) = nums bs ∧ J pre wr ∧ Keep2 n₀ Bs W wr)
    (fun iv _ => bs.length + 1 - (intOf iv).toNat)
  case atStart => exact ⟨0, [], Nat.zero_le _, rfl, rfl, h0, Keep2.refl _ _ _⟩
  case round =>
    obtain ⟨k, pre, hk, rfl, hpre, hJs, hnx⟩ := hrel
    have c0 : wr.cell? ⟨Bs, 0, none⟩ = some (.slice (some ⟨b, o, none⟩) bs.length cap) := (World.cell?_of_block (a := ⟨Bs, 0, none⟩) hnx.2).trans hc0
    by_cases hlt : k < bs.length
    · have hbd := hby bs[k] (List.getElem_mem _)
      have hcell := (hnx.1.cell (p := ⟨b, o + k, none⟩) hb).trans (HSl.out k hlt)
      by_cases h2 : k + 1 < bs.length
      · have hst := nums_step h2
        have hplen : pre.length < bs.length := by
          have h1 := congrArg List.length hpre
          rw [hst] at h1
          simp at h1
          omega
        have hbd2 := hby bs[k + 1] (List.getElem_mem _)
        have hcell2 := (hnx.1.cell (p := ⟨b, o + (k + 1), none⟩) hb).trans (HSl.out (k + 1) h2)
        obtain ⟨x, hx9⟩ : ∃ x, bs[k] = x := ⟨_, rfl⟩
        obtain ⟨y, hy9⟩ : ∃ y, bs[k + 1] = y := ⟨_, rfl⟩
        rw [hx9] at hbd hcell
        rw [hy9] at hbd2 hcell2
        rw [hx9, hy9] at hst
        obtain ⟨hx0, hx1⟩ := hbd
        obtain ⟨hy0, hy1⟩ := hbd2
        obtain ⟨fn, tmps, assign, body, hy, hR⟩ := hY _ ⟨x * 256 + y, by omega⟩ wr hJs hplen
        dsimp only [n16E] at hy
        have hor := or_byte16 x y hx0 hx1 hy0 hy1
        have hnext : (pre ++ [(⟨x * 256 + y, by omega⟩ : N16)]).map (·.1) ++ nums (bs.drop (k + 2)) = nums bs := by
          rw [← hpre, hst]
          simp
        have HNext := Lib.hid hnext
        have e1 : (k : Int) < (bs.length : Int) := by omega
        have e2 : (k : Int) + 1 < (bs.length : Int) := by omega
        clear hnext hpre hst hx9 hy9
        gi_wp2
        refine hR.mono ?_
        rintro e W3 (⟨rfl, hJ3, hk3⟩ | ⟨rfl, hJx3⟩)
        · gi_wp2
          go_roundw
          case rel => exact ⟨k + 2, pre ++ [⟨x * 256 + y, by omega⟩], by omega, by first | rfl | (congr 1; omega) | (simp; done), HNext.out, hJ3, hnx.trans hk3⟩
          case measure => simp [intOf]; omega
        · gi_wp2
          refine bodyPost_ret (results_none rfl _ _ _) rfl ?_
          exact ⟨⟨_, rfl⟩, .inr ⟨pre ++ [⟨x * 256 + y, by omega⟩], ⟨_, HNext.out⟩, hJx3⟩⟩
      · have hk1 : k + 1 = bs.length := by omega
        have hst := nums_last hk1
        have hplen : pre.length < bs.length := by
          have h1 := congrArg List.length hpre
          rw [hst] at h1
          simp at h1
          omega
        obtain ⟨x, hx9⟩ : ∃ x, bs[k] = x := ⟨_, rfl⟩
        rw [hx9] at hbd hcell hst
        obtain ⟨hx0, hx1⟩ := hbd
        obtain ⟨fn, tmps, assign, body, hy, hR⟩ := hY _ ⟨x * 256, by omega⟩ wr hJs hplen
        dsimp only [n16E] at hy
        have hnext : (pre ++ [(⟨x * 256, by omega⟩ : N16)]).map (·.1) ++ nums (bs.drop (k + 2)) = nums bs := by
          rw [← hpre, hst]
          simp
        have HNext := Lib.hid hnext
        clear hnext hpre hst hx9
        gi_wp2
        refine hR.mono ?_
        rintro e W3 (⟨rfl, hJ3, hk3⟩ | ⟨rfl, hJx3⟩)
        · gi_wp2
          go_roundw
          case rel => exact ⟨k + 2, pre ++ [⟨x * 256, by omega⟩], by omega, by first | rfl | (congr 1; omega) | (simp; done), HNext.out, hJ3, hnx.trans hk3⟩
          case measure => simp [intOf]; omega
        · gi_wp2
          refine bodyPost_ret (results_none rfl _ _ _) rfl ?_
          exact ⟨⟨_, rfl⟩, .inr ⟨pre ++ [⟨x * 256, by omega⟩], ⟨_, HNext.out⟩, hJx3⟩⟩
    · have hp0 : pre.map (·.1) = nums bs := by rw [← hpre, List.drop_eq_nil_of_le (by omega), show nums [] = [] from rfl, List.append_nil]
      gi_wp2
      go_end0
      exact ⟨⟨_, rfl⟩, .inl ⟨_, hp0, hJs⟩⟩

set_option maxRecDepth 100000 in
/-- No bytes: no round. -/
theorem numbers1_none (F : Fence) (n : Nat) (hf : F.fn 93) (hro : F.round = none) (l Bs : Nat) (A : Option Addr) (cap : Nat) (J : List N16 → World → Prop) (W : World) (hc0 : W.cell? ⟨Bs, 0, none⟩ = some (.slice A 0 cap)) (h0 : J [] W) :
    CallsIn F n Try.prog 93 #[.func (.yield l) #[] #[], .pointer (some ⟨Bs, 0, none⟩)] W fun en W' => (∃ v, en = .returned v) ∧ J [] W' := by
  refine callsIn_of_wp Try.func93 rfl hf ?_ hro
  simp only [Try.ntmps93, List.size_toArray, List.length_cons, List.length_nil, Nat.reduceAdd, Nat.reduceSub, Array.replicate_succ, Array.replicate_zero, List.push_toArray, List.append_toArray, List.nil_append, List.cons_append]
  gi_wp2
  gi_loopw [3] (fun iv wr => iv = .int .i64 0 ∧ J [] wr ∧ wr.cell? ⟨Bs, 0, none⟩ = some (.slice A 0 cap)) (fun _ _ => 0)
  case atStart => exact ⟨rfl, h0, hc0⟩
  case round =>
    obtain ⟨rfl, hJs, hc⟩ := hrel
    gi_wp2
    go_end0
    exact ⟨⟨_, rfl⟩, hJs⟩

/-- The iterator over the numbers of some bytes. -/
theorem numbers_stops (F : Fence) (n : Nat) (hf : F.fn 93) (hro : F.round = none) (hn : 1 ≤ n) (Bs n₀ : Nat) (b o cap : Nat) (bs : List Int) (hm : bs.length ≤ 1000000) (hb : b < n₀) (hby : ∀ v ∈ bs, 0 ≤ v ∧ v ≤ 255) (w : World) (hn0 : n₀ ≤ w.heap.size) (hBs : Bs < w.heap.size)
    (hc0 : w.cell? ⟨Bs, 0, none⟩ = some (.slice (some ⟨b, o, none⟩) bs.length cap)) (hsl : Sl w b o bs) :
    SeqStopsK F n Try.prog 93 #[.pointer (some ⟨Bs, 0, none⟩)] n16E (Keep2 n₀ Bs) (fun ys => ys.map (·.1) = nums bs) (fun pre => pre.map (·.1) <+: nums bs) bs.length w := fun l J Jx W hW _ _ hY h0 =>
  numbers1_in F n hf hro hn l Bs n₀ b o cap bs hm hb hby J Jx hY W ((hW.cell (p := ⟨Bs, 0, none⟩) (by show Bs < _; omega)).trans hc0) (fun j hj => (hW.cell (p := ⟨b, o + j, none⟩) (by show b < _; omega)).trans (hsl j hj)) h0
theorem numbers_stops_none (F : Fence) (n : Nat) (hf : F.fn 93) (hro : F.round = none) (Bs n₀ : Nat) (A : Option Addr) (cap : Nat) (w : World) (hBs : Bs < w.heap.size) (hc0 : w.cell? ⟨Bs, 0, none⟩ = some (.slice A 0 cap)) :
    SeqStopsK F n Try.prog 93 #[.pointer (some ⟨Bs, 0, none⟩)] n16E (Keep2 n₀ Bs) (fun ys => ys.map (·.1) = nums []) (fun pre => pre.map (·.1) <+: nums []) 0 w := fun l J Jx W hW _ _ hY h0 =>
  (numbers1_none F n hf hro l Bs A cap J W ((hW.cell (p := ⟨Bs, 0, none⟩) hBs).trans hc0) h0).mono fun e W' ⟨he, hj⟩ => ⟨he, .inl ⟨[], rfl, hj⟩⟩

end Go.Proofs.Ytgdfpmnbofnjfaa
