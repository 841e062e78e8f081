/- The contract of colons. -/
import Derived.Test.YtlmgbnpimmjijaaDoorIPText
import Derived.Test.YtlmgbnpimmjijaaDoorOct
import Derived.RangeFuncBox
import Derived.RangeFuncNested
import Derived.RangeFuncBound
import Derived.RangeFuncCalls
import Derived.RangeFuncLeaves
import Derived.Shelf.Abstract
import Derived.WalkKit
import Derived.OwnWalkIn
import Derived.TacticsInMore
import Derived.LoopNIn
import Derived.LoopIn
namespace Go.Proofs.YtlmgbnpimmjijaaDoor
open Go.RowKit Go.Shelf

attribute [local go_sem] Oper.semAt_some

/-- What a round is handed, of N bytes. -/
def octN (N : Nat) (zs : List Int) : Fin N → Array Value := fun k => #[.int .i64 (k.val : Int), .int .u8 (byteAt zs k.val)]

/-- A hexadecimal digit. -/
def hexd (n : Int) : UInt8 := if n < 10 then UInt8.ofNat (48 + n.toNat) else UInt8.ofNat (87 + n.toNat)
/-- The text of the bytes at some positions. -/
def coP {N : Nat} (zs : List Int) (ks : List (Fin N)) : List UInt8 := ks.flatMap fun k => (if k.val = 0 then [] else [58]) ++ [hexd (byteAt zs k.val / 16), hexd (byteAt zs k.val % 16)]
theorem coP_snoc {N : Nat} (zs : List Int) (ks : List (Fin N)) (k : Fin N) : coP zs (ks ++ [k]) = coP zs ks ++ ((if k.val = 0 then [] else [58]) ++ [hexd (byteAt zs k.val / 16), hexd (byteAt zs k.val % 16)]) := by simp [coP]
theorem coP_length {N : Nat} (zs : List Int) (ks : List (Fin N)) : (coP zs ks).length ≤ 3 * ks.length := by
  induction ks with
  | nil => simp [coP]
  | cons k r ih =>
    have e : coP zs (k :: r) = ((if k.val = 0 then [] else [58]) ++ [hexd (byteAt zs k.val / 16), hexd (byteAt zs k.val % 16)]) ++ coP zs r := by simp [coP]
    rw [e]
    split <;> simp <;> omega

theorem bld_turn {B b : Nat} {bs : List Value} {w w' : World} {row : Option Nat} (h : Bld B b bs w) (hg : w.grownBy w' row) (hr : ∀ r, row = some r → ∃ o : Obj, w.heap[r]? = some o ∧ o.isCells = false) : Bld B b bs w' := by
  have key : ∀ p, Lib.BuilderAt 83 5 B b p bs w → Lib.BuilderAt 83 5 B b p bs w' := by
    rintro p h
    have hlt := h.lt
    obtain ⟨hB, v, hbk, hown, hne⟩ := h
    refine ⟨hB, v, (hg.block b hlt (fun e => ?_)).trans hbk, hown.kept hg ?_, hne⟩
    · obtain ⟨o, ho, hc⟩ := hr b e.symm
      rw [hbk] at ho
      cases ho
      cases hc
    · cases ho : v.ownBlock with
      | none => exact .inl rfl
      | some j =>
        refine .inr (fun e => ?_)
        obtain ⟨o, ho2, hc⟩ := hr j e.symm
        rw [own_cells hown ho ho2] at hc
        cases hc
  exact h.imp (key _) (key _)

theorem own_bld (B b N : Nat) (zs : List Int) : Own (fun (pre : List (Fin N)) W => Bld B b (Lib.byteCells (coP zs pre)) W) := fun _ _ _ _ hs hg hr => bld_turn hs hg hr

theorem hex_key : ∀ q : Fin 16, (⟨#[48, 49, 50, 51, 52, 53, 54, 55, 56, 57, 97, 98, 99, 100, 101, 102]⟩ : ByteArray)[q.val]'(q.isLt) = hexd (q.val : Int) := by decide +kernel

theorem hex_at (n : Int) (h0 : 0 ≤ n) (h1 : n < 16) (h : n.toNat < (⟨#[48, 49, 50, 51, 52, 53, 54, 55, 56, 57, 97, 98, 99, 100, 101, 102]⟩ : ByteArray).size) :
    (⟨#[48, 49, 50, 51, 52, 53, 54, 55, 56, 57, 97, 98, 99, 100, 101, 102]⟩ : ByteArray)[n.toNat]'h = hexd n := by
  obtain ⟨k, rfl⟩ := Int.eq_ofNat_of_zero_le h0
  have h16 : k < 16 := by omega
  exact hex_key ⟨k, h16⟩

/-- A byte written in a round. -/
theorem roundByte (l : Nat) {B : Nat} {t : List UInt8} {W : World} (h : Bld B B (Lib.byteCells t) W) (hB : B ≤ W.heap.size) (c : UInt8) (hl : t.length + 1 ≤ 1000) :
    CallsIn (Fence.wide.inRound l) 0 Tryd.prog 35 #[.pointer (some ⟨B, 0, none⟩), .int .u8 (c.toNat : Int)] W fun e W' => e = .returned .nilIface ∧ Bld B B (Lib.byteCells (t ++ [c])) W' ∧ Below B W W' ∧ KeepsOthers W W' :=
  CallsIn.inRound l (callsIn_wide.2 ((writeByte_b B B _ (c.toNat : Int) W h (by simp [Lib.byteCells]; omega) hB).mono fun _ _ ⟨he, hd, hb, hk⟩ => ⟨he, by rw [← bytes_one]; exact hd, hb, hk⟩))

set_option maxRecDepth 100000 in
set_option maxHeartbeats 2000000 in
theorem colons_b (N : Nat) (hN : N ≤ 16) (zs : List Int) (hr : ∀ k, 0 ≤ byteAt zs k ∧ byteAt zs k ≤ 255) (gf : Nat) (lb : Array Value) (w : World) (hw : GlobPow w)
    (eg : ∀ args w, (callFunc gf args).run Tryd.prog w = .ok (.enter gf args) w)
    (hseq : ∀ W0, Below w.heap.size w W0 → SeqStopsK Fence.wide 2 Tryd.prog gf lb (octN N zs) (Below w.heap.size) (fun ys => ys = List.finRange N) (fun _ => True) N W0) :
    Calls Tryd.prog 30 #[.func (.func gf) #[] lb] w fun en W' => en = .returned (.string ⟨(coP zs (List.finRange N)).toArray⟩) ∧ Below w.heap.size w W' := by
  have H := Way.start hw
  refine (callsIn_wide (n := 3)).1 ?_
  have h1 : 1 ≤ 3 := by omega
  refine callsIn_of_wp_marks Tryd.func30 rfl trivial ?_ rfl
  simp only [Tryd.ntmps30, List.size_toArray, List.length_cons, List.length_nil, Nat.reduceAdd, Nat.reduceSub, Array.replicate_succ, Array.replicate_zero, List.push_toArray, List.append_toArray, List.nil_append, List.cons_append]
  gi_wp2_with fail
  have hst := hseq _ H.bel
  have hbld := H.bld
  have hbel := H.bel
  clear hseq H
  refine wpIn_rangeFunc_ownG rfl h1 (gf := gf) (lb := lb) rfl trivial eg
    hst belowK_t (belowK_b (by simp)) (Below.refl _ _) (fun _ => rfl)
    (fun pre W => Bld w.heap.size w.heap.size (Lib.byteCells (coP zs pre)) W ∧ (pre.length ≤ N ∧ Below w.heap.size w W))
    (fun _ _ _ => False)
    (OwnFrom.and (Own.from (own_bld _ _ N zs) _) (OwnFrom.and (ownFrom_pure _ _) (ownFrom_below (by simp) (by simp))))
    (fun _ _ _ _ _ hs _ _ => hs)
    ⟨hbld, by simp, hbel⟩
    (fun x => { tmps := #[.func (.func gf) #[] lb, undef, .string ⟨#[]⟩, .pointer (some ⟨w.heap.size, 0, none⟩), .int .i64 (x.val : Int), .int .u8 (byteAt zs x.val), .func (.func gf) #[] lb, .int .i64 (x.val : Int), .int .u8 (byteAt zs x.val), undef, undef, undef, undef, undef, undef, undef, undef, undef, undef, undef, undef], defers := [] }) ?assign ?body ?done ?stop
  case assign =>
    intro l x W K hK
    simp only [octN]
    gi_wp2
    exact hK
  case body =>
    rintro l pre x W ⟨hB, hl, hb⟩ hlen
    have hb0 := (hr x.val).1
    have hb1 := (hr x.val).2
    have hcl := coP_length zs pre
    by_cases hx : x.val = 0
    · have hx0 : ¬ (0 : Int) < (x.val : Int) := by omega
      have HX := Lib.hid hx
      clear hx
      gi_wp2_with fail
      refine ⟨trivial, ?_⟩
      refine (roundByte l hB hb.size _ (by simp; omega)).mono ?_
      rintro e W1 ⟨rfl, hB1, hb1, hk1⟩
      gi_wp2_with fail
      refine ⟨trivial, ?_⟩
      refine (roundByte l hB1 (Nat.le_trans hb.size (hb1.size)) _ (by simp; omega)).mono ?_
      rintro e W2 ⟨rfl, hB2, hb2, hk2⟩
      gi_wp2_with fail
      refine ⟨(hk1.trans hk2).from _, (hb1.trans hb2), ?_, by simp; omega, hb.trans (hb1.trans hb2)⟩
      have e1 := hex_at (byteAt zs x.val / 16) (by omega) (by omega) (by show (byteAt zs x.val / 16).toNat < 16; omega)
      have e2 := hex_at (byteAt zs x.val % 16) (by omega) (by omega) (by show (byteAt zs x.val % 16).toNat < 16; omega)
      rw [coP_snoc, if_pos HX.out]
      have h9 := hB2
      simp only [List.append_assoc, List.cons_append, List.nil_append] at h9 ⊢
      rw [e1, e2] at h9
      exact h9
    · have hx0 : (0 : Int) < (x.val : Int) := by omega
      have HX := Lib.hid hx
      clear hx
      gi_wp2_with fail
      refine ⟨trivial, ?_⟩
      refine (roundByte l hB hb.size 58 (by simp; omega)).mono ?_
      rintro e W1 ⟨rfl, hB1, hb1, hk1⟩
      gi_wp2_with fail
      refine ⟨trivial, ?_⟩
      refine (roundByte l hB1 (Nat.le_trans hb.size (hb1.size)) _ (by simp; omega)).mono ?_
      rintro e W2 ⟨rfl, hB2, hb2, hk2⟩
      gi_wp2_with fail
      refine ⟨trivial, ?_⟩
      refine (roundByte l hB2 (Nat.le_trans hb.size (Nat.le_trans (hb1.size) hb2.size)) _ (by simp; omega)).mono ?_
      rintro e W3 ⟨rfl, hB3, hb3, hk3⟩
      gi_wp2_with fail
      refine ⟨((hk1.trans hk2).trans hk3).from _, ((hb1.trans hb2).trans hb3), ?_, by simp; omega, hb.trans ((hb1.trans hb2).trans hb3)⟩
      have e1 := hex_at (byteAt zs x.val / 16) (by omega) (by omega) (by show (byteAt zs x.val / 16).toNat < 16; omega)
      have e2 := hex_at (byteAt zs x.val % 16) (by omega) (by omega) (by show (byteAt zs x.val % 16).toNat < 16; omega)
      rw [coP_snoc, if_neg HX.out]
      have h9 := hB3
      simp only [List.append_assoc, List.cons_append, List.nil_append] at h9 ⊢
      rw [e1, e2] at h9
      exact h9
  case done =>
    rintro D ys W hD rfl ⟨hB, hl, hb⟩ hK
    gi_wp2_with fail
    refine ⟨trivial, ?_⟩
    refine (callsIn_wide.2 (Tryd.Builder_String_any_k w.heap.size w.heap.size _ W (Lib.IsBuilderF.of hB) hb.size)).mono ?_
    rintro e W1 ⟨rfl, _, hb1, hk1⟩
    have hne : D ≠ w.heap.size := by
      have := hD
      simp at this
      omega
    have hK1 : W1.heap[D]? = some (.deferred (some [])) := hk1 D _ hK (fun e => hne (by simpa using e)) (fun _ _ => by simp)
    gi_wp2_with fail
    refine ⟨by simp, .inl ⟨_, _, rfl, run_takeDeferred hK1, ?_⟩⟩
    refine ⟨.string ⟨(coP zs (List.finRange N)).toArray⟩, ?_, rfl, (hb.trans hb1).trans (belowK_b (w := w) (Nat.le_refl _) W1 D _ _ (by simp at hD; omega) hK1 rfl rfl)⟩
    simp [results, go_sem]
  case stop =>
    rintro D c pre W hD _ h _
    exact h.elim

end Go.Proofs.YtlmgbnpimmjijaaDoor
