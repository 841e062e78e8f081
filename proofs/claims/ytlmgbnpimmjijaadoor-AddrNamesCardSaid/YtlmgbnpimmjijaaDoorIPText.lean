/- The contract of IPText. -/
import Derived.Test.YtlmgbnpimmjijaaDoorParseIP
import Derived.Lib.AppendIntMem
import Derived.Lib.ItoaLen
namespace Go.Proofs.YtlmgbnpimmjijaaDoor
open Go.RowKit

theorem string_b (B b : Nat) (l : List UInt8) (w : World) (h : Bld B b (Lib.byteCells l) w) (hBw : B ≤ w.heap.size) :
    Calls Tryd.prog 38 #[.pointer (some ⟨b, 0, none⟩)] w fun e w' => e = .returned (.string ⟨l.toArray⟩) ∧ Below B w w' := Tryd.Builder_String_any B b l w h hBw

/-- The library's table of powers of ten, in a world. -/
def GlobPow (w : World) : Prop := Lib.TabIs Tryd.prog w "internal/strconv.uint64pow10" .u64 Lib.pow10Tab

theorem below_none {w w' : World} (h : Below w.heap.size w w') : w.grownBy w' none := ⟨h.os, h.tape, h.output, h.size, fun i hi _ => h.block i hi⟩

theorem bld_keep {B b : Nat} {bs : List Value} {w w' : World} (h : Bld B b bs w) (hb : Below w.heap.size w w') : Bld B b bs w' := by
  have key : ∀ p, Lib.BuilderAt 83 5 B b p bs w → Lib.BuilderAt 83 5 B b p bs w' := by
    rintro p h
    have hlt := h.lt
    obtain ⟨hB, v, hbk, hown, hne⟩ := h
    exact ⟨hB, v, (hb.block b hlt).trans hbk, hown.kept (below_none hb) (Classical.em _), hne⟩
  exact h.imp (key _) (key _)

theorem pow_keep {w w' : World} (h : GlobPow w) (hb : Below w.heap.size w w') : GlobPow w' := by
  have h1 := h.cell (g := 4) (by kernel_rfl) 0 (by decide)
  have hlt := World.block_lt_of_cell? w _ h1
  have hgn : Tryd.prog.globalNamed "internal/strconv.uint64pow10" = some 4 := by kernel_rfl
  unfold GlobPow Lib.TabIs World.var? at h ⊢
  rw [hgn] at h ⊢
  simp only [Option.bind_some] at h ⊢
  rw [hb.block _ hlt]
  exact h

theorem itoa_b (n : Int) (h0 : 0 ≤ n) (h1 : n ≤ 255) (w : World) (hg : GlobPow w) :
    Calls Tryd.prog 37 #[.int .i64 n] w fun e w' => e = .returned (.string ⟨(Lib.itoa n).toArray⟩) ∧ Below w.heap.size w w' :=
  (Tryd.strconv_Itoa n (by omega) (by omega) w hg).mono fun _ _ ⟨he, k, os, hw⟩ => ⟨he, by rw [hw]; exact Lib.below_grow _ _ (Nat.le_refl _) _ _⟩

theorem bytes_app (l m : List UInt8) : Lib.byteCells l ++ Lib.strCells ⟨m.toArray⟩ = Lib.byteCells (l ++ m) := by simp [Lib.byteCells, Lib.strCells]
theorem bytes_one (l : List UInt8) (c : UInt8) : Lib.byteCells l ++ [.int .u8 (c.toNat : Int)] = Lib.byteCells (l ++ [c]) := by simp [Lib.byteCells]

/-- A text of an address: its four bytes in decimal, with dots. -/
def ipT (a b c d : Int) : List UInt8 := Lib.itoa a ++ [46] ++ Lib.itoa b ++ [46] ++ Lib.itoa c ++ [46] ++ Lib.itoa d

/-- A builder under way: what it holds, and that nothing older has turned. -/
structure Way (w : World) (l : List UInt8) (W : World) : Prop where
  bld : Bld w.heap.size w.heap.size (Lib.byteCells l) W
  bel : Below w.heap.size w W
  pow : GlobPow W

theorem Way.start {w : World} (hg : GlobPow w) : Way w [] (w.alloc (.cells #[.pointer none, .slice none 0 0] 83)) where
  bld := .inl ⟨Nat.le_refl _, .slice none 0 0, by simpa using World.alloc_heap_new w (.cells #[.pointer none, .slice none 0 0] 83), World.ownsRow_nil _ _ _ _, by simp [Value.ownBlock]⟩
  bel := (Below.refl _ w).alloc (Nat.le_refl _) _
  pow := pow_keep hg ((Below.refl _ w).alloc (Nat.le_refl _) _)

theorem way_itoa {w W : World} {l : List UInt8} (h : Way w l W) (n : Int) (h0 : 0 ≤ n) (h1 : n ≤ 255) :
    Calls Tryd.prog 37 #[.int .i64 n] W fun e W' => e = .returned (.string ⟨(Lib.itoa n).toArray⟩) ∧ Way w l W' :=
  (itoa_b n h0 h1 W h.pow).mono fun _ _ ⟨he, hb⟩ => ⟨he, bld_keep h.bld hb, h.bel.trans (hb.mono h.bel.size), pow_keep h.pow hb⟩

theorem way_string {w W : World} {l : List UInt8} (hw : GlobPow w) (h : Way w l W) (m : List UInt8) (hl : l.length + m.length ≤ 1000) :
    Calls Tryd.prog 36 #[.pointer (some ⟨w.heap.size, 0, none⟩), .string ⟨m.toArray⟩] W fun e W' => e = .returned (.tuple #[.int .i64 (⟨m.toArray⟩ : ByteArray).size, .nilIface]) ∧ Way w (l ++ m) W' :=
  (writeString_b w.heap.size w.heap.size _ ⟨m.toArray⟩ W h.bld (by simp [Lib.byteCells, ByteArray.size]; omega) h.bel.size).mono fun _ _ ⟨he, hd, hb⟩ => ⟨he, by rw [← bytes_app]; exact hd, h.bel.trans hb, pow_keep hw (h.bel.trans hb)⟩

theorem way_byte {w W : World} {l : List UInt8} (hw : GlobPow w) (h : Way w l W) (c : UInt8) (v : Int) (hv : v = (c.toNat : Int)) (hl : l.length + 1 ≤ 1000) :
    Calls Tryd.prog 35 #[.pointer (some ⟨w.heap.size, 0, none⟩), .int .u8 v] W fun e W' => e = .returned .nilIface ∧ Way w (l ++ [c]) W' := by
  subst hv
  exact (writeByte_b w.heap.size w.heap.size _ (c.toNat : Int) W h.bld (by simp [Lib.byteCells]; omega) h.bel.size).mono fun _ _ ⟨he, hd, hb, _⟩ => ⟨he, by rw [← bytes_one]; exact hd, h.bel.trans hb, pow_keep hw (h.bel.trans hb)⟩

set_option maxHeartbeats 2000000 in
set_option maxRecDepth 100000 in
theorem ipText_b (ip : Int) (h0 : 0 ≤ ip) (h1 : ip < 4294967296) (w : World) (hg : GlobPow w) :
    Calls Tryd.prog 18 #[.int .u32 ip] w fun e w' => e = .returned (.string ⟨(ipT (ip / 16777216) (ip / 65536 % 256) (ip / 256 % 256) (ip % 256)).toArray⟩) ∧ Below w.heap.size w w' := by
  have H := Way.start hg
  have HG := Lib.hid hg
  have la := Lib.itoa_length_le (ip / 16777216) (by omega) (by omega)
  have lb := Lib.itoa_length_le (ip / 65536 % 256) (by omega) (by omega)
  have lc := Lib.itoa_length_le (ip / 256 % 256) (by omega) (by omega)
  have ld := Lib.itoa_length_le (ip % 256) (by omega) (by omega)
  clear hg
  go_enter Tryd.func18, Tryd.ntmps18
  go_wp2_with fail
  refine wp_loop_rounds 5 ?_
  rw [rounds_succ]
  go_wp2_with fail
  refine (way_itoa H _ (by omega) (by omega)).mono ?_
  rintro e W ⟨rfl, H1⟩
  clear H
  have H := H1
  clear H1
  go_wp2_with fail
  refine (way_string HG.out H _ (by simp; omega)).mono ?_
  rintro e W ⟨rfl, H1⟩
  clear H
  have H := H1
  clear H1
  go_wp2_with fail
  rw [rounds_succ]
  go_wp2_with fail
  refine (way_byte HG.out H 46 _ rfl (by simp; omega)).mono ?_
  rintro e W ⟨rfl, H1⟩
  clear H
  have H := H1
  clear H1
  go_wp2_with fail
  refine (way_itoa H _ (by omega) (by omega)).mono ?_
  rintro e W ⟨rfl, H1⟩
  clear H
  have H := H1
  clear H1
  go_wp2_with fail
  refine (way_string HG.out H _ (by simp; omega)).mono ?_
  rintro e W ⟨rfl, H1⟩
  clear H
  have H := H1
  clear H1
  go_wp2_with fail
  rw [rounds_succ]
  go_wp2_with fail
  refine (way_byte HG.out H 46 _ rfl (by simp; omega)).mono ?_
  rintro e W ⟨rfl, H1⟩
  clear H
  have H := H1
  clear H1
  go_wp2_with fail
  refine (way_itoa H _ (by omega) (by omega)).mono ?_
  rintro e W ⟨rfl, H1⟩
  clear H
  have H := H1
  clear H1
  go_wp2_with fail
  refine (way_string HG.out H _ (by simp; omega)).mono ?_
  rintro e W ⟨rfl, H1⟩
  clear H
  have H := H1
  clear H1
  go_wp2_with fail
  rw [rounds_succ]
  go_wp2_with fail
  refine (way_byte HG.out H 46 _ rfl (by simp; omega)).mono ?_
  rintro e W ⟨rfl, H1⟩
  clear H
  have H := H1
  clear H1
  go_wp2_with fail
  refine (way_itoa H _ (by omega) (by omega)).mono ?_
  rintro e W ⟨rfl, H1⟩
  clear H
  have H := H1
  clear H1
  go_wp2_with fail
  refine (way_string HG.out H _ (by simp; omega)).mono ?_
  rintro e W ⟨rfl, H1⟩
  clear H
  have H := H1
  clear H1
  go_wp2_with fail
  rw [rounds_succ]
  go_wp2_with fail
  refine (string_b _ _ _ _ H.bld H.bel.size).mono ?_
  rintro e W' ⟨rfl, hb⟩
  go_wp2_with fail
  go_ret
  exact ⟨by simp [ipT], H.bel.trans hb⟩

end Go.Proofs.YtlmgbnpimmjijaaDoor
