/- PacketNames: what is read and written; pure. -/
import Derived.Test.YtnmbmogjgkgjjaaPkM
import Derived.Test.YtnmbmogjgkgjjaaPkW3
import Derived.Test.YtnmbmogjgkgjjaaPkR2
import Derived.Deep.OwnRows
import Derived.Great.BuildSlice
namespace Go.Proofs.Ytnmbmogjgkgjjaa
open Go.RowKit Go.Maps Go.Shelf
set_option linter.unusedVariables false
set_option linter.unusedSimpArgs false
set_option maxRecDepth 100000

def xh : FR := ⟨2199023255552, 0, 2, 0, 0, 0, 0, 0, 167837697, 167837698, 64, 1, 0, 0, 0⟩
def EB : List Int := [0, 0, 0, 0, 0, 0, 2, 0, 0, 0, 0, 0, 8, 0, 69, 0, 0, 28, 0, 0, 0, 0, 64, 1, 102, 221, 10, 1, 0, 1, 10, 1, 0, 2, 0, 0, 0, 0, 0, 0, 0, 0]
theorem xh_chk : fchk xh = 0 := by decide
theorem xh_ty : xh.ty := ⟨by decide, by decide, by decide, by decide, by decide, by decide, by decide, by decide, by decide, by decide, by decide, by decide, by decide, by decide, by decide⟩
theorem xh_enc : fenc xh = EB := by decide +kernel
theorem eb_len : EB.length = 42 := rfl
theorem eb_byte : ∀ v ∈ EB, 0 ≤ v ∧ v ≤ 255 := by decide
theorem eb_read : (fread EB).2.1 = 0 := by
  rw [← xh_enc, fread_enc xh_ty xh_chk]
theorem rz13 : fread (List.replicate 13 0) = (fr0, 4, 13) := by kernel_rfl
theorem rz14 : fread (List.replicate 14 0) = (fr0, 6, 12) := by kernel_rfl
theorem rz41 : fread (EB.take 41) = (fr0, 4, 41) := fread_cut eb_read 41 (by decide)
theorem rz43 : fread (EB ++ [0]) = (fr0, 5, 42) := fread_more eb_read (by decide)
theorem zero_byte (n : Nat) : ∀ v ∈ List.replicate n (0 : Int), 0 ≤ v ∧ v ≤ 255 := fun v hv => by
  obtain rfl := List.eq_of_mem_replicate hv
  decide
theorem sum_nil : sumP [] = 65535 := by kernel_rfl
theorem sum_one : sumP [1] = 65279 := by kernel_rfl
theorem pd17 : pd 17 = true := by decide
theorem pd1 : pd 1 = false := by decide

def BADF : List FR := [{ fr0 with s := 281474976710656 }, { fr0 with d := 281474976710656 }, { fr0 with s := 281474976710655 }, { fr0 with k := 3 }, { fr0 with op := 1 }, { fr0 with k := 1, tl := 1 }, { fr0 with k := 1 }, { fr0 with k := 1, op := 2, tm := 281474976710656 }, { fr0 with k := 2, tl := 256 }, { fr0 with k := 2, pr := 17, sp := 65536 }, { fr0 with k := 2, pr := 1, dp := 1 }, { fr0 with k := 2, pr := 6, dp := 1 }]
def ERRF : List Int := [2, 2, 3, 6, 3, 3, 2, 2, 2, 2, 3, 0]
theorem badf_err : BADF.map fchk = ERRF := by decide +kernel
theorem badf_ty : ∀ x ∈ BADF, x.ty := by
  intro x hx
  simp only [BADF, List.mem_cons, List.not_mem_nil, or_false] at hx
  rcases hx with rfl | rfl | rfl | rfl | rfl | rfl | rfl | rfl | rfl | rfl | rfl | rfl <;> constructor <;> decide

def FR.l (x : FR) : List Value := x.cs.toList
theorem FR.l_len (x : FR) : x.l.length = 15 := rfl
theorem fr_fit_l (x : FR) : (Try.prog.info? 36).map (·.size) = some x.l.length := fr_fit
def flatF (L : List FR) : List Value := L.flatMap FR.l
theorem flatF_cons (x : FR) (L : List FR) : flatF (x :: L) = x.l ++ flatF L := by simp [flatF]
theorem flatF_at (L : List FR) (i : Nat) (hi : i < L.length) (j : Nat) (hj : j < 15) : (flatF L)[i * 15 + j]? = L[i].l[j]? := by
  induction L generalizing i with
  | nil => simp at hi
  | cons x L ih =>
    rw [flatF_cons]
    cases i with
    | zero => rw [List.getElem?_append_left (by rw [FR.l_len]; omega)]; simp
    | succ i =>
      rw [List.getElem?_append_right (by rw [FR.l_len]; omega), FR.l_len]
      have := ih i (by simpa using hi)
      rw [show (i + 1) * 15 + j - 15 = i * 15 + j by omega, this]
      simp
theorem rangeF_below {w w' : World} {b o : Nat} {cs : List Value} (h : w.rangeAt b o cs) (hb : Below w.heap.size w w') : w'.rangeAt b o cs := fun j v hv =>
  (hb.cell (p := ⟨b, o + j, none⟩) (cell_block (h j v hv))).trans (h j v hv)
theorem rangeF_at {w : World} {b o : Nat} {L : List FR} (h : w.rangeAt b o (flatF L)) (i : Nat) (hi : i < L.length) : w.rangeAt b (o + i * 15) L[i].l := fun j v hv => by
  have hj : j < 15 := by have := (List.getElem?_eq_some_iff.1 hv).1; rwa [FR.l_len] at this
  have := h (i * 15 + j) v (by rw [flatF_at L i hi j hj]; exact hv)
  rw [show o + i * 15 + j = o + (i * 15 + j) by omega]
  exact this
theorem has_rangeF {w : World} {g : Nat} {t : TypeId} {cs : List Value} (h : Has w g t cs.toArray) : w.rangeAt g 0 cs := fun j u hu => by
  rw [Nat.zero_add, h.cell, ← Array.getElem?_toList]
  exact hu
theorem info_fr : (Try.prog.info? 36).map (fun i => (i.zero, i.size)) = some (some (.agg fr0.cs), 15) := by kernel_rfl
theorem info_fr2 : ∃ i, Try.prog.info? 36 = some i ∧ i.zero = some (.agg fr0.cs) ∧ i.size = 15 := by
  obtain ⟨i, hi, h⟩ := Option.map_eq_some_iff.1 info_fr
  simp only [Prod.mk.injEq] at h
  exact ⟨i, hi, h.1, h.2⟩
theorem fill_badf : Instr.fill (fun i => some (i * 15, 15)) ((Array.range (12 * 15)).map ((Value.agg fr0.cs).cells[· % (Value.agg fr0.cs).cells.size]!)) ((BADF.map fun x => Value.agg x.cs).zipIdx.map fun x => (x.2, x.1)) = some (flatF BADF).toArray := by kernel_rfl
theorem badf_at {w : World} {g : Nat} (h : w.rangeAt g 0 (flatF BADF)) (k : Nat) (hk : k < 12) : ∃ (x : FR) (er : Int), w.rangeAt g (k * 15) x.l ∧ x.ty ∧ fchk x = er ∧ (ERRF.map (Value.int .i64)).toArray[k]? = some (.int .i64 er) := by
  have hkB : k < BADF.length := hk
  refine ⟨BADF[k]'hkB, fchk (BADF[k]'hkB), ?_, badf_ty _ (List.getElem_mem hkB), rfl, ?_⟩
  · have := rangeF_at h k hkB
    rwa [Nat.zero_add] at this
  · rw [← badf_err]
    simp only [List.getElem?_toArray, List.getElem?_map, List.getElem?_eq_getElem hkB, Option.map_some]

/-- What stands behind a step: the faults that were laid, the bytes. -/
structure PX (w : World) (F : List (Nat × Int × Int)) (b c : Nat) (W : World) : Prop where
  bel : Below w.heap.size w W
  all : ∀ f ∈ F, Has W f.1 38 #[.int .i64 f.2.1, .int .i64 f.2.2]
  row : Row W b c EB
theorem PX.below {w W W' : World} {F : List (Nat × Int × Int)} {b c : Nat} (h : PX w F b c W) (hb : Below W.heap.size W W') : PX w F b c W' :=
  ⟨h.bel.trans (hb.mono h.bel.size), fun f hf => (h.all f hf).below hb, h.row.below hb⟩
/-- A frame and a fault laid into new blocks. -/
theorem PX.lay {w W : World} {F : List (Nat × Int × Int)} {b c : Nat} (h : PX w F b c W) (X : Array Value) (t : TypeId) (e a : Int) : PX w ((W.heap.size + 1, e, a) :: F) b c ((W.alloc (.cells X t)).alloc (.cells #[.int .i64 e, .int .i64 a] 38)) := by
  have hb : Below W.heap.size W ((W.alloc (.cells X t)).alloc (.cells #[.int .i64 e, .int .i64 a] 38)) := ((Below.refl _ W).alloc (Nat.le_refl _) _).alloc (by simp) _
  have h2 := h.below hb
  refine ⟨h2.bel, fun f hf => ?_, h2.row⟩
  rcases List.mem_cons.1 hf with rfl | hf
  · have h1 := Has.new (W.alloc (.cells X t)) 38 #[.int .i64 e, .int .i64 a]
    rw [World.size_alloc] at h1
    exact h1
  · exact h2.all f hf

theorem px_hdr {w : World} {b c : Nat} (h : Row w b c EB) (c' : Nat) : (convert 23 9 (.slice (some ⟨b, 14, none⟩) 20 c')).run Try.prog w = .ok (.string ⟨#[69, 0, 0, 28, 0, 0, 0, 0, 64, 1, 102, 221, 10, 1, 0, 1, 10, 1, 0, 2]⟩) w := by
  have hA : Arr w (.slice (some ⟨b, 14, none⟩) 20 c') ((EB.drop 14).take 20) := .inr ⟨_, c', rfl, Sl.at_ (h.part 14 20)⟩
  exact arr_string hA (by decide)
theorem px_cut {w : World} {b c : Nat} (h : Row w b c EB) : Arr w (.slice (some ⟨b, 0, none⟩) 41 c) (EB.take 41) := .inr ⟨_, c, rfl, Sl.at_ (h.part 0 41)⟩
theorem cut_byte : ∀ v ∈ EB.take 41, 0 ≤ v ∧ v ≤ 255 := fun v hv => eb_byte v (List.mem_of_mem_take hv)
theorem more_byte : ∀ v ∈ EB ++ [0], 0 ≤ v ∧ v ≤ 255 := by decide

/-- Zeros, made. -/
theorem make_zeros (w : World) {ops : Array Oper} {rest : List Oper} {o : Oper} {a : Act} {Q : Exit → Act → World → Prop} (hg : o.guard = none) (n : Nat) (hn : n ≤ 1000)
    (hop : o.op = Op.makeSlice 23 (.const (.int .i64 n)) (.const (.int .i64 n))) (hC : madeCells #[.int .u8 0] n = (u8s (List.replicate n 0)).toArray)
    (h : ∀ w', Arr w' (.slice (some ⟨w.heap.size, 0, none⟩) n n) (List.replicate n 0) → Below w.heap.size w w' → wpList Try.prog ops Q rest (a.put o.dst (.slice (some ⟨w.heap.size, 0, none⟩) n n)) w') : wpList Try.prog ops Q (o :: rest) a w := by
  obtain ⟨i0, hi0, hz0, hz1, hz2⟩ := info_parts info_u8
  refine wpList_make_row w hg _ _ 23 hop 5 i0 (.int .u8 0) Try.underlying23 hi0 hz0 hz1 rfl .i64 .i64 n rfl rfl (by rw [hz2]; omega) (by omega) ?_
  refine h _ ?_ ((Below.refl _ w).alloc (Nat.le_refl _) _)
  have h1 := Row.new w (List.replicate n 0) _ hC (by simpa using hn)
  rw [List.length_replicate] at h1
  exact row_arr h1 List.length_replicate

/-- A reading that fails. -/
theorem read_z {w : World} {v : Value} {bs : List Int} {er i : Int} (hA : Arr w v bs) (hby : ∀ v ∈ bs, 0 ≤ v ∧ v ≤ 255) (hf : fread bs = (fr0, er, i)) :
    Calls Try.prog 11 #[v] w fun e w' => e = .returned (.tuple #[.agg #[.int .u64 0, .int .u64 0, .int .i64 0, .int .i64 0, .int .u64 0, .int .u32 0, .int .u64 0, .int .u32 0, .int .u32 0, .int .u32 0, .int .i64 0, .int .i64 0, .int .i64 0, .int .i64 0, .int .u64 0], .agg #[.int .i64 er, .int .i64 i]]) ∧ Below w.heap.size w w' := by
  have h := read_any v bs w hA hby
  unfold ReadsTo at h
  rw [hf] at h
  exact h

end Go.Proofs.Ytnmbmogjgkgjjaa
