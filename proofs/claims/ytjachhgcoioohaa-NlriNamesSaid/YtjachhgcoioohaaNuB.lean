/- NlriNames: what is read and written; pure. -/
import Derived.Test.YtjachhgcoioohaaNuA
namespace Go.Proofs.Ytjachhgcoioohaa
open Go.RowKit Go.Maps Go.Shelf
set_option linter.unusedVariables false
set_option linter.unusedSimpArgs false
set_option maxRecDepth 100000

def xMac : NL := ⟨2, 0, 0, 0, 0, 0, 0, 0, 0, 0, 0, 0, 0, 2199023255559, 0, false, 0, 0, 0, 100, 0⟩
def WL : List UInt8 := [2, 33] ++ zs 22 ++ [48, 2, 0, 0, 0, 0, 7, 0, 0, 0, 100]
def wi : List Int := ints WL
theorem wi_enc : enc xMac = wi := by decide
theorem xMac_chk : chk xMac = 0 := by decide
theorem xMac_ty : xMac.ty := by constructor <;> decide
theorem wi_byte : ∀ v ∈ wi, 0 ≤ v ∧ v ≤ 255 := by decide
theorem wi1_byte : ∀ v ∈ wi ++ [1], 0 ≤ v ∧ v ≤ 255 := by decide
theorem rp1 : readP [3, 17, 0] = ([], 4, 0) := by kernel_rfl
theorem rp2 : readP [6, 0] = ([], 6, 0) := by kernel_rfl
theorem rp3 : readP [3, 0] = ([], 3, 0) := by kernel_rfl
theorem rp4 : readP (wi ++ [1]) = ([], 4, 35) := by kernel_rfl
theorem rp5 : readP wi = ([xMac], 0, 0) := by kernel_rfl
def nz (k : Int) : NL := { nl0 with k := k }
def BAD : List NL := [nl0, nz 6, { nz 2 with ip := 1 }, nz 3, { nz 4 with has := true, tag := 1 }, { nz 1 with mac := 1 }, { nz 2 with mac := 281474976710656 }, { nz 1 with l1 := 16777216 }, { nz 5 with pl := 33 }, { nz 5 with pip := 1, pl := 8 }]
def ERR : List Int := [6, 6, 3, 3, 3, 3, 2, 2, 2, 3]
theorem bad_err : BAD.map chk = ERR := by decide +kernel
theorem bad_wf : ∀ x ∈ BAD, (Lit.int .i64 x.k).wf = true := by decide +kernel

theorem add1 (w : World) : (binOp .add 9 (.string ⟨#[2, 33]⟩) (.string ⟨(zs 22).toArray⟩)).run Try.prog w = .ok (.string ⟨([2, 33] ++ zs 22).toArray⟩) w := by kernel_rfl
theorem add2 (w : World) : (binOp .add 9 (.string ⟨([2, 33] ++ zs 22).toArray⟩) (.string ⟨#[48, 2, 0, 0, 0, 0, 7, 0, 0, 0, 100]⟩)).run Try.prog w = .ok (.string ⟨WL.toArray⟩) w := by kernel_rfl
theorem wl_eq (w : World) : (binOp .eql 9 (.string ⟨WL.toArray⟩) (.string ⟨WL.toArray⟩)).run Try.prog w = .ok (.bool true) w := by kernel_rfl

/-- What stands behind a step: the faults that were laid, the bytes, the routes. -/
structure NX (w : World) (F : List (Nat × Int × Int)) (v : Value) (bs : List Int) (W : World) : Prop where
  bel : Below w.heap.size w W
  all : ∀ f ∈ F, Has W f.1 40 #[.int .i64 f.2.1, .int .i64 f.2.2]
  b : Arr W v bs
theorem NX.below {w W W' : World} {F : List (Nat × Int × Int)} {v : Value} {bs : List Int} (h : NX w F v bs W) (hb : Below W.heap.size W W') : NX w F v bs W' :=
  ⟨h.bel.trans (hb.mono h.bel.size), fun f hf => (h.all f hf).below hb, h.b.below hb⟩
theorem NX.more {w W : World} {F : List (Nat × Int × Int)} {v : Value} {bs : List Int} (h : NX w F v bs W) {g : Nat} {e a : Int} (hg : Has W g 40 #[.int .i64 e, .int .i64 a]) : NX w ((g, e, a) :: F) v bs W :=
  ⟨h.bel, fun f hf => by
    rcases List.mem_cons.1 hf with rfl | hf
    · exact hg
    · exact h.all f hf, h.b⟩
/-- A fault laid into a new block. -/
theorem NX.lay {w W : World} {F : List (Nat × Int × Int)} {v : Value} {bs : List Int} (h : NX w F v bs W) (e a : Int) : NX w ((W.heap.size, e, a) :: F) v bs (W.alloc (.cells #[.int .i64 e, .int .i64 a] 40)) :=
  (h.below ((Below.refl _ W).alloc (Nat.le_refl _) _)).more (Has.new _ _ _)
theorem arr_lit {w : World} {g c : Nat} {t : TypeId} {l : List Int} (h : Has w g t (u8s l).toArray) (hn : c = l.length) : Arr w (.slice (some ⟨g, 0, none⟩) c c) l := by
  subst hn
  refine .inr ⟨_, l.length, rfl, fun j u hu => ?_⟩
  rw [Addr.add_mid, Nat.zero_add, h.cell j, ← Array.getElem?_toList]
  exact hu

/-- One byte appended to a text's bytes. -/
theorem app_one {w0 : World} {cp : Nat} {C : Array Value} {xs : List Int} (hC : C.size = cp) (hCt : C.toList.take xs.length = u8s xs) (hcp1 : xs.length ≤ cp) (hcp2 : cp ≤ maxLen) (hx : xs.length ≤ 1000)
    {ops : Array Oper} {rest : List Oper} {o : Oper} {a : Act} {Q : Exit → Act → World → Prop} (hg : o.guard = none) (s x : Operand)
    (hop : o.op = Op.call { callee := Callee.builtin Builtin.append, args := #[s, x], argTypes := #[23, 23] }) (n : Nat) (hn : n = xs.length)
    (hs : a.eval s = .slice (some ⟨w0.heap.size, 0, none⟩) n cp) (hxx : a.eval x = .slice (some ⟨w0.heap.size + 1, 0, none⟩) 1 1)
    (h : ∀ ad c' w', Arr w' (.slice (some ad) (n + 1) c') (xs ++ [1]) → n + 1 ≤ c' → c' ≤ 9223372036854775807 → Below w0.heap.size w0 w' → wpList Try.prog ops Q rest (a.put o.dst (.slice (some ad) (n + 1) c')) w') :
    wpList Try.prog ops Q (o :: rest) a ((w0.drew.alloc (.cells C 5 (cp, cp + 1))).alloc (.cells #[.int .u8 1] 5)) := by
  subst hn
  obtain ⟨i0, hi0, hz0, hz1, hz2⟩ := info_parts info_u8
  have hb1 : Below w0.heap.size w0 ((w0.drew.alloc (.cells C 5 (cp, cp + 1))).alloc (.cells #[.int .u8 1] 5)) := (((Below.refl _ w0).drew).alloc (Nat.le_refl _) _).alloc (by simp) _
  have hc : ∀ j, ((w0.drew.alloc (.cells C 5 (cp, cp + 1))).alloc (.cells #[.int .u8 1] 5)).cell? ⟨w0.heap.size, j, none⟩ = C[j]? := fun j => by
    have h1 : (w0.drew.alloc (.cells C 5 (cp, cp + 1))).cell? ⟨w0.heap.size, j, none⟩ = C[j]? := World.cell?_alloc_mark w0.drew C _ _ j
    rw [← h1]
    exact ((Below.refl _ _).alloc (Nat.le_refl _) _).cell (p := ⟨w0.heap.size, j, none⟩) (by simp)
  have hf : ∀ j, j < cp → ((w0.drew.alloc (.cells C 5 (cp, cp + 1))).alloc (.cells #[.int .u8 1] 5)).frozen? ⟨w0.heap.size, j, none⟩ = false := fun j hj => by
    have h1 : (w0.drew.alloc (.cells C 5 (cp, cp + 1))).frozen? ⟨w0.heap.size, j, none⟩ = (decide (cp ≤ j) && decide (j < cp + 1)) := World.frozen?_alloc_mark w0.drew C _ cp (cp + 1) j
    have h2 : ((w0.drew.alloc (.cells C 5 (cp, cp + 1))).alloc (.cells #[.int .u8 1] 5)).frozen? ⟨w0.heap.size, j, none⟩ = (w0.drew.alloc (.cells C 5 (cp, cp + 1))).frozen? ⟨w0.heap.size, j, none⟩ := ((Below.refl _ _).alloc (Nat.le_refl _) _).frozen (p := ⟨w0.heap.size, j, none⟩) (by simp)
    rw [h2, h1]
    have : ¬ cp ≤ j := by omega
    simp [this]
  have hn1 : Has ((w0.drew.alloc (.cells C 5 (cp, cp + 1))).alloc (.cells #[.int .u8 1] 5)) (w0.heap.size + 1) 5 #[.int .u8 1] := by
    have h := Has.new (w0.drew.alloc (.cells C 5 (cp, cp + 1))) 5 #[.int .u8 1]
    rw [World.size_alloc] at h
    exact h
  have hold : ∀ (j : Nat) (u : Value), (u8s xs)[j]? = some u → ((w0.drew.alloc (.cells C 5 (cp, cp + 1))).alloc (.cells #[.int .u8 1] 5)).cell? ⟨w0.heap.size, 0 + j, none⟩ = some u := fun j u hu => by
    rw [Nat.zero_add, hc, ← Array.getElem?_toList]
    rw [← hCt, List.getElem?_take] at hu
    split at hu
    · exact hu
    · cases hu
  unfold maxLen at hcp2
  refine wpList_append_arg _ hg s x 23 hop 5 i0 (.int .u8 0) 1 1 Try.underlying23 hi0 hz0 hz1 hz2 rfl (by decide) w0.heap.size 0 xs.length cp (u8s xs) hs (by simp) hold ⟨w0.heap.size + 1, 0, none⟩ 1 1 [.int .u8 1] hxx rfl (fun j u hu => ?_) (by simp [Value.oneCell']) (fun hr j hj => ?_) (by unfold maxLen; omega) (by omega) (fun hr => ?_) (fun hr v' w' hown hgrow => ?_)
  · rw [Addr.add_mid, Nat.zero_add, hn1.cell, ← Array.getElem?_toList]
    exact hu
  · obtain rfl : j = 0 := by simpa using hj
    rw [Nat.zero_add, Nat.mul_one, Nat.add_zero, hc]
    exact ⟨by simp [hC]; omega, hf _ (by omega)⟩
  · refine h ⟨w0.heap.size, 0, none⟩ cp _ ?_ hr (by omega) (hb1.setCell (p := ⟨w0.heap.size, 0 + xs.length * 1, none⟩) (Nat.le_refl _) (.int .u8 1))
    refine .inr ⟨⟨w0.heap.size, 0, none⟩, cp, by simp, fun j u hu => ?_⟩
    rw [Addr.add_mid]
    have hjl := (List.getElem?_eq_some_iff.1 hu).1
    simp at hjl
    by_cases hj : j < xs.length
    · rw [World.cell?_setCells_out _ _ _ _ _ (fun _ _ => .inl (by simpa using hj))]
      have hu' : (u8s xs)[j]? = some u := by
        rw [← hu]
        simp [u8s, List.getElem?_append_left, hj]
      exact hold j u hu'
    · obtain rfl : j = xs.length := by omega
      have h3 := World.cell?_setCells_in w0.heap.size [.int .u8 1] (0 + xs.length * 1) ((w0.drew.alloc (.cells C 5 (cp, cp + 1))).alloc (.cells #[.int .u8 1] 5)) (fun j hj => by
        obtain rfl : j = 0 := by simpa using hj
        rw [Nat.zero_add, Nat.mul_one, Nat.add_zero, hc]
        simp [hC]; omega) 0 (by simp)
      rw [show (⟨w0.heap.size, 0 + xs.length * 1 + 0, none⟩ : Addr) = ⟨w0.heap.size, 0 + xs.length, none⟩ by rw [Nat.mul_one, Nat.add_zero]] at h3
      refine h3.trans ?_
      rw [← hu]
      simp [u8s]
  · obtain ⟨A', c', rfl⟩ := own_form hown
    have hb : Below w0.heap.size w0 w' := hb1.grown hgrow hb1.size (fun k e => by cases e)
    have hcap := own_cap hown
    have hcm := own_capm hown
    rcases hown.2 with ⟨_, h2⟩ | ⟨g, cap, cur, h1, h2, h3, h4, h5, h6, h7⟩
    · omega
    · injection h1 with e1 _ e3
      subst e1 e3
      refine h ⟨g, 0, none⟩ _ w' ?_ hcap hcm hb
      refine .inr ⟨⟨g, 0, none⟩, c', by simp, fun j u hu => ?_⟩
      have hh : Has w' g 5 cur := h3
      rw [Addr.add_mid, Nat.zero_add, hh.cell j, ← Array.getElem?_toList]
      have e : u8s (xs ++ [1]) = u8s xs ++ [.int .u8 1] := by simp [u8s]
      rw [e, ← h7, List.getElem?_take] at hu
      split at hu
      · exact hu
      · cases hu
theorem text_arr {w0 : World} {cp : Nat} {C : Array Value} {xs : List Int} (n : Nat) (hn : n = xs.length) (hCt : C.toList.take n = u8s xs) : Arr (w0.drew.alloc (.cells C 5 (cp, cp + 1))) (.slice (some ⟨w0.heap.size, 0, none⟩) n cp) xs := by
  subst hn
  refine .inr ⟨_, cp, rfl, fun j u hu => ?_⟩
  have h1 : (w0.drew.alloc (.cells C 5 (cp, cp + 1))).cell? ⟨w0.heap.size, j, none⟩ = C[j]? := World.cell?_alloc_mark w0.drew C _ _ j
  rw [Addr.add_mid, Nat.zero_add, h1, ← Array.getElem?_toList]
  rw [← hCt, List.getElem?_take] at hu
  split at hu
  · exact hu
  · cases hu
theorem fill_bad : Instr.fill (fun i => some (i * 21, 21)) ((Array.range (10 * 21)).map (nl0.v.cells[· % nl0.v.cells.size]!)) ((BAD.map fun x => Value.agg x.cs).zipIdx.map fun x => (x.2, x.1)) = some (flatN BAD).toArray := by kernel_rfl
theorem bad_parts : ((BAD.map fun x => Value.agg x.cs).zipIdx.map fun x => (x.2, x.1)) = [(0, .agg nl0.cs), (1, .agg (nz 6).cs), (2, .agg { nz 2 with ip := 1 }.cs), (3, .agg (nz 3).cs), (4, .agg { nz 4 with has := true, tag := 1 }.cs), (5, .agg { nz 1 with mac := 1 }.cs), (6, .agg { nz 2 with mac := 281474976710656 }.cs), (7, .agg { nz 1 with l1 := 16777216 }.cs), (8, .agg { nz 5 with pl := 33 }.cs), (9, .agg { nz 5 with pip := 1, pl := 8 }.cs)] := rfl
theorem rdo_a : rdo (rdn 184483841 5) = .tuple #[.int .u32 184483841, .int .u16 5, .bool true] := by kernel_rfl
theorem rdo_b : rdo 5 = .tuple #[.int .u32 0, .int .u16 0, .bool false] := by kernel_rfl
theorem has_range {w : World} {g : Nat} {t : TypeId} {cs : List Value} (h : Has w g t cs.toArray) : w.rangeAt g 0 cs := fun j u hu => by
  rw [Nat.zero_add, h.cell, ← Array.getElem?_toList]
  exact hu
theorem bad_at {w : World} {g : Nat} (h : w.rangeAt g 0 (flatN BAD)) (k : Nat) (hk : k < 10) : ∃ (x : NL) (er : Int), w.rangeAt g (k * 21) x.l ∧ (Lit.int .i64 x.k).wf = true ∧ chk x = er ∧ (ERR.map (Value.int .i64)).toArray[k]? = some (.int .i64 er) := by
  have hkB : k < BAD.length := hk
  refine ⟨BAD[k]'hkB, chk (BAD[k]'hkB), ?_, bad_wf _ (List.getElem_mem hkB), rfl, ?_⟩
  · have := range_at h k hkB
    rwa [Nat.zero_add] at this
  · rw [← bad_err]
    simp only [List.getElem?_toArray, List.getElem?_map, List.getElem?_eq_getElem hkB, Option.map_some]
end Go.Proofs.Ytjachhgcoioohaa
