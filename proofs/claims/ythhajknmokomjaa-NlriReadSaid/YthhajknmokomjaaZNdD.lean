/- Routes: the document's Read; written by gen_ndd.py. -/
import Derived.Test.YthhajknmokomjaaZNdC
import Derived.Test.YthhajknmokomjaaZNcJ
import Derived.Test.YthhajknmokomjaaZNrJ
import Derived.Test.YthhajknmokomjaaZNrM
namespace Go.Proofs.Ythhajknmokomjaa
open Go.RowKit Go.Maps Go.Shelf
set_option linter.unusedVariables false
set_option linter.unusedSimpArgs false
set_option maxRecDepth 100000

set_option maxHeartbeats 1000000 in
theorem rread_results {W : World} {v : Value} {g : Nat} {er i : Int} (tmps : Array Value) (h2 : tmps[2]?.getD undef = v) (h3 : tmps[3]?.getD undef = .pointer (some ⟨g, 0, none⟩)) (q3 : Has W g 47 #[.int .i64 er, .int .i64 i]) :
    (results Try.f20 tmps).run Try.prog W = .ok (.tuple #[v, .agg #[.int .i64 er, .int .i64 i]]) W := by
  have c30 : W.cell? ⟨g, 0, none⟩ = some (.int .i64 er) := q3.cell 0
  have c31 : W.cell? ⟨g, 1, none⟩ = some (.int .i64 i) := q3.cell 1
  simp [results, Try.f20, go_sem, h2, h3, c30, c31]

theorem wpList_build_nl {ops : Array Oper} {rest : List Oper} {o : Oper} {a : Act} {w : World} {Q : Exit → Act → World → Prop} (hg : o.guard = none) (y : Operand) (hop : o.op = .buildSlice 45 1 #[(0, y)]) (x : NL) (hy : a.eval y = .agg x.cs)
    (h : wpList Try.prog ops Q rest (a.put o.dst (.slice (some ⟨w.heap.size, 0, none⟩) 1 1)) (w.alloc (.cells x.cs 31))) : wpList Try.prog ops Q (o :: rest) a w := by
  obtain ⟨i0, hi, hz0, hz1, hz2⟩ := info_parts info_nlb
  have h21 : i0.size = 21 := hz1
  refine wpList_buildSlice hg 45 31 1 #[(0, y)] hop x.cs i0 nl0.v Try.underlying45 hi hz0 (by rw [h21]; decide) (by rw [h21]; decide) ?_ h
  rw [h21]
  have e : (#[(0, y)].map fun (p : Nat × Operand) => (p.1, a.eval p.2)).toList = [(0, a.eval y)] := by simp
  show Instr.fill _ _ (#[(0, y)].map fun (p : Nat × Operand) => (p.1, a.eval p.2)).toList = _
  rw [e, hy]
  exact fill_nl x

theorem own_low {W : World} {a b size n : Nat} {e : TypeId} {v : Value} {xs : List Value} (hab : a ≤ b) (h : W.ownsRow b e size v n xs) : W.ownsRow a e size v n xs := by
  obtain ⟨h1, h2⟩ := h
  refine ⟨h1, ?_⟩
  rcases h2 with h2 | ⟨g, cap, cur, h3, h4, h5⟩
  · exact .inl h2
  · exact .inr ⟨g, cap, cur, h3, Nat.le_trans hab h4, h5⟩

theorem rread_end {w W1 W : World} {v : Value} {er i a b : Int} {r : List NL × Int × Int} (hr : r.2 = (er, i)) (HS : W1.heap.size = w.heap.size + 1) (HB1 : Below w.heap.size w W1) (HB : Below W1.heap.size W1 W) (HF : Has W w.heap.size 47 #[.int .i64 a, .int .i64 b]) (hrow : W.ownsRow W1.heap.size 31 21 v r.1.length (flatN r.1)) :
    Has ((W.setCell ⟨w.heap.size, 0, none⟩ (.int .i64 er)).setCell ⟨w.heap.size, 1, none⟩ (.int .i64 i)) w.heap.size 47 #[.int .i64 er, .int .i64 i] ∧ ReadsTo w r (.returned (.tuple #[v, .agg #[.int .i64 er, .int .i64 i]])) ((W.setCell ⟨w.heap.size, 0, none⟩ (.int .i64 er)).setCell ⟨w.heap.size, 1, none⟩ (.int .i64 i)) := by
  have hn : some w.heap.size ≠ v.ownBlock := HF.not_own (by decide) hrow
  refine ⟨(HF.set_ 0 (.int .i64 er)).set_ 1 (.int .i64 i), v, by rw [hr], ?_, ?_⟩
  · exact own_low (by omega) ((hrow.kept (only_set (only_refl W _) (p := ⟨w.heap.size, 0, none⟩) (.inl rfl) _) (.inr hn.symm)).kept (only_set (only_refl _ _) (p := ⟨w.heap.size, 1, none⟩) (.inl rfl) _) (.inr hn.symm))
  · exact ((HB1.trans (HB.mono (by omega))).setCell (p := ⟨w.heap.size, 0, none⟩) (Nat.le_refl _) _).setCell (p := ⟨w.heap.size, 1, none⟩) (Nat.le_refl _) _

theorem piece_cel {W : World} {b o : Nat} {bs : List Int} {i : Nat} (h : Sl W b o bs) : Cel W ⟨b, o + i, none⟩ (piece bs i) := by
  refine Sl.at_ (fun j hj => ?_)
  have hpl := piece_len bs i
  have hcl := cut_le (bs.drop i)
  simp only [List.length_drop] at hcl
  have h2 := h (i + j) (by omega)
  rw [Nat.add_assoc, h2]
  simp [piece]
theorem rest_lies {W : World} {b o : Nat} {bs : List Int} {i m : Nat} (h : Sl W b o bs) (hl : i + 2 + m ≤ bs.length) : Lies W (some ⟨b, o + (i + 2), none⟩) m ((bs.drop (i + 2)).take m) := fun _ => by
  refine ⟨_, _, rfl, fun j hj => ?_⟩
  have hj' : j < m := by simp at hj; omega
  have h2 := h (i + 2 + j) (by omega)
  rw [show o + (i + 2) + j = o + (i + 2 + j) by omega, h2]
  simp
theorem byts_inj {xs ys : List Int} (hx : ∀ v ∈ xs, 0 ≤ v ∧ v ≤ 255) (hy : ∀ v ∈ ys, 0 ≤ v ∧ v ≤ 255) (h : byts xs = byts ys) : xs = ys := by
  have e : u8s xs = u8s ys := by rw [byts_back hx, byts_back hy, h]
  have key : ∀ (a b : List Int), u8s a = u8s b → a = b := by
    intro a
    induction a with
    | nil => intro b h; cases b with
      | nil => rfl
      | cons => simp [u8s] at h
    | cons x a ih => intro b h; cases b with
      | nil => simp [u8s] at h
      | cons y b =>
        simp only [u8s, List.map_cons, List.cons.injEq] at h
        obtain ⟨h1, h2⟩ := h
        injection h1 with _ h1
        rw [h1, ih b h2]
  exact key _ _ e

set_option maxHeartbeats 4000000 in
theorem rread_any (A : Option Addr) (c : Nat) (bs : List Int) (hm : bs.length ≤ 400) (hnc : bs.length ≤ c) (hcm : c ≤ 9223372036854775807) (hby : ∀ v ∈ bs, 0 ≤ v ∧ v ≤ 255) (w : World) (hl : Lies w A bs.length bs) :
    Calls Try.prog 20 #[.slice A bs.length c] w (ReadsTo w (readP bs)) := by
  have HBy := Lib.hid hby
  have HF1 : Hid (Has (w.alloc (.cells #[.int .i64 0, .int .i64 0] 47)) w.heap.size 47 #[.int .i64 0, .int .i64 0]) := Lib.hid (Has.new _ _ _)
  have hb1 : Below w.heap.size w (w.alloc (.cells #[.int .i64 0, .int .i64 0] 47)) := (Below.refl _ w).alloc (Nat.le_refl _) _
  have HB1 := Lib.hid hb1
  have HL1 := Lib.hid (hl.below hb1)
  have hs1 : (w.alloc (.cells #[.int .i64 0, .int .i64 0] 47)).heap.size = w.heap.size + 1 := by simp
  have HS1 := Lib.hid hs1
  clear hb1 hl hby hs1
  go_enter Try.func20, Try.ntmps20
  go_upto_region 1 with fail
  generalize w.alloc (.cells #[.int .i64 0, .int .i64 0] 47) = W1 at *
  go_wp2_with fail
  go_loopw [4, 5] (fun out iv wr => ∃ (L : List NL) (i : Nat) (A4 : Option Addr) (c4 : Nat), out = .slice A4 L.length c4 ∧ iv = .int .i64 i ∧ i ≤ bs.length ∧ L.length ≤ i ∧ From bs L i ∧ wr.ownsRow W1.heap.size 31 21 (.slice A4 L.length c4) L.length (flatN L) ∧ Below W1.heap.size W1 wr) (fun _ iv _ => bs.length - (intOf iv).toNat)
  case atStart => exact ⟨[], 0, none, 0, rfl, rfl, Nat.zero_le _, Nat.le_refl _, From.start bs, World.ownsRow_nil _ _ _ _, Below.refl _ _⟩
  case round =>
    obtain ⟨L, i, A4, c4, rfl, rfl, hil, hLi, hfrom, hown, hbw⟩ := hrel
    obtain ⟨Ln, hLn⟩ : ∃ Ln, L.length = Ln := ⟨_, rfl⟩
    rw [hLn] at hown hLi ⊢
    have HLn := Lib.hid hLn
    have HFr := Lib.hid hfrom
    have HOwn := Lib.hid hown
    have HBw := Lib.hid hbw
    have HF : Hid (Has wr w.heap.size 47 #[.int .i64 0, .int .i64 0]) := Lib.hid ((hbw.block _ (by rw [HS1.out]; omega)).trans HF1.out)
    have HL : Hid (Lies wr A bs.length bs) := Lib.hid (HL1.out.below hbw)
    have hne : ((Ln : Int) == 4096) = false := by simp; omega
    have c0 : wr.cell? ⟨w.heap.size, 0, none⟩ = some (.int .i64 0) := HF.out.cell 0
    have f0 := HF.out.free 0
    have c1 : wr.cell? ⟨w.heap.size, 1, none⟩ = some (.int .i64 0) := HF.out.cell 1
    have f1 := HF.out.free 1
    clear hLn hfrom hown hbw
    by_cases hlt : i < bs.length
    · have hcw : (i : Int) < (c : Int) := by omega
      have hci : ¬ c = i := by omega
      by_cases h1 : i + 1 = bs.length
      · have HR : Hid (readP bs = ([], 4, (i : Int))) := Lib.hid (HFr.out.short1 h1)
        have HE := Lib.hid (rread_end (er := 4) (i := (i : Int)) (r := readP bs) (v := .slice none 0 0) (W := wr) (by rw [HR.out]) HS1.out HB1.out HBw.out HF.out (by rw [HR.out]; exact World.ownsRow_nil _ _ _ _))
        go_wp2
        exact bodyPost_ret (v := .tuple #[.slice none 0 0, .agg #[.int .i64 4, .int .i64 (i : Int)]]) (rread_results _ rfl rfl HE.out.1) rfl HE.out.2
      · have hi1 : i + 1 < bs.length := by omega
        obtain ⟨b, o, rfl, hsl⟩ := HL.out (by omega)
        have hx0 := hsl i hlt
        have hx1 := hsl (i + 1) hi1
        obtain ⟨k, hk⟩ : ∃ k : Nat, bs[i] = (k : Int) := ⟨bs[i].toNat, by have := HBy.out _ (List.getElem_mem hlt); omega⟩
        obtain ⟨m, hmm⟩ : ∃ m : Nat, bs[i + 1] = (m : Int) := ⟨bs[i + 1].toNat, by have := HBy.out _ (List.getElem_mem hi1); omega⟩
        have hk5 : k ≤ 255 := by have := HBy.out _ (List.getElem_mem hlt); omega
        have hm5 : m ≤ 255 := by have := HBy.out _ (List.getElem_mem hi1); omega
        rw [hk] at hx0
        rw [hmm] at hx1
        have HK := Lib.hid hk
        have HM := Lib.hid hmm
        have hwk : IntKind.i64.wrap (k : Int) = (k : Int) := IntWalk.i64_in _ (by omega)
        have hwm : IntKind.i64.wrap (m : Int) = (m : Int) := IntWalk.i64_in _ (by omega)
        have HSl := Lib.hid hsl
        clear hsl hk hmm
        by_cases hlm : bs.length < i + 2 + m
        · have HR : Hid (readP bs = ([], 4, (i : Int))) := Lib.hid (HFr.out.short2 hi1 HM.out hlm)
          have HE := Lib.hid (rread_end (er := 4) (i := (i : Int)) (r := readP bs) (v := .slice none 0 0) (W := wr) (by rw [HR.out]) HS1.out HB1.out HBw.out HF.out (by rw [HR.out]; exact World.ownsRow_nil _ _ _ _))
          go_wp2
          exact bodyPost_ret (v := .tuple #[.slice none 0 0, .agg #[.int .i64 4, .int .i64 (i : Int)]]) (rread_results _ rfl rfl HE.out.1) rfl HE.out.2
        · by_cases hkk : k < 1 ∨ 5 < k
          · have HR : Hid (readP bs = ([], 6, (i : Int))) := Lib.hid (HFr.out.type hi1 HM.out (by omega) (by rw [HK.out]; omega))
            go_upto_region 8 with fail
            go_quiet (fail)
            have HE := Lib.hid (rread_end (er := 6) (i := (i : Int)) (r := readP bs) (v := .slice none 0 0) (W := wr.drewN nq) (by rw [HR.out]) HS1.out HB1.out (below_drewN HBw.out nq) HF.out (by rw [HR.out]; exact World.ownsRow_nil _ _ _ _))
            rcases hkk with hkk | hkk
            · go_wp2
              exact bodyPost_ret (v := .tuple #[.slice none 0 0, .agg #[.int .i64 6, .int .i64 (i : Int)]]) (rread_results _ rfl rfl HE.out.1) rfl HE.out.2
            · go_wp2
              exact bodyPost_ret (v := .tuple #[.slice none 0 0, .agg #[.int .i64 6, .int .i64 (i : Int)]]) (rread_results _ rfl rfl HE.out.1) rfl HE.out.2
          · have hk1 : 1 ≤ k := by omega
            have hk6 : k ≤ 5 := by omega
            have hlm2 : i + 2 + m ≤ bs.length := by omega
            have hvb : ∀ v ∈ (bs.drop (i + 2)).take m, 0 ≤ v ∧ v ≤ 255 := fun v hv => HBy.out v (List.mem_of_mem_drop (List.mem_of_mem_take hv))
            have hvl : ((bs.drop (i + 2)).take m).length = m := by simp; omega
            obtain ⟨y, hy⟩ : ∃ y, vl k ((bs.drop (i + 2)).take m) = y := ⟨_, rfl⟩
            have hyt := vl_ty hk1 hk6 hvb
            rw [hy] at hyt
            have HVB := Lib.hid hvb
            have HVL := Lib.hid hvl
            have HYe := Lib.hid hy
            have HYt := Lib.hid hyt
            clear hvb hvl hy hyt hkk hlm
            go_upto_region 8 with fail
            go_quiet (fail)
            go_upto_region 11 with fail
            have HB2 : Hid (Below W1.heap.size W1 (wr.drewN nq)) := Lib.hid (below_drewN HBw.out nq)
            have HF2 : Hid (Has (wr.drewN nq) w.heap.size 47 #[.int .i64 0, .int .i64 0]) := Lib.hid HF.out
            have HO2 : Hid ((wr.drewN nq).ownsRow W1.heap.size 31 21 (.slice A4 Ln c4) Ln (flatN L)) := Lib.hid HOwn.out
            have HS2 : Hid (Sl (wr.drewN nq) b o bs) := Lib.hid HSl.out
            clear c0 f0 c1 f1 hx0 hx1 HF HL HSl HOwn HBw
            generalize wr.drewN nq = w2 at *
            by_cases hc2 : c = i + 2
            · have hcq : (c = i + 2) ↔ (k ≤ 5) := ⟨fun _ => hk6, fun _ => hc2⟩
              have HC2 := Lib.hid hc2
              clear hc2
              go_wp2_with fail
              refine (rvalue_any k hk1 hk6 _ m _ _ HVL.out (by omega) HVB.out (by omega) (by omega) _ (fun h0 => absurd h0 (by have := HC2.out; omega))).mono ?_
              rintro e w3 ⟨rfl, hb3⟩
              rw [HYe.out]
              have HB3 : Hid (Below W1.heap.size W1 w3) := Lib.hid (HB2.out.trans (hb3.mono HB2.out.size))
              have HF3 := Lib.hid (HF2.out.below hb3)
              have HO3 := Lib.hid (own_keep HO2.out hb3)
              have HS3 := Lib.hid (HS2.out.below hb3)
              have HY0 : Hid (Has (w3.alloc (.cells zcs 31)) w3.heap.size 31 zcs) := Lib.hid (Has.new _ _ _)
              have hb4 : Below w3.heap.size w3 ((w3.alloc (.cells zcs 31)).setRow w3.heap.size y.cs) := below_setRow ((Below.refl _ w3).alloc (Nat.le_refl _) _) (Nat.le_refl _) _
              have HB4 := Lib.hid hb4
              have HY4 : Hid (Has ((w3.alloc (.cells zcs 31)).setRow w3.heap.size y.cs) w3.heap.size 31 y.cs) := Lib.hid (setRow_heap _ _ _ _ _ _ HY0.out)
              clear hb3 hb4 HB2 HF2 HO2 HS2
              go_upto_region 12 with (refine wpList_store_row rfl 31 (.tmp 8) (.tmp 69) rfl w3.heap.size y.cs rfl rfl 31 zcs HY0.out y.fit rfl y.one ?_; obtain ⟨w4, hw4⟩ : ∃ w4, ((w3.alloc (.cells zcs 31)).setRow w3.heap.size y.cs) = w4 := ⟨_, rfl⟩; have HB5 := HB4; have HY5 := HY4; rw [hw4] at HB5 HY5 ⊢; clear HB4 HY4 HY0 hw4)
              have HB6 : Hid (Below W1.heap.size W1 w4) := Lib.hid (HB3.out.trans (HB5.out.mono HB3.out.size))
              have HF6 := Lib.hid (HF3.out.below HB5.out)
              have HO6 := Lib.hid (own_keep HO3.out HB5.out)
              have HS6 := Lib.hid (HS3.out.below HB5.out)
              clear HB3 HF3 HO3 HS3 HB5
              obtain ⟨g8, hg8⟩ : ∃ g8, w3.heap.size = g8 := ⟨_, rfl⟩
              rw [hg8] at HY5 ⊢
              clear hg8
              go_upto_region 13 with (first
                | (refine wpList_load_row rfl 31 (.tmp 8) rfl g8 rfl 31 y.cs (0, 0) _ HY5.out Try.underlying31 rfl y.fit ?_)
                | (go_at_call 7; refine (rbytes_txt y HYt.out _).mono ?_; rintro e w5 ⟨A5, n5, c5, rfl, hb7, hs7⟩; have HTx := Lib.hid hs7; have HB7 : Hid (Below W1.heap.size W1 w5) := Lib.hid (HB6.out.trans (hb7.mono HB6.out.size)); have HF7 := Lib.hid (HF6.out.below hb7); have HO7 := Lib.hid (own_keep HO6.out hb7); have HS7 := Lib.hid (HS6.out.below hb7); have HY7 := Lib.hid (HY5.out.below hb7); clear hb7 hs7 HB6 HF6 HO6 HS6 HY5))
              have hpl : (piece bs i).length = 2 + m := by rw [piece_len]; exact (piece_full hi1 HM.out hlm2).2
              have HPs : Hid (∀ w2, Below w5.heap.size w5 w2 → (convert 34 9 (.slice (some ⟨b, o + i, none⟩) (2 + m) (c - i))).run Try.prog w2 = .ok (.string ⟨(byts (piece bs i)).toArray⟩) w2) := Lib.hid (fun w2 h2 => str_cel (fun v hv => HBy.out v (List.mem_of_mem_drop (List.mem_of_mem_take hv))) hpl.symm (piece_cel (HS7.out.below h2)))
              clear hpl HC2
              clear hcq
              have hcc : (i : Int) + 2 + (m : Int) ≤ (c : Int) := by omega
              have h0c : (0 : Int) ≤ (i : Int) + 2 + (m : Int) := by omega
              have hin : i ≤ ((i : Int) + 2 + (m : Int)).toNat := by omega
              have htn : ((i : Int) + 2 + (m : Int)).toNat - i = 2 + m := by omega
              by_cases hc0 : chk y = 0
              · by_cases he0 : enc y = piece bs i
                · have HTx2 : Hid (∀ w2, Below w5.heap.size w5 w2 → (convert 34 9 (.slice A5 n5 c5)).run Try.prog w2 = .ok (.string ⟨(byts (piece bs i)).toArray⟩) w2) := Lib.hid (fun w2 h2 => by have h := HTx.out w2 h2; rw [sx, if_pos hc0, he0] at h; exact h)
                  have HNx : Hid (From bs (L ++ [y]) (i + 2 + m)) := Lib.hid (by
                    have h := HFr.out.fine HBy.out hi1 HM.out hlm2 hk1 hk6 (by rw [HYe.out]; exact hc0) (by rw [HYe.out]; exact he0)
                    rw [HYe.out] at h
                    exact h)
                  clear HTx he0
                  have HTx := HTx2
                  clear HTx2
                  generalize (⟨(byts (piece bs i)).toArray⟩ : ByteArray) = ST at *
                  rw [hc0]
                  clear hc0
                  refine wp_region_held_drew (S := (fun w' => Below w5.heap.size w5 w')) (by kernel_rfl) (Below.refl _ _).drew (fun hHeld => ?_)
                  refine wpAnyH_take (i := 0) (oi := { dst := some 75, op := Go.Op.move (Go.Operand.tmp 10), type := 35, pos := "ref.go:153", after := #[], guard := none }) (v := ?_) rfl (by kernel_rfl) (by kernel_rfl) (by kernel_rfl) (fun _ _ _ h => h) (Or.inl ⟨by rfl, ?_⟩) (by assumption) ?_
                  rotate_left
                  · intro wS hSw
                    clear hSw
                    go_simp
                    try with_reducible rfl
                  try simp only [Act.put, List.setIfInBounds_toArray, List.set_cons_zero, List.set_cons_succ]
                  refine wpAnyH_take (i := 1) (oi := { dst := some 76, op := Go.Op.binOp Go.BinOp.neq 35 (Go.Operand.tmp 75) (Go.Operand.const (Go.Value.int Go.IntKind.i64 0)) 35, type := 4, pos := "ref.go:153", after := #[{ on := 0, ground := Go.Ground.data }], guard := none }) (v := ?_) rfl (by kernel_rfl) (by kernel_rfl) (by kernel_rfl) (fun _ _ _ h => h) (Or.inl ⟨by rfl, ?_⟩) (by assumption) ?_
                  rotate_left
                  · intro wS hSw
                    clear hSw
                    go_simp
                    try with_reducible rfl
                  try simp only [Act.put, List.setIfInBounds_toArray, List.set_cons_zero, List.set_cons_succ]
                  refine wpAnyH_take (i := 2) (oi := { dst := some 77, op := Go.Op.move (Go.Operand.tmp 76), type := 4, pos := "ref.go:153", after := #[{ on := 1, ground := Go.Ground.data }], guard := none }) (v := ?_) rfl (by kernel_rfl) (by kernel_rfl) (by kernel_rfl) (fun _ _ _ h => h) (Or.inl ⟨by rfl, ?_⟩) (by assumption) ?_
                  rotate_left
                  · intro wS hSw
                    clear hSw
                    go_simp
                    try with_reducible rfl
                  try simp only [Act.put, List.setIfInBounds_toArray, List.set_cons_zero, List.set_cons_succ]
                  refine wpAnyH_take (i := 3) (oi := { dst := some 78, op := Go.Op.move (Go.Operand.tmp 9), type := 34, pos := "ref.go:153", after := #[{ on := 2, ground := Go.Ground.guard }], guard := some (2, false) }) (v := ?_) rfl (by kernel_rfl) (by kernel_rfl) (by kernel_rfl) (fun _ _ _ h => h) (Or.inl ⟨by rfl, ?_⟩) (by assumption) ?_
                  rotate_left
                  · intro wS hSw
                    clear hSw
                    go_simp
                    try with_reducible rfl
                  try simp only [Act.put, List.setIfInBounds_toArray, List.set_cons_zero, List.set_cons_succ]
                  refine wpAnyH_take (i := 4) (oi := { dst := some 79, op := Go.Op.convert 34 9 (Go.Operand.tmp 78), type := 9, pos := "ref.go:153", after := #[{ on := 3, ground := Go.Ground.data }, { on := 2, ground := Go.Ground.guard }], guard := some (2, false) }) (v := ?_) rfl (by kernel_rfl) (by kernel_rfl) (by kernel_rfl) (fun _ _ _ h => h) (Or.inl ⟨by rfl, ?_⟩) (by assumption) ?_
                  rotate_left
                  · intro wS hSw
                    have hc := HTx.out wS hSw
                    clear hSw
                    go_simp
                    try with_reducible rfl
                  try simp only [Act.put, List.setIfInBounds_toArray, List.set_cons_zero, List.set_cons_succ]
                  refine wpAnyH_take (i := 5) (oi := { dst := some 80, op := Go.Op.move (Go.Operand.tmp 0), type := 34, pos := "ref.go:153", after := #[{ on := 2, ground := Go.Ground.guard }], guard := some (2, false) }) (v := ?_) rfl (by kernel_rfl) (by kernel_rfl) (by kernel_rfl) (fun _ _ _ h => h) (Or.inl ⟨by rfl, ?_⟩) (by assumption) ?_
                  rotate_left
                  · intro wS hSw
                    clear hSw
                    go_simp
                    try with_reducible rfl
                  try simp only [Act.put, List.setIfInBounds_toArray, List.set_cons_zero, List.set_cons_succ]
                  refine wpAnyH_take (i := 6) (oi := { dst := some 81, op := Go.Op.move (Go.Operand.tmp 5), type := 3, pos := "ref.go:153", after := #[{ on := 2, ground := Go.Ground.guard }], guard := some (2, false) }) (v := ?_) rfl (by kernel_rfl) (by kernel_rfl) (by kernel_rfl) (fun _ _ _ h => h) (Or.inl ⟨by rfl, ?_⟩) (by assumption) ?_
                  rotate_left
                  · intro wS hSw
                    clear hSw
                    go_simp
                    try with_reducible rfl
                  try simp only [Act.put, List.setIfInBounds_toArray, List.set_cons_zero, List.set_cons_succ]
                  refine wpAnyH_take (i := 7) (oi := { dst := some 82, op := Go.Op.move (Go.Operand.tmp 7), type := 3, pos := "ref.go:153", after := #[{ on := 2, ground := Go.Ground.guard }], guard := some (2, false) }) (v := ?_) rfl (by kernel_rfl) (by kernel_rfl) (by kernel_rfl) (fun _ _ _ h => h) (Or.inl ⟨by rfl, ?_⟩) (by assumption) ?_
                  rotate_left
                  · intro wS hSw
                    clear hSw
                    go_simp
                    try with_reducible rfl
                  try simp only [Act.put, List.setIfInBounds_toArray, List.set_cons_zero, List.set_cons_succ]
                  refine wpAnyH_take (i := 8) (oi := { dst := some 83, op := Go.Op.slice 34 (Go.Operand.tmp 80) (some (Go.Operand.tmp 81)) (some (Go.Operand.tmp 82)) none, type := 34, pos := "ref.go:153", after := #[{ on := 5, ground := Go.Ground.data }, { on := 6, ground := Go.Ground.data }, { on := 7, ground := Go.Ground.data }, { on := 2, ground := Go.Ground.guard }], guard := some (2, false) }) (v := ?_) rfl (by kernel_rfl) (by kernel_rfl) (by kernel_rfl) (fun _ _ _ h => h) (Or.inl ⟨by rfl, ?_⟩) (by assumption) ?_
                  rotate_left
                  · intro wS hSw
                    clear hSw
                    go_simp
                    try with_reducible rfl
                  try simp only [Act.put, List.setIfInBounds_toArray, List.set_cons_zero, List.set_cons_succ]
                  refine wpAnyH_take (i := 9) (oi := { dst := some 84, op := Go.Op.convert 34 9 (Go.Operand.tmp 83), type := 9, pos := "ref.go:153", after := #[{ on := 8, ground := Go.Ground.data }, { on := 2, ground := Go.Ground.guard }], guard := some (2, false) }) (v := ?_) rfl (by kernel_rfl) (by kernel_rfl) (by kernel_rfl) (fun _ _ _ h => h) (Or.inl ⟨by rfl, ?_⟩) (by assumption) ?_
                  rotate_left
                  · intro wS hSw
                    have hc := HPs.out wS hSw
                    clear hSw
                    go_simp
                    try with_reducible rfl
                  try simp only [Act.put, List.setIfInBounds_toArray, List.set_cons_zero, List.set_cons_succ]
                  refine wpAnyH_take (i := 10) (oi := { dst := some 85, op := Go.Op.binOp Go.BinOp.neq 9 (Go.Operand.tmp 79) (Go.Operand.tmp 84) 9, type := 4, pos := "ref.go:153", after := #[{ on := 4, ground := Go.Ground.data }, { on := 9, ground := Go.Ground.data }, { on := 2, ground := Go.Ground.guard }], guard := some (2, false) }) (v := ?_) rfl (by kernel_rfl) (by kernel_rfl) (by kernel_rfl) (fun _ _ _ h => h) (Or.inl ⟨by rfl, ?_⟩) (by assumption) ?_
                  rotate_left
                  · intro wS hSw
                    clear hSw
                    go_simp
                    try with_reducible rfl
                  try simp only [Act.put, List.setIfInBounds_toArray, List.set_cons_zero, List.set_cons_succ]
                  refine wpAnyH_take (i := 11) (oi := { dst := some 86, op := Go.Op.pick (Go.Operand.tmp 77) (Go.Operand.const (Go.Value.bool true)) (Go.Operand.tmp 85), type := 4, pos := "ref.go:153", after := #[{ on := 2, ground := Go.Ground.data }, { on := 10, ground := Go.Ground.data }], guard := none }) (v := ?_) rfl (by kernel_rfl) (by kernel_rfl) (by kernel_rfl) (fun _ _ _ h => h) (Or.inl ⟨by rfl, ?_⟩) (by assumption) ?_
                  rotate_left
                  · intro wS hSw
                    clear hSw
                    go_simp
                    try with_reducible rfl
                  try simp only [Act.put, List.setIfInBounds_toArray, List.set_cons_zero, List.set_cons_succ]
                  refine wpAnyH_done (by kernel_rfl) ?_ _
                  have HB8 : Hid (Below W1.heap.size W1 w5.drew) := Lib.hid (HB7.out.trans (hHeld.mono HB7.out.size))
                  have HF8 : Hid (Has w5.drew w.heap.size 47 #[.int .i64 0, .int .i64 0]) := Lib.hid (HF7.out.below hHeld)
                  have HO8 := Lib.hid (own_keep HO7.out hHeld)
                  have HY8 : Hid (Has w5.drew g8 31 y.cs) := Lib.hid (HY7.out.below hHeld)
                  clear hHeld HB7 HF7 HO7 HS7 HY7 HTx HPs
                  generalize w5.drew = w8 at *
                  obtain ⟨i0, hi0, hz0, hz1, hz2⟩ := info_parts info_nlb
                  go_wp2_with (first
                    | (refine wpList_load_row rfl 31 (.tmp 8) rfl g8 rfl 31 y.cs (0, 0) _ HY8.out Try.underlying31 rfl y.fit ?_)
                    | (refine wpList_build_nl rfl (.tmp 90) rfl y rfl ?_)
                    | (at_builtin; refine wpList_append_own _ rfl _ _ 45 rfl W1.heap.size 31 i0 nl0.v 21 80 Try.underlying45 hi0 hz0 hz1 hz2 rfl (by decide) _ _ _ rfl (HO8.out.alloc _) ⟨w8.heap.size, 0, none⟩ 1 1 y.l rfl rfl (laid_nl w8 y) y.l_one (by unfold maxLen; omega) (by omega) (by have := HB8.out.size; simp; omega) ?_; intro v9 w9 hown9 hgrow9 hnil9; obtain ⟨A9, c9, rfl⟩ := own_form hown9; have HO9 := Lib.hid hown9; have HB9 : Hid (Below W1.heap.size W1 w9) := Lib.hid (own_bel (HO8.out.alloc (.cells y.cs 31)) (HB8.out.alloc HB8.out.size _) hgrow9 (by have := HB8.out.size; simp; omega) (Nat.le_refl _)); clear hown9 hgrow9 hnil9))
                  go_roundw
                  case rel =>
                    refine ⟨L ++ [y], i + 2 + m, A9, c9, by rw [List.length_append, HLn.out]; rfl, by go_num, hlm2, by rw [List.length_append, HLn.out]; simp; omega, HNx.out, ?_, HB9.out⟩
                    have h9 := HO9.out
                    rw [List.length_append, HLn.out, flatN_app]
                    simpa [flatN] using h9
                  case measure => simp [intOf]; omega
                · have HR : Hid (readP bs = ([], 3, (i : Int))) := Lib.hid (HFr.out.form HBy.out hi1 HM.out hlm2 HK.out hk1 hk6 (by rw [HYe.out]; exact fun h => he0 h.2))
                  have HTx2 : Hid (∀ w2, Below w5.heap.size w5 w2 → (convert 34 9 (.slice A5 n5 c5)).run Try.prog w2 = .ok (.string ⟨(byts (enc y)).toArray⟩) w2) := Lib.hid (fun w2 h2 => by have h := HTx.out w2 h2; rw [sx, if_pos hc0] at h; exact h)
                  have hne0 : byts (enc y) ≠ byts (piece bs i) := fun h => he0 (byts_inj (enc_byte (HYt.out.ok hc0) hc0) (fun v hv => HBy.out v (List.mem_of_mem_drop (List.mem_of_mem_take hv))) h)
                  have hne2 : ((⟨(byts (enc y)).toArray⟩ : ByteArray).toList == (⟨(byts (piece bs i)).toArray⟩ : ByteArray).toList) = false := by
                    rw [ByteArray.toList_mk, ByteArray.toList_mk]
                    simpa using hne0
                  clear hne0
                  clear HTx he0
                  have HTx := HTx2
                  clear HTx2
                  generalize (⟨(byts (piece bs i)).toArray⟩ : ByteArray) = ST at *
                  generalize (⟨(byts (enc y)).toArray⟩ : ByteArray) = SE at *
                  rw [hc0]
                  clear hc0
                  refine wp_region_held_drew (S := (fun w' => Below w5.heap.size w5 w')) (by kernel_rfl) (Below.refl _ _).drew (fun hHeld => ?_)
                  refine wpAnyH_take (i := 0) (oi := { dst := some 75, op := Go.Op.move (Go.Operand.tmp 10), type := 35, pos := "ref.go:153", after := #[], guard := none }) (v := ?_) rfl (by kernel_rfl) (by kernel_rfl) (by kernel_rfl) (fun _ _ _ h => h) (Or.inl ⟨by rfl, ?_⟩) (by assumption) ?_
                  rotate_left
                  · intro wS hSw
                    clear hSw
                    go_simp
                    try with_reducible rfl
                  try simp only [Act.put, List.setIfInBounds_toArray, List.set_cons_zero, List.set_cons_succ]
                  refine wpAnyH_take (i := 1) (oi := { dst := some 76, op := Go.Op.binOp Go.BinOp.neq 35 (Go.Operand.tmp 75) (Go.Operand.const (Go.Value.int Go.IntKind.i64 0)) 35, type := 4, pos := "ref.go:153", after := #[{ on := 0, ground := Go.Ground.data }], guard := none }) (v := ?_) rfl (by kernel_rfl) (by kernel_rfl) (by kernel_rfl) (fun _ _ _ h => h) (Or.inl ⟨by rfl, ?_⟩) (by assumption) ?_
                  rotate_left
                  · intro wS hSw
                    clear hSw
                    go_simp
                    try with_reducible rfl
                  try simp only [Act.put, List.setIfInBounds_toArray, List.set_cons_zero, List.set_cons_succ]
                  refine wpAnyH_take (i := 2) (oi := { dst := some 77, op := Go.Op.move (Go.Operand.tmp 76), type := 4, pos := "ref.go:153", after := #[{ on := 1, ground := Go.Ground.data }], guard := none }) (v := ?_) rfl (by kernel_rfl) (by kernel_rfl) (by kernel_rfl) (fun _ _ _ h => h) (Or.inl ⟨by rfl, ?_⟩) (by assumption) ?_
                  rotate_left
                  · intro wS hSw
                    clear hSw
                    go_simp
                    try with_reducible rfl
                  try simp only [Act.put, List.setIfInBounds_toArray, List.set_cons_zero, List.set_cons_succ]
                  refine wpAnyH_take (i := 3) (oi := { dst := some 78, op := Go.Op.move (Go.Operand.tmp 9), type := 34, pos := "ref.go:153", after := #[{ on := 2, ground := Go.Ground.guard }], guard := some (2, false) }) (v := ?_) rfl (by kernel_rfl) (by kernel_rfl) (by kernel_rfl) (fun _ _ _ h => h) (Or.inl ⟨by rfl, ?_⟩) (by assumption) ?_
                  rotate_left
                  · intro wS hSw
                    clear hSw
                    go_simp
                    try with_reducible rfl
                  try simp only [Act.put, List.setIfInBounds_toArray, List.set_cons_zero, List.set_cons_succ]
                  refine wpAnyH_take (i := 4) (oi := { dst := some 79, op := Go.Op.convert 34 9 (Go.Operand.tmp 78), type := 9, pos := "ref.go:153", after := #[{ on := 3, ground := Go.Ground.data }, { on := 2, ground := Go.Ground.guard }], guard := some (2, false) }) (v := ?_) rfl (by kernel_rfl) (by kernel_rfl) (by kernel_rfl) (fun _ _ _ h => h) (Or.inl ⟨by rfl, ?_⟩) (by assumption) ?_
                  rotate_left
                  · intro wS hSw
                    have hc := HTx.out wS hSw
                    clear hSw
                    go_simp
                    try with_reducible rfl
                  try simp only [Act.put, List.setIfInBounds_toArray, List.set_cons_zero, List.set_cons_succ]
                  refine wpAnyH_take (i := 5) (oi := { dst := some 80, op := Go.Op.move (Go.Operand.tmp 0), type := 34, pos := "ref.go:153", after := #[{ on := 2, ground := Go.Ground.guard }], guard := some (2, false) }) (v := ?_) rfl (by kernel_rfl) (by kernel_rfl) (by kernel_rfl) (fun _ _ _ h => h) (Or.inl ⟨by rfl, ?_⟩) (by assumption) ?_
                  rotate_left
                  · intro wS hSw
                    clear hSw
                    go_simp
                    try with_reducible rfl
                  try simp only [Act.put, List.setIfInBounds_toArray, List.set_cons_zero, List.set_cons_succ]
                  refine wpAnyH_take (i := 6) (oi := { dst := some 81, op := Go.Op.move (Go.Operand.tmp 5), type := 3, pos := "ref.go:153", after := #[{ on := 2, ground := Go.Ground.guard }], guard := some (2, false) }) (v := ?_) rfl (by kernel_rfl) (by kernel_rfl) (by kernel_rfl) (fun _ _ _ h => h) (Or.inl ⟨by rfl, ?_⟩) (by assumption) ?_
                  rotate_left
                  · intro wS hSw
                    clear hSw
                    go_simp
                    try with_reducible rfl
                  try simp only [Act.put, List.setIfInBounds_toArray, List.set_cons_zero, List.set_cons_succ]
                  refine wpAnyH_take (i := 7) (oi := { dst := some 82, op := Go.Op.move (Go.Operand.tmp 7), type := 3, pos := "ref.go:153", after := #[{ on := 2, ground := Go.Ground.guard }], guard := some (2, false) }) (v := ?_) rfl (by kernel_rfl) (by kernel_rfl) (by kernel_rfl) (fun _ _ _ h => h) (Or.inl ⟨by rfl, ?_⟩) (by assumption) ?_
                  rotate_left
                  · intro wS hSw
                    clear hSw
                    go_simp
                    try with_reducible rfl
                  try simp only [Act.put, List.setIfInBounds_toArray, List.set_cons_zero, List.set_cons_succ]
                  refine wpAnyH_take (i := 8) (oi := { dst := some 83, op := Go.Op.slice 34 (Go.Operand.tmp 80) (some (Go.Operand.tmp 81)) (some (Go.Operand.tmp 82)) none, type := 34, pos := "ref.go:153", after := #[{ on := 5, ground := Go.Ground.data }, { on := 6, ground := Go.Ground.data }, { on := 7, ground := Go.Ground.data }, { on := 2, ground := Go.Ground.guard }], guard := some (2, false) }) (v := ?_) rfl (by kernel_rfl) (by kernel_rfl) (by kernel_rfl) (fun _ _ _ h => h) (Or.inl ⟨by rfl, ?_⟩) (by assumption) ?_
                  rotate_left
                  · intro wS hSw
                    clear hSw
                    go_simp
                    try with_reducible rfl
                  try simp only [Act.put, List.setIfInBounds_toArray, List.set_cons_zero, List.set_cons_succ]
                  refine wpAnyH_take (i := 9) (oi := { dst := some 84, op := Go.Op.convert 34 9 (Go.Operand.tmp 83), type := 9, pos := "ref.go:153", after := #[{ on := 8, ground := Go.Ground.data }, { on := 2, ground := Go.Ground.guard }], guard := some (2, false) }) (v := ?_) rfl (by kernel_rfl) (by kernel_rfl) (by kernel_rfl) (fun _ _ _ h => h) (Or.inl ⟨by rfl, ?_⟩) (by assumption) ?_
                  rotate_left
                  · intro wS hSw
                    have hc := HPs.out wS hSw
                    clear hSw
                    go_simp
                    try with_reducible rfl
                  try simp only [Act.put, List.setIfInBounds_toArray, List.set_cons_zero, List.set_cons_succ]
                  refine wpAnyH_take (i := 10) (oi := { dst := some 85, op := Go.Op.binOp Go.BinOp.neq 9 (Go.Operand.tmp 79) (Go.Operand.tmp 84) 9, type := 4, pos := "ref.go:153", after := #[{ on := 4, ground := Go.Ground.data }, { on := 9, ground := Go.Ground.data }, { on := 2, ground := Go.Ground.guard }], guard := some (2, false) }) (v := ?_) rfl (by kernel_rfl) (by kernel_rfl) (by kernel_rfl) (fun _ _ _ h => h) (Or.inl ⟨by rfl, ?_⟩) (by assumption) ?_
                  rotate_left
                  · intro wS hSw
                    clear hSw
                    go_simp
                    try with_reducible rfl
                  try simp only [Act.put, List.setIfInBounds_toArray, List.set_cons_zero, List.set_cons_succ]
                  refine wpAnyH_take (i := 11) (oi := { dst := some 86, op := Go.Op.pick (Go.Operand.tmp 77) (Go.Operand.const (Go.Value.bool true)) (Go.Operand.tmp 85), type := 4, pos := "ref.go:153", after := #[{ on := 2, ground := Go.Ground.data }, { on := 10, ground := Go.Ground.data }], guard := none }) (v := ?_) rfl (by kernel_rfl) (by kernel_rfl) (by kernel_rfl) (fun _ _ _ h => h) (Or.inl ⟨by rfl, ?_⟩) (by assumption) ?_
                  rotate_left
                  · intro wS hSw
                    clear hSw
                    go_simp
                    try with_reducible rfl
                  try simp only [Act.put, List.setIfInBounds_toArray, List.set_cons_zero, List.set_cons_succ]
                  refine wpAnyH_done (by kernel_rfl) ?_ _
                  have HB8 : Hid (Below W1.heap.size W1 w5.drew) := Lib.hid (HB7.out.trans (hHeld.mono HB7.out.size))
                  have HF8 : Hid (Has w5.drew w.heap.size 47 #[.int .i64 0, .int .i64 0]) := Lib.hid (HF7.out.below hHeld)
                  have HO8 := Lib.hid (own_keep HO7.out hHeld)
                  have HY8 : Hid (Has w5.drew g8 31 y.cs) := Lib.hid (HY7.out.below hHeld)
                  clear hHeld HB7 HF7 HO7 HS7 HY7 HTx HPs
                  generalize w5.drew = w8 at *
                  have c0 : w8.cell? ⟨w.heap.size, 0, none⟩ = some (.int .i64 0) := HF8.out.cell 0
                  have f0 := HF8.out.free 0
                  have c1 : w8.cell? ⟨w.heap.size, 1, none⟩ = some (.int .i64 0) := HF8.out.cell 1
                  have f1 := HF8.out.free 1
                  have HE := Lib.hid (rread_end (er := 3) (i := (i : Int)) (r := readP bs) (v := .slice none 0 0) (W := w8) (by rw [HR.out]) HS1.out HB1.out HB8.out HF8.out (by rw [HR.out]; exact World.ownsRow_nil _ _ _ _))
                  go_wp2
                  exact bodyPost_ret (v := .tuple #[.slice none 0 0, .agg #[.int .i64 3, .int .i64 (i : Int)]]) (rread_results _ rfl rfl HE.out.1) rfl HE.out.2
              · have HR : Hid (readP bs = ([], 3, (i : Int))) := Lib.hid (HFr.out.form HBy.out hi1 HM.out hlm2 HK.out hk1 hk6 (by rw [HYe.out]; exact fun h => hc0 h.1))
                have hcb : (chk y != 0) = true := by simpa using hc0
                refine wp_region_held_drew (S := (fun w' => Below w5.heap.size w5 w')) (by kernel_rfl) (Below.refl _ _).drew (fun hHeld => ?_)
                refine wpAnyH_take (i := 0) (oi := { dst := some 75, op := Go.Op.move (Go.Operand.tmp 10), type := 35, pos := "ref.go:153", after := #[], guard := none }) (v := ?_) rfl (by kernel_rfl) (by kernel_rfl) (by kernel_rfl) (fun _ _ _ h => h) (Or.inl ⟨by rfl, ?_⟩) (by assumption) ?_
                rotate_left
                · intro wS hSw
                  clear hSw
                  go_simp
                  try with_reducible rfl
                try simp only [Act.put, List.setIfInBounds_toArray, List.set_cons_zero, List.set_cons_succ]
                refine wpAnyH_take (i := 1) (oi := { dst := some 76, op := Go.Op.binOp Go.BinOp.neq 35 (Go.Operand.tmp 75) (Go.Operand.const (Go.Value.int Go.IntKind.i64 0)) 35, type := 4, pos := "ref.go:153", after := #[{ on := 0, ground := Go.Ground.data }], guard := none }) (v := ?_) rfl (by kernel_rfl) (by kernel_rfl) (by kernel_rfl) (fun _ _ _ h => h) (Or.inl ⟨by rfl, ?_⟩) (by assumption) ?_
                rotate_left
                · intro wS hSw
                  clear hSw
                  go_simp
                  try with_reducible rfl
                try simp only [Act.put, List.setIfInBounds_toArray, List.set_cons_zero, List.set_cons_succ]
                refine wpAnyH_take (i := 2) (oi := { dst := some 77, op := Go.Op.move (Go.Operand.tmp 76), type := 4, pos := "ref.go:153", after := #[{ on := 1, ground := Go.Ground.data }], guard := none }) (v := ?_) rfl (by kernel_rfl) (by kernel_rfl) (by kernel_rfl) (fun _ _ _ h => h) (Or.inl ⟨by rfl, ?_⟩) (by assumption) ?_
                rotate_left
                · intro wS hSw
                  clear hSw
                  go_simp
                  try with_reducible rfl
                try simp only [Act.put, List.setIfInBounds_toArray, List.set_cons_zero, List.set_cons_succ]
                refine wpAnyH_take (i := 3) (oi := { dst := some 78, op := Go.Op.move (Go.Operand.tmp 9), type := 34, pos := "ref.go:153", after := #[{ on := 2, ground := Go.Ground.guard }], guard := some (2, false) }) (v := undef) rfl (by kernel_rfl) (by kernel_rfl) (by kernel_rfl) (fun _ _ _ h => h) (Or.inr ⟨by rfl, rfl⟩) (by assumption) ?_
                try simp only [Act.put, List.setIfInBounds_toArray, List.set_cons_zero, List.set_cons_succ]
                refine wpAnyH_take (i := 4) (oi := { dst := some 79, op := Go.Op.convert 34 9 (Go.Operand.tmp 78), type := 9, pos := "ref.go:153", after := #[{ on := 3, ground := Go.Ground.data }, { on := 2, ground := Go.Ground.guard }], guard := some (2, false) }) (v := undef) rfl (by kernel_rfl) (by kernel_rfl) (by kernel_rfl) (fun _ _ _ h => h) (Or.inr ⟨by rfl, rfl⟩) (by assumption) ?_
                try simp only [Act.put, List.setIfInBounds_toArray, List.set_cons_zero, List.set_cons_succ]
                refine wpAnyH_take (i := 5) (oi := { dst := some 80, op := Go.Op.move (Go.Operand.tmp 0), type := 34, pos := "ref.go:153", after := #[{ on := 2, ground := Go.Ground.guard }], guard := some (2, false) }) (v := undef) rfl (by kernel_rfl) (by kernel_rfl) (by kernel_rfl) (fun _ _ _ h => h) (Or.inr ⟨by rfl, rfl⟩) (by assumption) ?_
                try simp only [Act.put, List.setIfInBounds_toArray, List.set_cons_zero, List.set_cons_succ]
                refine wpAnyH_take (i := 6) (oi := { dst := some 81, op := Go.Op.move (Go.Operand.tmp 5), type := 3, pos := "ref.go:153", after := #[{ on := 2, ground := Go.Ground.guard }], guard := some (2, false) }) (v := undef) rfl (by kernel_rfl) (by kernel_rfl) (by kernel_rfl) (fun _ _ _ h => h) (Or.inr ⟨by rfl, rfl⟩) (by assumption) ?_
                try simp only [Act.put, List.setIfInBounds_toArray, List.set_cons_zero, List.set_cons_succ]
                refine wpAnyH_take (i := 7) (oi := { dst := some 82, op := Go.Op.move (Go.Operand.tmp 7), type := 3, pos := "ref.go:153", after := #[{ on := 2, ground := Go.Ground.guard }], guard := some (2, false) }) (v := undef) rfl (by kernel_rfl) (by kernel_rfl) (by kernel_rfl) (fun _ _ _ h => h) (Or.inr ⟨by rfl, rfl⟩) (by assumption) ?_
                try simp only [Act.put, List.setIfInBounds_toArray, List.set_cons_zero, List.set_cons_succ]
                refine wpAnyH_take (i := 8) (oi := { dst := some 83, op := Go.Op.slice 34 (Go.Operand.tmp 80) (some (Go.Operand.tmp 81)) (some (Go.Operand.tmp 82)) none, type := 34, pos := "ref.go:153", after := #[{ on := 5, ground := Go.Ground.data }, { on := 6, ground := Go.Ground.data }, { on := 7, ground := Go.Ground.data }, { on := 2, ground := Go.Ground.guard }], guard := some (2, false) }) (v := undef) rfl (by kernel_rfl) (by kernel_rfl) (by kernel_rfl) (fun _ _ _ h => h) (Or.inr ⟨by rfl, rfl⟩) (by assumption) ?_
                try simp only [Act.put, List.setIfInBounds_toArray, List.set_cons_zero, List.set_cons_succ]
                refine wpAnyH_take (i := 9) (oi := { dst := some 84, op := Go.Op.convert 34 9 (Go.Operand.tmp 83), type := 9, pos := "ref.go:153", after := #[{ on := 8, ground := Go.Ground.data }, { on := 2, ground := Go.Ground.guard }], guard := some (2, false) }) (v := undef) rfl (by kernel_rfl) (by kernel_rfl) (by kernel_rfl) (fun _ _ _ h => h) (Or.inr ⟨by rfl, rfl⟩) (by assumption) ?_
                try simp only [Act.put, List.setIfInBounds_toArray, List.set_cons_zero, List.set_cons_succ]
                refine wpAnyH_take (i := 10) (oi := { dst := some 85, op := Go.Op.binOp Go.BinOp.neq 9 (Go.Operand.tmp 79) (Go.Operand.tmp 84) 9, type := 4, pos := "ref.go:153", after := #[{ on := 4, ground := Go.Ground.data }, { on := 9, ground := Go.Ground.data }, { on := 2, ground := Go.Ground.guard }], guard := some (2, false) }) (v := undef) rfl (by kernel_rfl) (by kernel_rfl) (by kernel_rfl) (fun _ _ _ h => h) (Or.inr ⟨by rfl, rfl⟩) (by assumption) ?_
                try simp only [Act.put, List.setIfInBounds_toArray, List.set_cons_zero, List.set_cons_succ]
                refine wpAnyH_take (i := 11) (oi := { dst := some 86, op := Go.Op.pick (Go.Operand.tmp 77) (Go.Operand.const (Go.Value.bool true)) (Go.Operand.tmp 85), type := 4, pos := "ref.go:153", after := #[{ on := 2, ground := Go.Ground.data }, { on := 10, ground := Go.Ground.data }], guard := none }) (v := ?_) rfl (by kernel_rfl) (by kernel_rfl) (by kernel_rfl) (fun _ _ _ h => h) (Or.inl ⟨by rfl, ?_⟩) (by assumption) ?_
                rotate_left
                · intro wS hSw
                  clear hSw
                  go_simp
                  try with_reducible rfl
                try simp only [Act.put, List.setIfInBounds_toArray, List.set_cons_zero, List.set_cons_succ]
                refine wpAnyH_done (by kernel_rfl) ?_ _
                have HB8 : Hid (Below W1.heap.size W1 w5.drew) := Lib.hid (HB7.out.trans (hHeld.mono HB7.out.size))
                have HF8 : Hid (Has w5.drew w.heap.size 47 #[.int .i64 0, .int .i64 0]) := Lib.hid (HF7.out.below hHeld)
                have HO8 := Lib.hid (own_keep HO7.out hHeld)
                have HY8 : Hid (Has w5.drew g8 31 y.cs) := Lib.hid (HY7.out.below hHeld)
                clear hHeld HB7 HF7 HO7 HS7 HY7 HTx HPs
                generalize w5.drew = w8 at *
                have c0 : w8.cell? ⟨w.heap.size, 0, none⟩ = some (.int .i64 0) := HF8.out.cell 0
                have f0 := HF8.out.free 0
                have c1 : w8.cell? ⟨w.heap.size, 1, none⟩ = some (.int .i64 0) := HF8.out.cell 1
                have f1 := HF8.out.free 1
                have HE := Lib.hid (rread_end (er := 3) (i := (i : Int)) (r := readP bs) (v := .slice none 0 0) (W := w8) (by rw [HR.out]) HS1.out HB1.out HB8.out HF8.out (by rw [HR.out]; exact World.ownsRow_nil _ _ _ _))
                go_wp2
                exact bodyPost_ret (v := .tuple #[.slice none 0 0, .agg #[.int .i64 3, .int .i64 (i : Int)]]) (rread_results _ rfl rfl HE.out.1) rfl HE.out.2
            · go_wp2_with fail
              refine (rvalue_any k hk1 hk6 _ m _ _ HVL.out (by omega) HVB.out (by omega) (by omega) _ (rest_lies HS2.out hlm2)).mono ?_
              rintro e w3 ⟨rfl, hb3⟩
              rw [HYe.out]
              have HB3 : Hid (Below W1.heap.size W1 w3) := Lib.hid (HB2.out.trans (hb3.mono HB2.out.size))
              have HF3 := Lib.hid (HF2.out.below hb3)
              have HO3 := Lib.hid (own_keep HO2.out hb3)
              have HS3 := Lib.hid (HS2.out.below hb3)
              have HY0 : Hid (Has (w3.alloc (.cells zcs 31)) w3.heap.size 31 zcs) := Lib.hid (Has.new _ _ _)
              have hb4 : Below w3.heap.size w3 ((w3.alloc (.cells zcs 31)).setRow w3.heap.size y.cs) := below_setRow ((Below.refl _ w3).alloc (Nat.le_refl _) _) (Nat.le_refl _) _
              have HB4 := Lib.hid hb4
              have HY4 : Hid (Has ((w3.alloc (.cells zcs 31)).setRow w3.heap.size y.cs) w3.heap.size 31 y.cs) := Lib.hid (setRow_heap _ _ _ _ _ _ HY0.out)
              clear hb3 hb4 HB2 HF2 HO2 HS2
              go_upto_region 12 with (refine wpList_store_row rfl 31 (.tmp 8) (.tmp 69) rfl w3.heap.size y.cs rfl rfl 31 zcs HY0.out y.fit rfl y.one ?_; obtain ⟨w4, hw4⟩ : ∃ w4, ((w3.alloc (.cells zcs 31)).setRow w3.heap.size y.cs) = w4 := ⟨_, rfl⟩; have HB5 := HB4; have HY5 := HY4; rw [hw4] at HB5 HY5 ⊢; clear HB4 HY4 HY0 hw4)
              have HB6 : Hid (Below W1.heap.size W1 w4) := Lib.hid (HB3.out.trans (HB5.out.mono HB3.out.size))
              have HF6 := Lib.hid (HF3.out.below HB5.out)
              have HO6 := Lib.hid (own_keep HO3.out HB5.out)
              have HS6 := Lib.hid (HS3.out.below HB5.out)
              clear HB3 HF3 HO3 HS3 HB5
              obtain ⟨g8, hg8⟩ : ∃ g8, w3.heap.size = g8 := ⟨_, rfl⟩
              rw [hg8] at HY5 ⊢
              clear hg8
              go_upto_region 13 with (first
                | (refine wpList_load_row rfl 31 (.tmp 8) rfl g8 rfl 31 y.cs (0, 0) _ HY5.out Try.underlying31 rfl y.fit ?_)
                | (go_at_call 7; refine (rbytes_txt y HYt.out _).mono ?_; rintro e w5 ⟨A5, n5, c5, rfl, hb7, hs7⟩; have HTx := Lib.hid hs7; have HB7 : Hid (Below W1.heap.size W1 w5) := Lib.hid (HB6.out.trans (hb7.mono HB6.out.size)); have HF7 := Lib.hid (HF6.out.below hb7); have HO7 := Lib.hid (own_keep HO6.out hb7); have HS7 := Lib.hid (HS6.out.below hb7); have HY7 := Lib.hid (HY5.out.below hb7); clear hb7 hs7 HB6 HF6 HO6 HS6 HY5))
              have hpl : (piece bs i).length = 2 + m := by rw [piece_len]; exact (piece_full hi1 HM.out hlm2).2
              have HPs : Hid (∀ w2, Below w5.heap.size w5 w2 → (convert 34 9 (.slice (some ⟨b, o + i, none⟩) (2 + m) (c - i))).run Try.prog w2 = .ok (.string ⟨(byts (piece bs i)).toArray⟩) w2) := Lib.hid (fun w2 h2 => str_cel (fun v hv => HBy.out v (List.mem_of_mem_drop (List.mem_of_mem_take hv))) hpl.symm (piece_cel (HS7.out.below h2)))
              clear hpl hc2
              have hcc : (i : Int) + 2 + (m : Int) ≤ (c : Int) := by omega
              have h0c : (0 : Int) ≤ (i : Int) + 2 + (m : Int) := by omega
              have hin : i ≤ ((i : Int) + 2 + (m : Int)).toNat := by omega
              have htn : ((i : Int) + 2 + (m : Int)).toNat - i = 2 + m := by omega
              by_cases hc0 : chk y = 0
              · by_cases he0 : enc y = piece bs i
                · have HTx2 : Hid (∀ w2, Below w5.heap.size w5 w2 → (convert 34 9 (.slice A5 n5 c5)).run Try.prog w2 = .ok (.string ⟨(byts (piece bs i)).toArray⟩) w2) := Lib.hid (fun w2 h2 => by have h := HTx.out w2 h2; rw [sx, if_pos hc0, he0] at h; exact h)
                  have HNx : Hid (From bs (L ++ [y]) (i + 2 + m)) := Lib.hid (by
                    have h := HFr.out.fine HBy.out hi1 HM.out hlm2 hk1 hk6 (by rw [HYe.out]; exact hc0) (by rw [HYe.out]; exact he0)
                    rw [HYe.out] at h
                    exact h)
                  clear HTx he0
                  have HTx := HTx2
                  clear HTx2
                  generalize (⟨(byts (piece bs i)).toArray⟩ : ByteArray) = ST at *
                  rw [hc0]
                  clear hc0
                  refine wp_region_held_drew (S := (fun w' => Below w5.heap.size w5 w')) (by kernel_rfl) (Below.refl _ _).drew (fun hHeld => ?_)
                  refine wpAnyH_take (i := 0) (oi := { dst := some 75, op := Go.Op.move (Go.Operand.tmp 10), type := 35, pos := "ref.go:153", after := #[], guard := none }) (v := ?_) rfl (by kernel_rfl) (by kernel_rfl) (by kernel_rfl) (fun _ _ _ h => h) (Or.inl ⟨by rfl, ?_⟩) (by assumption) ?_
                  rotate_left
                  · intro wS hSw
                    clear hSw
                    go_simp
                    try with_reducible rfl
                  try simp only [Act.put, List.setIfInBounds_toArray, List.set_cons_zero, List.set_cons_succ]
                  refine wpAnyH_take (i := 1) (oi := { dst := some 76, op := Go.Op.binOp Go.BinOp.neq 35 (Go.Operand.tmp 75) (Go.Operand.const (Go.Value.int Go.IntKind.i64 0)) 35, type := 4, pos := "ref.go:153", after := #[{ on := 0, ground := Go.Ground.data }], guard := none }) (v := ?_) rfl (by kernel_rfl) (by kernel_rfl) (by kernel_rfl) (fun _ _ _ h => h) (Or.inl ⟨by rfl, ?_⟩) (by assumption) ?_
                  rotate_left
                  · intro wS hSw
                    clear hSw
                    go_simp
                    try with_reducible rfl
                  try simp only [Act.put, List.setIfInBounds_toArray, List.set_cons_zero, List.set_cons_succ]
                  refine wpAnyH_take (i := 2) (oi := { dst := some 77, op := Go.Op.move (Go.Operand.tmp 76), type := 4, pos := "ref.go:153", after := #[{ on := 1, ground := Go.Ground.data }], guard := none }) (v := ?_) rfl (by kernel_rfl) (by kernel_rfl) (by kernel_rfl) (fun _ _ _ h => h) (Or.inl ⟨by rfl, ?_⟩) (by assumption) ?_
                  rotate_left
                  · intro wS hSw
                    clear hSw
                    go_simp
                    try with_reducible rfl
                  try simp only [Act.put, List.setIfInBounds_toArray, List.set_cons_zero, List.set_cons_succ]
                  refine wpAnyH_take (i := 3) (oi := { dst := some 78, op := Go.Op.move (Go.Operand.tmp 9), type := 34, pos := "ref.go:153", after := #[{ on := 2, ground := Go.Ground.guard }], guard := some (2, false) }) (v := ?_) rfl (by kernel_rfl) (by kernel_rfl) (by kernel_rfl) (fun _ _ _ h => h) (Or.inl ⟨by rfl, ?_⟩) (by assumption) ?_
                  rotate_left
                  · intro wS hSw
                    clear hSw
                    go_simp
                    try with_reducible rfl
                  try simp only [Act.put, List.setIfInBounds_toArray, List.set_cons_zero, List.set_cons_succ]
                  refine wpAnyH_take (i := 4) (oi := { dst := some 79, op := Go.Op.convert 34 9 (Go.Operand.tmp 78), type := 9, pos := "ref.go:153", after := #[{ on := 3, ground := Go.Ground.data }, { on := 2, ground := Go.Ground.guard }], guard := some (2, false) }) (v := ?_) rfl (by kernel_rfl) (by kernel_rfl) (by kernel_rfl) (fun _ _ _ h => h) (Or.inl ⟨by rfl, ?_⟩) (by assumption) ?_
                  rotate_left
                  · intro wS hSw
                    have hc := HTx.out wS hSw
                    clear hSw
                    go_simp
                    try with_reducible rfl
                  try simp only [Act.put, List.setIfInBounds_toArray, List.set_cons_zero, List.set_cons_succ]
                  refine wpAnyH_take (i := 5) (oi := { dst := some 80, op := Go.Op.move (Go.Operand.tmp 0), type := 34, pos := "ref.go:153", after := #[{ on := 2, ground := Go.Ground.guard }], guard := some (2, false) }) (v := ?_) rfl (by kernel_rfl) (by kernel_rfl) (by kernel_rfl) (fun _ _ _ h => h) (Or.inl ⟨by rfl, ?_⟩) (by assumption) ?_
                  rotate_left
                  · intro wS hSw
                    clear hSw
                    go_simp
                    try with_reducible rfl
                  try simp only [Act.put, List.setIfInBounds_toArray, List.set_cons_zero, List.set_cons_succ]
                  refine wpAnyH_take (i := 6) (oi := { dst := some 81, op := Go.Op.move (Go.Operand.tmp 5), type := 3, pos := "ref.go:153", after := #[{ on := 2, ground := Go.Ground.guard }], guard := some (2, false) }) (v := ?_) rfl (by kernel_rfl) (by kernel_rfl) (by kernel_rfl) (fun _ _ _ h => h) (Or.inl ⟨by rfl, ?_⟩) (by assumption) ?_
                  rotate_left
                  · intro wS hSw
                    clear hSw
                    go_simp
                    try with_reducible rfl
                  try simp only [Act.put, List.setIfInBounds_toArray, List.set_cons_zero, List.set_cons_succ]
                  refine wpAnyH_take (i := 7) (oi := { dst := some 82, op := Go.Op.move (Go.Operand.tmp 7), type := 3, pos := "ref.go:153", after := #[{ on := 2, ground := Go.Ground.guard }], guard := some (2, false) }) (v := ?_) rfl (by kernel_rfl) (by kernel_rfl) (by kernel_rfl) (fun _ _ _ h => h) (Or.inl ⟨by rfl, ?_⟩) (by assumption) ?_
                  rotate_left
                  · intro wS hSw
                    clear hSw
                    go_simp
                    try with_reducible rfl
                  try simp only [Act.put, List.setIfInBounds_toArray, List.set_cons_zero, List.set_cons_succ]
                  refine wpAnyH_take (i := 8) (oi := { dst := some 83, op := Go.Op.slice 34 (Go.Operand.tmp 80) (some (Go.Operand.tmp 81)) (some (Go.Operand.tmp 82)) none, type := 34, pos := "ref.go:153", after := #[{ on := 5, ground := Go.Ground.data }, { on := 6, ground := Go.Ground.data }, { on := 7, ground := Go.Ground.data }, { on := 2, ground := Go.Ground.guard }], guard := some (2, false) }) (v := ?_) rfl (by kernel_rfl) (by kernel_rfl) (by kernel_rfl) (fun _ _ _ h => h) (Or.inl ⟨by rfl, ?_⟩) (by assumption) ?_
                  rotate_left
                  · intro wS hSw
                    clear hSw
                    go_simp
                    try with_reducible rfl
                  try simp only [Act.put, List.setIfInBounds_toArray, List.set_cons_zero, List.set_cons_succ]
                  refine wpAnyH_take (i := 9) (oi := { dst := some 84, op := Go.Op.convert 34 9 (Go.Operand.tmp 83), type := 9, pos := "ref.go:153", after := #[{ on := 8, ground := Go.Ground.data }, { on := 2, ground := Go.Ground.guard }], guard := some (2, false) }) (v := ?_) rfl (by kernel_rfl) (by kernel_rfl) (by kernel_rfl) (fun _ _ _ h => h) (Or.inl ⟨by rfl, ?_⟩) (by assumption) ?_
                  rotate_left
                  · intro wS hSw
                    have hc := HPs.out wS hSw
                    clear hSw
                    go_simp
                    try with_reducible rfl
                  try simp only [Act.put, List.setIfInBounds_toArray, List.set_cons_zero, List.set_cons_succ]
                  refine wpAnyH_take (i := 10) (oi := { dst := some 85, op := Go.Op.binOp Go.BinOp.neq 9 (Go.Operand.tmp 79) (Go.Operand.tmp 84) 9, type := 4, pos := "ref.go:153", after := #[{ on := 4, ground := Go.Ground.data }, { on := 9, ground := Go.Ground.data }, { on := 2, ground := Go.Ground.guard }], guard := some (2, false) }) (v := ?_) rfl (by kernel_rfl) (by kernel_rfl) (by kernel_rfl) (fun _ _ _ h => h) (Or.inl ⟨by rfl, ?_⟩) (by assumption) ?_
                  rotate_left
                  · intro wS hSw
                    clear hSw
                    go_simp
                    try with_reducible rfl
                  try simp only [Act.put, List.setIfInBounds_toArray, List.set_cons_zero, List.set_cons_succ]
                  refine wpAnyH_take (i := 11) (oi := { dst := some 86, op := Go.Op.pick (Go.Operand.tmp 77) (Go.Operand.const (Go.Value.bool true)) (Go.Operand.tmp 85), type := 4, pos := "ref.go:153", after := #[{ on := 2, ground := Go.Ground.data }, { on := 10, ground := Go.Ground.data }], guard := none }) (v := ?_) rfl (by kernel_rfl) (by kernel_rfl) (by kernel_rfl) (fun _ _ _ h => h) (Or.inl ⟨by rfl, ?_⟩) (by assumption) ?_
                  rotate_left
                  · intro wS hSw
                    clear hSw
                    go_simp
                    try with_reducible rfl
                  try simp only [Act.put, List.setIfInBounds_toArray, List.set_cons_zero, List.set_cons_succ]
                  refine wpAnyH_done (by kernel_rfl) ?_ _
                  have HB8 : Hid (Below W1.heap.size W1 w5.drew) := Lib.hid (HB7.out.trans (hHeld.mono HB7.out.size))
                  have HF8 : Hid (Has w5.drew w.heap.size 47 #[.int .i64 0, .int .i64 0]) := Lib.hid (HF7.out.below hHeld)
                  have HO8 := Lib.hid (own_keep HO7.out hHeld)
                  have HY8 : Hid (Has w5.drew g8 31 y.cs) := Lib.hid (HY7.out.below hHeld)
                  clear hHeld HB7 HF7 HO7 HS7 HY7 HTx HPs
                  generalize w5.drew = w8 at *
                  obtain ⟨i0, hi0, hz0, hz1, hz2⟩ := info_parts info_nlb
                  go_wp2_with (first
                    | (refine wpList_load_row rfl 31 (.tmp 8) rfl g8 rfl 31 y.cs (0, 0) _ HY8.out Try.underlying31 rfl y.fit ?_)
                    | (refine wpList_build_nl rfl (.tmp 90) rfl y rfl ?_)
                    | (at_builtin; refine wpList_append_own _ rfl _ _ 45 rfl W1.heap.size 31 i0 nl0.v 21 80 Try.underlying45 hi0 hz0 hz1 hz2 rfl (by decide) _ _ _ rfl (HO8.out.alloc _) ⟨w8.heap.size, 0, none⟩ 1 1 y.l rfl rfl (laid_nl w8 y) y.l_one (by unfold maxLen; omega) (by omega) (by have := HB8.out.size; simp; omega) ?_; intro v9 w9 hown9 hgrow9 hnil9; obtain ⟨A9, c9, rfl⟩ := own_form hown9; have HO9 := Lib.hid hown9; have HB9 : Hid (Below W1.heap.size W1 w9) := Lib.hid (own_bel (HO8.out.alloc (.cells y.cs 31)) (HB8.out.alloc HB8.out.size _) hgrow9 (by have := HB8.out.size; simp; omega) (Nat.le_refl _)); clear hown9 hgrow9 hnil9))
                  go_roundw
                  case rel =>
                    refine ⟨L ++ [y], i + 2 + m, A9, c9, by rw [List.length_append, HLn.out]; rfl, by go_num, hlm2, by rw [List.length_append, HLn.out]; simp; omega, HNx.out, ?_, HB9.out⟩
                    have h9 := HO9.out
                    rw [List.length_append, HLn.out, flatN_app]
                    simpa [flatN] using h9
                  case measure => simp [intOf]; omega
                · have HR : Hid (readP bs = ([], 3, (i : Int))) := Lib.hid (HFr.out.form HBy.out hi1 HM.out hlm2 HK.out hk1 hk6 (by rw [HYe.out]; exact fun h => he0 h.2))
                  have HTx2 : Hid (∀ w2, Below w5.heap.size w5 w2 → (convert 34 9 (.slice A5 n5 c5)).run Try.prog w2 = .ok (.string ⟨(byts (enc y)).toArray⟩) w2) := Lib.hid (fun w2 h2 => by have h := HTx.out w2 h2; rw [sx, if_pos hc0] at h; exact h)
                  have hne0 : byts (enc y) ≠ byts (piece bs i) := fun h => he0 (byts_inj (enc_byte (HYt.out.ok hc0) hc0) (fun v hv => HBy.out v (List.mem_of_mem_drop (List.mem_of_mem_take hv))) h)
                  have hne2 : ((⟨(byts (enc y)).toArray⟩ : ByteArray).toList == (⟨(byts (piece bs i)).toArray⟩ : ByteArray).toList) = false := by
                    rw [ByteArray.toList_mk, ByteArray.toList_mk]
                    simpa using hne0
                  clear hne0
                  clear HTx he0
                  have HTx := HTx2
                  clear HTx2
                  generalize (⟨(byts (piece bs i)).toArray⟩ : ByteArray) = ST at *
                  generalize (⟨(byts (enc y)).toArray⟩ : ByteArray) = SE at *
                  rw [hc0]
                  clear hc0
                  refine wp_region_held_drew (S := (fun w' => Below w5.heap.size w5 w')) (by kernel_rfl) (Below.refl _ _).drew (fun hHeld => ?_)
                  refine wpAnyH_take (i := 0) (oi := { dst := some 75, op := Go.Op.move (Go.Operand.tmp 10), type := 35, pos := "ref.go:153", after := #[], guard := none }) (v := ?_) rfl (by kernel_rfl) (by kernel_rfl) (by kernel_rfl) (fun _ _ _ h => h) (Or.inl ⟨by rfl, ?_⟩) (by assumption) ?_
                  rotate_left
                  · intro wS hSw
                    clear hSw
                    go_simp
                    try with_reducible rfl
                  try simp only [Act.put, List.setIfInBounds_toArray, List.set_cons_zero, List.set_cons_succ]
                  refine wpAnyH_take (i := 1) (oi := { dst := some 76, op := Go.Op.binOp Go.BinOp.neq 35 (Go.Operand.tmp 75) (Go.Operand.const (Go.Value.int Go.IntKind.i64 0)) 35, type := 4, pos := "ref.go:153", after := #[{ on := 0, ground := Go.Ground.data }], guard := none }) (v := ?_) rfl (by kernel_rfl) (by kernel_rfl) (by kernel_rfl) (fun _ _ _ h => h) (Or.inl ⟨by rfl, ?_⟩) (by assumption) ?_
                  rotate_left
                  · intro wS hSw
                    clear hSw
                    go_simp
                    try with_reducible rfl
                  try simp only [Act.put, List.setIfInBounds_toArray, List.set_cons_zero, List.set_cons_succ]
                  refine wpAnyH_take (i := 2) (oi := { dst := some 77, op := Go.Op.move (Go.Operand.tmp 76), type := 4, pos := "ref.go:153", after := #[{ on := 1, ground := Go.Ground.data }], guard := none }) (v := ?_) rfl (by kernel_rfl) (by kernel_rfl) (by kernel_rfl) (fun _ _ _ h => h) (Or.inl ⟨by rfl, ?_⟩) (by assumption) ?_
                  rotate_left
                  · intro wS hSw
                    clear hSw
                    go_simp
                    try with_reducible rfl
                  try simp only [Act.put, List.setIfInBounds_toArray, List.set_cons_zero, List.set_cons_succ]
                  refine wpAnyH_take (i := 3) (oi := { dst := some 78, op := Go.Op.move (Go.Operand.tmp 9), type := 34, pos := "ref.go:153", after := #[{ on := 2, ground := Go.Ground.guard }], guard := some (2, false) }) (v := ?_) rfl (by kernel_rfl) (by kernel_rfl) (by kernel_rfl) (fun _ _ _ h => h) (Or.inl ⟨by rfl, ?_⟩) (by assumption) ?_
                  rotate_left
                  · intro wS hSw
                    clear hSw
                    go_simp
                    try with_reducible rfl
                  try simp only [Act.put, List.setIfInBounds_toArray, List.set_cons_zero, List.set_cons_succ]
                  refine wpAnyH_take (i := 4) (oi := { dst := some 79, op := Go.Op.convert 34 9 (Go.Operand.tmp 78), type := 9, pos := "ref.go:153", after := #[{ on := 3, ground := Go.Ground.data }, { on := 2, ground := Go.Ground.guard }], guard := some (2, false) }) (v := ?_) rfl (by kernel_rfl) (by kernel_rfl) (by kernel_rfl) (fun _ _ _ h => h) (Or.inl ⟨by rfl, ?_⟩) (by assumption) ?_
                  rotate_left
                  · intro wS hSw
                    have hc := HTx.out wS hSw
                    clear hSw
                    go_simp
                    try with_reducible rfl
                  try simp only [Act.put, List.setIfInBounds_toArray, List.set_cons_zero, List.set_cons_succ]
                  refine wpAnyH_take (i := 5) (oi := { dst := some 80, op := Go.Op.move (Go.Operand.tmp 0), type := 34, pos := "ref.go:153", after := #[{ on := 2, ground := Go.Ground.guard }], guard := some (2, false) }) (v := ?_) rfl (by kernel_rfl) (by kernel_rfl) (by kernel_rfl) (fun _ _ _ h => h) (Or.inl ⟨by rfl, ?_⟩) (by assumption) ?_
                  rotate_left
                  · intro wS hSw
                    clear hSw
                    go_simp
                    try with_reducible rfl
                  try simp only [Act.put, List.setIfInBounds_toArray, List.set_cons_zero, List.set_cons_succ]
                  refine wpAnyH_take (i := 6) (oi := { dst := some 81, op := Go.Op.move (Go.Operand.tmp 5), type := 3, pos := "ref.go:153", after := #[{ on := 2, ground := Go.Ground.guard }], guard := some (2, false) }) (v := ?_) rfl (by kernel_rfl) (by kernel_rfl) (by kernel_rfl) (fun _ _ _ h => h) (Or.inl ⟨by rfl, ?_⟩) (by assumption) ?_
                  rotate_left
                  · intro wS hSw
                    clear hSw
                    go_simp
                    try with_reducible rfl
                  try simp only [Act.put, List.setIfInBounds_toArray, List.set_cons_zero, List.set_cons_succ]
                  refine wpAnyH_take (i := 7) (oi := { dst := some 82, op := Go.Op.move (Go.Operand.tmp 7), type := 3, pos := "ref.go:153", after := #[{ on := 2, ground := Go.Ground.guard }], guard := some (2, false) }) (v := ?_) rfl (by kernel_rfl) (by kernel_rfl) (by kernel_rfl) (fun _ _ _ h => h) (Or.inl ⟨by rfl, ?_⟩) (by assumption) ?_
                  rotate_left
                  · intro wS hSw
                    clear hSw
                    go_simp
                    try with_reducible rfl
                  try simp only [Act.put, List.setIfInBounds_toArray, List.set_cons_zero, List.set_cons_succ]
                  refine wpAnyH_take (i := 8) (oi := { dst := some 83, op := Go.Op.slice 34 (Go.Operand.tmp 80) (some (Go.Operand.tmp 81)) (some (Go.Operand.tmp 82)) none, type := 34, pos := "ref.go:153", after := #[{ on := 5, ground := Go.Ground.data }, { on := 6, ground := Go.Ground.data }, { on := 7, ground := Go.Ground.data }, { on := 2, ground := Go.Ground.guard }], guard := some (2, false) }) (v := ?_) rfl (by kernel_rfl) (by kernel_rfl) (by kernel_rfl) (fun _ _ _ h => h) (Or.inl ⟨by rfl, ?_⟩) (by assumption) ?_
                  rotate_left
                  · intro wS hSw
                    clear hSw
                    go_simp
                    try with_reducible rfl
                  try simp only [Act.put, List.setIfInBounds_toArray, List.set_cons_zero, List.set_cons_succ]
                  refine wpAnyH_take (i := 9) (oi := { dst := some 84, op := Go.Op.convert 34 9 (Go.Operand.tmp 83), type := 9, pos := "ref.go:153", after := #[{ on := 8, ground := Go.Ground.data }, { on := 2, ground := Go.Ground.guard }], guard := some (2, false) }) (v := ?_) rfl (by kernel_rfl) (by kernel_rfl) (by kernel_rfl) (fun _ _ _ h => h) (Or.inl ⟨by rfl, ?_⟩) (by assumption) ?_
                  rotate_left
                  · intro wS hSw
                    have hc := HPs.out wS hSw
                    clear hSw
                    go_simp
                    try with_reducible rfl
                  try simp only [Act.put, List.setIfInBounds_toArray, List.set_cons_zero, List.set_cons_succ]
                  refine wpAnyH_take (i := 10) (oi := { dst := some 85, op := Go.Op.binOp Go.BinOp.neq 9 (Go.Operand.tmp 79) (Go.Operand.tmp 84) 9, type := 4, pos := "ref.go:153", after := #[{ on := 4, ground := Go.Ground.data }, { on := 9, ground := Go.Ground.data }, { on := 2, ground := Go.Ground.guard }], guard := some (2, false) }) (v := ?_) rfl (by kernel_rfl) (by kernel_rfl) (by kernel_rfl) (fun _ _ _ h => h) (Or.inl ⟨by rfl, ?_⟩) (by assumption) ?_
                  rotate_left
                  · intro wS hSw
                    clear hSw
                    go_simp
                    try with_reducible rfl
                  try simp only [Act.put, List.setIfInBounds_toArray, List.set_cons_zero, List.set_cons_succ]
                  refine wpAnyH_take (i := 11) (oi := { dst := some 86, op := Go.Op.pick (Go.Operand.tmp 77) (Go.Operand.const (Go.Value.bool true)) (Go.Operand.tmp 85), type := 4, pos := "ref.go:153", after := #[{ on := 2, ground := Go.Ground.data }, { on := 10, ground := Go.Ground.data }], guard := none }) (v := ?_) rfl (by kernel_rfl) (by kernel_rfl) (by kernel_rfl) (fun _ _ _ h => h) (Or.inl ⟨by rfl, ?_⟩) (by assumption) ?_
                  rotate_left
                  · intro wS hSw
                    clear hSw
                    go_simp
                    try with_reducible rfl
                  try simp only [Act.put, List.setIfInBounds_toArray, List.set_cons_zero, List.set_cons_succ]
                  refine wpAnyH_done (by kernel_rfl) ?_ _
                  have HB8 : Hid (Below W1.heap.size W1 w5.drew) := Lib.hid (HB7.out.trans (hHeld.mono HB7.out.size))
                  have HF8 : Hid (Has w5.drew w.heap.size 47 #[.int .i64 0, .int .i64 0]) := Lib.hid (HF7.out.below hHeld)
                  have HO8 := Lib.hid (own_keep HO7.out hHeld)
                  have HY8 : Hid (Has w5.drew g8 31 y.cs) := Lib.hid (HY7.out.below hHeld)
                  clear hHeld HB7 HF7 HO7 HS7 HY7 HTx HPs
                  generalize w5.drew = w8 at *
                  have c0 : w8.cell? ⟨w.heap.size, 0, none⟩ = some (.int .i64 0) := HF8.out.cell 0
                  have f0 := HF8.out.free 0
                  have c1 : w8.cell? ⟨w.heap.size, 1, none⟩ = some (.int .i64 0) := HF8.out.cell 1
                  have f1 := HF8.out.free 1
                  have HE := Lib.hid (rread_end (er := 3) (i := (i : Int)) (r := readP bs) (v := .slice none 0 0) (W := w8) (by rw [HR.out]) HS1.out HB1.out HB8.out HF8.out (by rw [HR.out]; exact World.ownsRow_nil _ _ _ _))
                  go_wp2
                  exact bodyPost_ret (v := .tuple #[.slice none 0 0, .agg #[.int .i64 3, .int .i64 (i : Int)]]) (rread_results _ rfl rfl HE.out.1) rfl HE.out.2
              · have HR : Hid (readP bs = ([], 3, (i : Int))) := Lib.hid (HFr.out.form HBy.out hi1 HM.out hlm2 HK.out hk1 hk6 (by rw [HYe.out]; exact fun h => hc0 h.1))
                have hcb : (chk y != 0) = true := by simpa using hc0
                refine wp_region_held_drew (S := (fun w' => Below w5.heap.size w5 w')) (by kernel_rfl) (Below.refl _ _).drew (fun hHeld => ?_)
                refine wpAnyH_take (i := 0) (oi := { dst := some 75, op := Go.Op.move (Go.Operand.tmp 10), type := 35, pos := "ref.go:153", after := #[], guard := none }) (v := ?_) rfl (by kernel_rfl) (by kernel_rfl) (by kernel_rfl) (fun _ _ _ h => h) (Or.inl ⟨by rfl, ?_⟩) (by assumption) ?_
                rotate_left
                · intro wS hSw
                  clear hSw
                  go_simp
                  try with_reducible rfl
                try simp only [Act.put, List.setIfInBounds_toArray, List.set_cons_zero, List.set_cons_succ]
                refine wpAnyH_take (i := 1) (oi := { dst := some 76, op := Go.Op.binOp Go.BinOp.neq 35 (Go.Operand.tmp 75) (Go.Operand.const (Go.Value.int Go.IntKind.i64 0)) 35, type := 4, pos := "ref.go:153", after := #[{ on := 0, ground := Go.Ground.data }], guard := none }) (v := ?_) rfl (by kernel_rfl) (by kernel_rfl) (by kernel_rfl) (fun _ _ _ h => h) (Or.inl ⟨by rfl, ?_⟩) (by assumption) ?_
                rotate_left
                · intro wS hSw
                  clear hSw
                  go_simp
                  try with_reducible rfl
                try simp only [Act.put, List.setIfInBounds_toArray, List.set_cons_zero, List.set_cons_succ]
                refine wpAnyH_take (i := 2) (oi := { dst := some 77, op := Go.Op.move (Go.Operand.tmp 76), type := 4, pos := "ref.go:153", after := #[{ on := 1, ground := Go.Ground.data }], guard := none }) (v := ?_) rfl (by kernel_rfl) (by kernel_rfl) (by kernel_rfl) (fun _ _ _ h => h) (Or.inl ⟨by rfl, ?_⟩) (by assumption) ?_
                rotate_left
                · intro wS hSw
                  clear hSw
                  go_simp
                  try with_reducible rfl
                try simp only [Act.put, List.setIfInBounds_toArray, List.set_cons_zero, List.set_cons_succ]
                refine wpAnyH_take (i := 3) (oi := { dst := some 78, op := Go.Op.move (Go.Operand.tmp 9), type := 34, pos := "ref.go:153", after := #[{ on := 2, ground := Go.Ground.guard }], guard := some (2, false) }) (v := undef) rfl (by kernel_rfl) (by kernel_rfl) (by kernel_rfl) (fun _ _ _ h => h) (Or.inr ⟨by rfl, rfl⟩) (by assumption) ?_
                try simp only [Act.put, List.setIfInBounds_toArray, List.set_cons_zero, List.set_cons_succ]
                refine wpAnyH_take (i := 4) (oi := { dst := some 79, op := Go.Op.convert 34 9 (Go.Operand.tmp 78), type := 9, pos := "ref.go:153", after := #[{ on := 3, ground := Go.Ground.data }, { on := 2, ground := Go.Ground.guard }], guard := some (2, false) }) (v := undef) rfl (by kernel_rfl) (by kernel_rfl) (by kernel_rfl) (fun _ _ _ h => h) (Or.inr ⟨by rfl, rfl⟩) (by assumption) ?_
                try simp only [Act.put, List.setIfInBounds_toArray, List.set_cons_zero, List.set_cons_succ]
                refine wpAnyH_take (i := 5) (oi := { dst := some 80, op := Go.Op.move (Go.Operand.tmp 0), type := 34, pos := "ref.go:153", after := #[{ on := 2, ground := Go.Ground.guard }], guard := some (2, false) }) (v := undef) rfl (by kernel_rfl) (by kernel_rfl) (by kernel_rfl) (fun _ _ _ h => h) (Or.inr ⟨by rfl, rfl⟩) (by assumption) ?_
                try simp only [Act.put, List.setIfInBounds_toArray, List.set_cons_zero, List.set_cons_succ]
                refine wpAnyH_take (i := 6) (oi := { dst := some 81, op := Go.Op.move (Go.Operand.tmp 5), type := 3, pos := "ref.go:153", after := #[{ on := 2, ground := Go.Ground.guard }], guard := some (2, false) }) (v := undef) rfl (by kernel_rfl) (by kernel_rfl) (by kernel_rfl) (fun _ _ _ h => h) (Or.inr ⟨by rfl, rfl⟩) (by assumption) ?_
                try simp only [Act.put, List.setIfInBounds_toArray, List.set_cons_zero, List.set_cons_succ]
                refine wpAnyH_take (i := 7) (oi := { dst := some 82, op := Go.Op.move (Go.Operand.tmp 7), type := 3, pos := "ref.go:153", after := #[{ on := 2, ground := Go.Ground.guard }], guard := some (2, false) }) (v := undef) rfl (by kernel_rfl) (by kernel_rfl) (by kernel_rfl) (fun _ _ _ h => h) (Or.inr ⟨by rfl, rfl⟩) (by assumption) ?_
                try simp only [Act.put, List.setIfInBounds_toArray, List.set_cons_zero, List.set_cons_succ]
                refine wpAnyH_take (i := 8) (oi := { dst := some 83, op := Go.Op.slice 34 (Go.Operand.tmp 80) (some (Go.Operand.tmp 81)) (some (Go.Operand.tmp 82)) none, type := 34, pos := "ref.go:153", after := #[{ on := 5, ground := Go.Ground.data }, { on := 6, ground := Go.Ground.data }, { on := 7, ground := Go.Ground.data }, { on := 2, ground := Go.Ground.guard }], guard := some (2, false) }) (v := undef) rfl (by kernel_rfl) (by kernel_rfl) (by kernel_rfl) (fun _ _ _ h => h) (Or.inr ⟨by rfl, rfl⟩) (by assumption) ?_
                try simp only [Act.put, List.setIfInBounds_toArray, List.set_cons_zero, List.set_cons_succ]
                refine wpAnyH_take (i := 9) (oi := { dst := some 84, op := Go.Op.convert 34 9 (Go.Operand.tmp 83), type := 9, pos := "ref.go:153", after := #[{ on := 8, ground := Go.Ground.data }, { on := 2, ground := Go.Ground.guard }], guard := some (2, false) }) (v := undef) rfl (by kernel_rfl) (by kernel_rfl) (by kernel_rfl) (fun _ _ _ h => h) (Or.inr ⟨by rfl, rfl⟩) (by assumption) ?_
                try simp only [Act.put, List.setIfInBounds_toArray, List.set_cons_zero, List.set_cons_succ]
                refine wpAnyH_take (i := 10) (oi := { dst := some 85, op := Go.Op.binOp Go.BinOp.neq 9 (Go.Operand.tmp 79) (Go.Operand.tmp 84) 9, type := 4, pos := "ref.go:153", after := #[{ on := 4, ground := Go.Ground.data }, { on := 9, ground := Go.Ground.data }, { on := 2, ground := Go.Ground.guard }], guard := some (2, false) }) (v := undef) rfl (by kernel_rfl) (by kernel_rfl) (by kernel_rfl) (fun _ _ _ h => h) (Or.inr ⟨by rfl, rfl⟩) (by assumption) ?_
                try simp only [Act.put, List.setIfInBounds_toArray, List.set_cons_zero, List.set_cons_succ]
                refine wpAnyH_take (i := 11) (oi := { dst := some 86, op := Go.Op.pick (Go.Operand.tmp 77) (Go.Operand.const (Go.Value.bool true)) (Go.Operand.tmp 85), type := 4, pos := "ref.go:153", after := #[{ on := 2, ground := Go.Ground.data }, { on := 10, ground := Go.Ground.data }], guard := none }) (v := ?_) rfl (by kernel_rfl) (by kernel_rfl) (by kernel_rfl) (fun _ _ _ h => h) (Or.inl ⟨by rfl, ?_⟩) (by assumption) ?_
                rotate_left
                · intro wS hSw
                  clear hSw
                  go_simp
                  try with_reducible rfl
                try simp only [Act.put, List.setIfInBounds_toArray, List.set_cons_zero, List.set_cons_succ]
                refine wpAnyH_done (by kernel_rfl) ?_ _
                have HB8 : Hid (Below W1.heap.size W1 w5.drew) := Lib.hid (HB7.out.trans (hHeld.mono HB7.out.size))
                have HF8 : Hid (Has w5.drew w.heap.size 47 #[.int .i64 0, .int .i64 0]) := Lib.hid (HF7.out.below hHeld)
                have HO8 := Lib.hid (own_keep HO7.out hHeld)
                have HY8 : Hid (Has w5.drew g8 31 y.cs) := Lib.hid (HY7.out.below hHeld)
                clear hHeld HB7 HF7 HO7 HS7 HY7 HTx HPs
                generalize w5.drew = w8 at *
                have c0 : w8.cell? ⟨w.heap.size, 0, none⟩ = some (.int .i64 0) := HF8.out.cell 0
                have f0 := HF8.out.free 0
                have c1 : w8.cell? ⟨w.heap.size, 1, none⟩ = some (.int .i64 0) := HF8.out.cell 1
                have f1 := HF8.out.free 1
                have HE := Lib.hid (rread_end (er := 3) (i := (i : Int)) (r := readP bs) (v := .slice none 0 0) (W := w8) (by rw [HR.out]) HS1.out HB1.out HB8.out HF8.out (by rw [HR.out]; exact World.ownsRow_nil _ _ _ _))
                go_wp2
                exact bodyPost_ret (v := .tuple #[.slice none 0 0, .agg #[.int .i64 3, .int .i64 (i : Int)]]) (rread_results _ rfl rfl HE.out.1) rfl HE.out.2
    · have HR : Hid (readP bs = (L, 0, 0)) := Lib.hid (HFr.out.done (by omega))
      have HE := Lib.hid (rread_end (er := 0) (i := 0) (r := readP bs) (v := .slice A4 Ln c4) (W := wr) (by rw [HR.out]) HS1.out HB1.out HBw.out HF.out (by rw [HR.out, HLn.out]; exact HOwn.out))
      go_wp2
      exact bodyPost_ret (v := .tuple #[.slice A4 Ln c4, .agg #[.int .i64 0, .int .i64 0]]) (rread_results _ rfl rfl HE.out.1) rfl HE.out.2
end Go.Proofs.Ythhajknmokomjaa
