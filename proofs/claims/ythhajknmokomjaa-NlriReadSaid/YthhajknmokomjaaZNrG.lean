/- Routes read: bytes compared; a piece decoded. -/
import Derived.Test.YthhajknmokomjaaZNrF
import Derived.Test.YthhajknmokomjaaZNlG
import Derived.Laws.ResultCell
namespace Go.Proofs.Ythhajknmokomjaa
open Go.RowKit Go.Maps Go.Shelf
set_option linter.unusedVariables false
set_option linter.unusedSimpArgs false
set_option maxRecDepth 100000

theorem ofnat_inj : ∀ (xs ys : List Int), (∀ v ∈ xs, 0 ≤ v ∧ v ≤ 255) → (∀ v ∈ ys, 0 ≤ v ∧ v ≤ 255) → (xs.map fun n => UInt8.ofNat n.toNat) = (ys.map fun n => UInt8.ofNat n.toNat) → xs = ys
  | [], [], _, _, _ => rfl
  | [], _ :: _, _, _, h => by simp at h
  | _ :: _, [], _, _, h => by simp at h
  | x :: xs, y :: ys, hx, hy, h => by
    rw [List.map_cons, List.map_cons] at h
    injection h with h1 h2
    have e : x = y := by
      have b1 := hx x (by simp)
      have b2 := hy y (by simp)
      have h3 := congrArg UInt8.toNat h1
      simp at h3
      omega
    rw [e, ofnat_inj xs ys (fun v hv => hx v (by simp [hv])) (fun v hv => hy v (by simp [hv])) h2]
theorem str_inj {xs ys : List Int} (hx : ∀ v ∈ xs, 0 ≤ v ∧ v ≤ 255) (hy : ∀ v ∈ ys, 0 ≤ v ∧ v ≤ 255) (h : strOfNums xs = strOfNums ys) : xs = ys :=
  ofnat_inj xs ys hx hy (by rw [← strOfNums_data, ← strOfNums_data, h])

theorem arr_string {w : World} {v : Value} {xs : List Int} (h : Arr w v xs) (hn : 0 < xs.length) : (convert 34 9 v).run Try.prog w = .ok (.string (strOfNums xs)) w := by
  rcases h with ⟨rfl, rfl⟩ | ⟨ad, c, rfl, hc⟩
  · simp at hn
  · obtain ⟨b, o, rfl, hs⟩ := hc.plain hn
    exact run_convert_bytes_arg w 34 5 Try.underlying34 Try.underlying5 b o xs.length c xs rfl (fun i hi => by
      rw [hs i hi]
      simp [List.getD, hi]) 9 Try.underlying9

theorem equal_any (v1 v2 : Value) (xs ys : List Int) (w : World) (h1 : Arr w v1 xs) (h2 : Arr w v2 ys) (n1 : 0 < xs.length) (n2 : 0 < ys.length) (hx : ∀ v ∈ xs, 0 ≤ v ∧ v ≤ 255) (hy : ∀ v ∈ ys, 0 ≤ v ∧ v ≤ 255) :
    Calls Try.prog 66 #[v1, v2] w fun e w' => e = .returned (.bool (decide (xs = ys))) ∧ w = w' := by
  have c1 := arr_string h1 n1
  have c2 := arr_string h2 n2
  have hb : ((strOfNums xs).toList == (strOfNums ys).toList) = decide (xs = ys) := by
    rw [ByteArray.toList_eq, ByteArray.toList_eq, strOfNums_data, strOfNums_data]
    by_cases h : xs = ys
    · rw [h]; simp
    · have h' : ¬ (xs.map fun n => UInt8.ofNat n.toNat) = (ys.map fun n => UInt8.ofNat n.toNat) := fun e => h (ofnat_inj xs ys hx hy e)
      rw [decide_eq_false h]
      exact beq_eq_false_iff_ne.2 h'
  obtain ⟨b, hbb⟩ : ∃ b, decide (xs = ys) = b := ⟨_, rfl⟩
  rw [hbb] at hb ⊢
  clear hbb
  obtain ⟨A1, k1, rfl⟩ := h1.form
  obtain ⟨A2, k2, rfl⟩ := h2.form
  clear h1 h2 hx hy n1 n2
  generalize strOfNums xs = s1 at *
  generalize strOfNums ys = s2 at *
  go_enter Try.func66, Try.ntmps66
  go_wp2
  go_ret
  exact ⟨rfl, rfl⟩

section
variable {P : Program} {ops : Array Oper} {o : Oper} {a : Act} {w : World} {K : Act → World → Prop} {Q : Exit → Act → World → Prop} {E : Prop}
theorem stepStoreRow (hgd : o.guard = none) (ty : TypeId) (x y : Operand) (ho : o.op = .store ty x y)
    (g : Nat) (cells : Array Value) (hx : a.eval x = .pointer (some ⟨g, 0, none⟩)) (hy : a.eval y = .agg cells)
    (t : TypeId) (old : Array Value) (hg : w.heap[g]? = some (.cells old t (0, 0))) (hi : (P.info? ty).map (·.size) = some cells.size)
    (hold : old.size = cells.size) (h1 : cells.all (·.oneCell') = true)
    (h : K (a.put o.dst undef) (w.setRow g cells)) : if Region.wanted o (yielded ops a.tmps) = true then Oper.wp P o a w K Q else E := by
  have hw : Region.wanted o (yielded ops a.tmps) = true := by simp [Region.wanted, hgd]
  rw [if_pos hw]
  exact wp_store_row ty x y ho g cells hx hy t old hg hi hold h1 h
end
theorem setRow_below {n g : Nat} {a w : World} {cs : Array Value} (h : Below n a w) (hg : n ≤ g) (hn : n ≤ w.heap.size) : Below n a (w.setRow g cs) := below_only h (Only.row _) hg hn

theorem results_cell_row_tmp {P : Program} {fn : Func} {p u : Tmp} {ty : TypeId} (h : fn.results = #[.cell p ty, .tmp u]) (tmps : Array Value) (w : World) (g : Nat) (t : TypeId) (cs : Array Value) (fr : Nat × Nat) (d : TypeDesc) (v : Value)
    (hp : tmps.getD p undef = .pointer (some ⟨g, 0, none⟩)) (hv : tmps.getD u undef = v) (hg : w.heap[g]? = some (.cells cs t fr))
    (hu : P.underlying ty = some d) (hd : (match d with | .struct _ | .array _ _ => true | _ => false) = true) (hi : (P.info? ty).map (·.size) = some cs.size) :
    (results fn tmps).run P w = .ok (.tuple #[.agg cs, v]) w := by
  rw [Go.results_cell_tmp h, hp, hv]
  simp [asAddr, run_loadVar_row w g t ty cs fr d hg hu hd hi, Result.andThen]

/-- The bytes of a reader are bytes, and its position lies among them. -/
structure RS.fine (s : RS) : Prop where
  byte : ∀ v ∈ s.bs, 0 ≤ v ∧ v ≤ 255
  lo : s.st ≤ s.p
  hi : s.p ≤ s.st + s.bs.length
theorem RdS.fine {w : World} {g h cap : Nat} {s : RS} (H : RdS w g h cap s) : s.fine := ⟨H.byte, H.lo, H.hi⟩
theorem RS.fine.t {s : RS} (h : s.fine) (n : Int) : (s.t n).fine := by
  rcases three s n with h0 | ⟨h0, h1⟩ | ⟨h0, k, rfl, h1⟩
  · show ((s.take n).2).fine; rw [take_a n h0]; exact h
  · show ((s.take n).2).fine; rw [take_b n h0 h1]; exact ⟨h.byte, h.lo, h.hi⟩
  · show ((s.take k).2).fine
    rw [take_c k h0 h1]
    have := h.lo
    have := h.hi
    exact ⟨h.byte, by show s.st ≤ s.p + k; omega, by show s.p + k ≤ s.st + s.bs.length; omega⟩
theorem RS.fine.got {s : RS} (h : s.fine) (m : Nat) : 0 ≤ s.got m ∧ s.got m < 256 ^ m := by
  have hp : (0 : Int) < 256 ^ m := Int.pow_pos (by omega)
  have h2 := h.lo
  have h3 := h.hi
  rcases three s m with h0 | ⟨h0, h1⟩ | ⟨h0, k, hk, h1⟩
  · unfold RS.got; rw [take_a m h0]; simpa using hp
  · unfold RS.got; rw [take_b m h0 h1]; simpa using hp
  · obtain rfl : m = k := by omega
    unfold RS.got
    rw [take_c m h0 h1]
    have := num_bound ((s.bs.drop (s.p - s.st)).take m) (fun v hv => h.byte v (List.mem_of_mem_drop (List.mem_of_mem_take hv)))
    have hl : ((s.bs.drop (s.p - s.st)).take m).length = m := by simp; omega
    rw [hl] at this
    exact this
theorem RS.fine.x {s : RS} (h : s.fine) (m : Nat) : ∀ v ∈ s.x m, 0 ≤ v ∧ v ≤ 255 := by
  unfold RS.x
  rcases three s m with h0 | ⟨h0, h1⟩ | ⟨h0, k, hk, h1⟩
  · rw [take_a m h0]; simp
  · rw [take_b m h0 h1]; simp
  · obtain rfl : m = k := by omega
    rw [take_c m h0 h1]
    exact fun v hv => h.byte v (List.mem_of_mem_drop (List.mem_of_mem_take hv))
theorem esi_ten (X : List Int) (hX : ∀ v ∈ X, 0 ≤ v ∧ v ≤ 255) (v : Int) (hv : v ∈ [ten X 0, ten X 1, ten X 2, ten X 3, ten X 4, ten X 5, ten X 6, ten X 7, ten X 8, ten X 9]) : 0 ≤ v ∧ v ≤ 255 := by
  simp only [List.mem_cons, List.not_mem_nil, or_false] at hv
  rcases hv with rfl | rfl | rfl | rfl | rfl | rfl | rfl | rfl | rfl | rfl <;> exact ten_bd hX _

theorem gss_ty {s : RS} (h : s.fine) (k : Nat) (h1 : 1 ≤ k) (h5 : k ≤ 5) : (gss k s).ty := by
  have p8 : (256 : Int) ^ 8 = 18446744073709551616 := by decide
  have p6 : (256 : Int) ^ 6 = 281474976710656 := by decide
  have p4 : (256 : Int) ^ 4 = 4294967296 := by decide
  have p3 : (256 : Int) ^ 3 = 16777216 := by decide
  have u8 : ∀ {s : RS}, s.fine → 0 ≤ s.got 8 ∧ s.got 8 < 18446744073709551616 := fun h => p8 ▸ h.got 8
  have u6 : ∀ {s : RS}, s.fine → 0 ≤ s.got 6 ∧ s.got 6 < 18446744073709551616 := fun h => by have := h.got 6; omega
  have u4 : ∀ {s : RS}, s.fine → 0 ≤ s.got 4 ∧ s.got 4 < 4294967296 := fun h => p4 ▸ h.got 4
  have u3 : ∀ {s : RS}, s.fine → 0 ≤ s.got 3 ∧ s.got 3 < 4294967296 := fun h => by have := h.got 3; omega
  have z4 : (0 : Int) ≤ 0 ∧ (0 : Int) < 4294967296 := by omega
  have z8 : (0 : Int) ≤ 0 ∧ (0 : Int) < 18446744073709551616 := by omega
  have hs := ((h.t 8).t 10).t 4
  have hX := (h.t 8).x 10
  have h6 : k = 1 ∨ k = 2 ∨ k = 3 ∨ k = 4 ∨ k = 5 := by omega
  rcases h6 with rfl | rfl | rfl | rfl | rfl
  · exact ⟨rfl, u8 h, esi_ten _ hX, u4 ((h.t 8).t 10), z8, z4, z4, z4, u3 hs, z4⟩
  · have h5 := (hs.t 1).t 6
    have h7 : (if (((startS s).t 1).t 6).got 1 == 32 then ((((startS s).t 1).t 6).t 1).t 4 else (((startS s).t 1).t 6).t 1).fine := by
      split
      · exact (h5.t 1).t 4
      · exact h5.t 1
    refine ⟨rfl, u8 h, esi_ten _ hX, u4 ((h.t 8).t 10), u6 (hs.t 1), ?_, z4, z4, u3 h7, ?_⟩
    · show 0 ≤ (if (((startS s).t 1).t 6).got 1 == 32 then ((((startS s).t 1).t 6).t 1).got 4 else 0) ∧ (if (((startS s).t 1).t 6).got 1 == 32 then ((((startS s).t 1).t 6).t 1).got 4 else 0) < 4294967296
      split
      · exact u4 (h5.t 1)
      · exact z4
    · have e : (gss 2 s).l2 = if 0 < ((if (((startS s).t 1).t 6).got 1 == 32 then ((((startS s).t 1).t 6).t 1).t 4 else (((startS s).t 1).t 6).t 1).t 3).left then ((if (((startS s).t 1).t 6).got 1 == 32 then ((((startS s).t 1).t 6).t 1).t 4 else (((startS s).t 1).t 6).t 1).t 3).got 3 else 0 := rfl
      rw [e]
      generalize (if (((startS s).t 1).t 6).got 1 == 32 then ((((startS s).t 1).t 6).t 1).t 4 else (((startS s).t 1).t 6).t 1) = s7 at h7
      by_cases hl : 0 < (s7.t 3).left
      · rw [if_pos hl]; exact u3 (h7.t 3)
      · rw [if_neg hl]; exact z4
  · exact ⟨rfl, u8 h, esi_ten [] (fun _ h => by cases h), u4 (h.t 8), z8, u4 (((h.t 8).t 4).t 1), z4, z4, z4, z4⟩
  · exact ⟨rfl, u8 h, esi_ten _ hX, z4, z8, u4 (((h.t 8).t 10).t 1), z4, z4, z4, z4⟩
  · exact ⟨rfl, u8 h, esi_ten _ hX, u4 ((h.t 8).t 10), z8, z4, u4 (hs.t 1), u4 ((hs.t 1).t 4), u3 (((hs.t 1).t 4).t 4), z4⟩

set_option maxHeartbeats 2000000 in
theorem decode_short (p : List Int) (A : Option Addr) (n c : Nat) (w : World) (hp : Arr w (.slice A n c) p) (hm : p.length ≤ 1000000) (hb : ∀ v ∈ p, 0 ≤ v ∧ v ≤ 255) (hf : (((pr p).t (pn p)).ef != 0) = true) :
    Calls Try.prog 45 #[.slice A n c] w fun e w' => e = .returned (.tuple #[.agg nl0.cs, .int .i64 ((pr p).t (pn p)).ef]) ∧ Below w.heap.size w w' := by
  obtain ⟨ef, hef⟩ : ∃ ef, ((pr p).t (pn p)).ef = ef := ⟨_, rfl⟩
  have HEF := Lib.hid hef
  rw [hef] at hf
  have HF := Lib.hid hf
  clear hf hef
  have hZ := Has.new w 31 zcs
  have HZ : Hid (Has (w.alloc (.cells zcs 31)) w.heap.size 31 zcs) := Lib.hid hZ
  have HB : Hid (Below w.heap.size w (w.alloc (.cells zcs 31))) := Lib.hid ((Below.refl _ w).alloc (Nat.le_refl _) _)
  have HP : Hid (Arr (w.alloc (.cells zcs 31)) (.slice A n c) p) := Lib.hid (hp.below ((Below.refl _ w).alloc (Nat.le_refl _) _))
  have HP0 := Lib.hid hp
  have HX := Lib.hid hb
  clear hp hb hZ
  go_enter Try.func45, Try.ntmps45
  go_wp2_with fail
  refine (rnewA _ p _ HP.out hm HX.out).mono ?_
  rintro e1 w1 ⟨g, h, cap, rfl, hg, hh, hr, hb1⟩
  rw [World.size_alloc] at hg hh
  have HR := Lib.hid hr
  have HZ1 := Lib.hid (HZ.out.below hb1)
  have HB1 : Hid (Below w.heap.size w w1) := Lib.hid (HB.out.trans (hb1.mono HB.out.size))
  clear hr hb1 HZ HB HP
  go_wp2_with fail
  refine (rU1 g h cap _ _ HR.out).mono ?_
  rintro e2 w2 ⟨rfl, hr, ho⟩
  have hm1 := in1 (got_bd HR.out 1)
  have HR2 := Lib.hid hr
  have HZ2 : Hid (Has w2 w.heap.size 31 zcs) := Lib.hid (HZ1.out.grown ho (by rintro ⟨⟩; omega))
  have HB2 : Hid (Below w.heap.size w w2) := Lib.hid (below_only HB1.out ho (by omega) HB1.out.size)
  clear hr ho HR HZ1 HB1
  go_wp2_with fail
  refine (rU1 g h cap _ _ HR2.out).mono ?_
  rintro e3 w3 ⟨rfl, hr, ho⟩
  have hm2 := in1 (got_bd HR2.out 1)
  have HR3 := Lib.hid hr
  have HZ3 : Hid (Has w3 w.heap.size 31 zcs) := Lib.hid (HZ2.out.grown ho (by rintro ⟨⟩; omega))
  have HB3 : Hid (Below w.heap.size w w3) := Lib.hid (below_only HB2.out ho (by omega) HB2.out.size)
  clear hr ho HR2 HZ2 HB2
  go_wp2_with fail
  refine (rsub g h cap _ _ HR3.out _).mono ?_
  rintro e4 w4 ⟨⟨g2, h2, cap2, rfl, hg2, hh2, hs⟩, hr, ho⟩
  have HR4 := Lib.hid hr
  have HV4 := Lib.hid hs
  have HZ4 : Hid (Has w4 w.heap.size 31 zcs) := Lib.hid (HZ3.out.grown ho (by rintro ⟨⟩; omega))
  have HB4 : Hid (Below w.heap.size w w4) := Lib.hid (below_only HB3.out ho (by omega) HB3.out.size)
  have hs3 : w.heap.size < w3.heap.size := HZ3.out.lt
  clear hr ho hs HR3 HZ3 HB3 hm1 hm2
  go_wp2_with fail
  refine (rfault g h cap _ _ _ _ _ _ HR4.out).mono ?_
  rintro e5 w5 ⟨rfl, rfl⟩
  have e6 : ((((ps0 p).take 1).2.take 1).2.take ((((ps0 p).take 1).2).got 1)).2.ef = ef := HEF.out
  rw [e6]
  obtain ⟨ea, hea⟩ : ∃ ea, ((((ps0 p).take 1).2.take 1).2.take ((((ps0 p).take 1).2).got 1)).2.ea = ea := ⟨_, rfl⟩
  rw [hea]
  clear hea e6
  have hfn := HF.out
  have HZ6 : Hid (Has ((w4.alloc (.cells #[.int .i64 ef, .int .i64 ea] 47)).alloc (.cells #[.int .i64 ef, .int .i64 ea] 47)) w.heap.size 31 zcs) := Lib.hid (HZ4.out.below (((Below.refl _ w4).alloc (Nat.le_refl _) _).alloc (by simp) _))
  have HF6 : Hid (Has ((w4.alloc (.cells #[.int .i64 ef, .int .i64 ea] 47)).alloc (.cells #[.int .i64 ef, .int .i64 ea] 47)) (w4.heap.size + 1) 47 #[.int .i64 ef, .int .i64 ea]) := Lib.hid (by
    have h1 := Has.new (w4.alloc (.cells #[.int .i64 ef, .int .i64 ea] 47)) 47 #[.int .i64 ef, .int .i64 ea]
    simpa using h1)
  have HB6 : Hid (Below w.heap.size w ((w4.alloc (.cells #[.int .i64 ef, .int .i64 ea] 47)).alloc (.cells #[.int .i64 ef, .int .i64 ea] 47))) := Lib.hid ((HB4.out.alloc HB4.out.size _).alloc (by have := HB4.out.size; simp; omega) _)
  have hls : w.heap.size < w4.heap.size := HZ4.out.lt
  go_upto_region 6 with fail
  obtain ⟨W6, hW6⟩ : ∃ W6, ((w4.alloc (.cells #[.int .i64 ef, .int .i64 ea] 47)).alloc (.cells #[.int .i64 ef, .int .i64 ea] 47)) = W6 := ⟨_, rfl⟩
  rw [hW6] at HZ6 HF6 HB6 ⊢
  clear hW6
  have HS : Hid (∀ W : World, Has W w.heap.size 31 zcs → Has W (w4.heap.size + 1) 47 #[.int .i64 ef, .int .i64 ea] → (W.cell? ⟨w4.heap.size + 1, 0, none⟩ = some (.int .i64 ef) ∧ True)) := Lib.hid (fun W _ h => ⟨h.cell 0, trivial⟩)
  have HZd : Hid (Has W6.drew w.heap.size 31 zcs) := Lib.hid HZ6.out
  have HFd : Hid (Has W6.drew (w4.heap.size + 1) 47 #[.int .i64 ef, .int .i64 ea]) := Lib.hid HF6.out
  refine wp_region_held_drew (S := (fun w' => w'.cell? ⟨w4.heap.size + 1, 0, none⟩ = some (.int .i64 ef) ∧ True)) (by kernel_rfl) (HS.out _ HZd.out HFd.out) (fun hHeld => ?_)
  refine wpAnyH_take (i := 0) (oi := { dst := some 28, op := Go.Op.build 31 #[], type := 31, pos := "nlri.go:95", after := #[], guard := none }) (v := ?_) rfl (by kernel_rfl) (by kernel_rfl) (by kernel_rfl) (fun _ _ _ h => h) (Or.inl ⟨by rfl, ?_⟩) (by assumption) ?_
  rotate_left
  · intro wS hSw
    try dsimp only at hSw
    go_split_ands
    go_simp
    try with_reducible rfl
  try simp only [Act.put, List.setIfInBounds_toArray, List.set_cons_zero, List.set_cons_succ]
  refine wpAnyH_take (i := 1) (oi := { dst := some 29, op := Go.Op.fieldAddr 47 (Go.Operand.tmp 7) 0, type := 0, pos := "nlri.go:95", after := #[{ on := 3, ground := Go.Ground.gcOnly Go.Departure.lateStores }], guard := none }) (v := ?_) rfl (by kernel_rfl) (by kernel_rfl) (by kernel_rfl) (fun _ _ _ h => h) (Or.inl ⟨by rfl, ?_⟩) (by assumption) ?_
  rotate_left
  · intro wS hSw
    try dsimp only at hSw
    go_split_ands
    go_simp
    try with_reducible rfl
  try simp only [Act.put, List.setIfInBounds_toArray, List.set_cons_zero, List.set_cons_succ]
  refine wpAnyH_take (i := 2) (oi := { dst := some 30, op := Go.Op.load 35 (Go.Operand.tmp 29), type := 35, pos := "nlri.go:95", after := #[{ on := 1, ground := Go.Ground.data }, { on := 3, ground := Go.Ground.gcOnly Go.Departure.lateStores }], guard := none }) (v := ?_) rfl (by kernel_rfl) (by kernel_rfl) (by kernel_rfl) (fun _ _ _ h => h) (Or.inl ⟨by rfl, ?_⟩) (by assumption) ?_
  rotate_left
  · intro wS hSw
    try dsimp only at hSw
    go_split_ands
    go_simp
    try with_reducible rfl
  try simp only [Act.put, List.setIfInBounds_toArray, List.set_cons_zero, List.set_cons_succ]
  refine wpAnyH_ready (rs := [3]) (by kernel_rfl) (by simp) ?_
  refine AllReadyH.cons (o := { dst := none, op := Go.Op.store 31 (Go.Operand.tmp 2) (Go.Operand.tmp 28), type := 0, pos := "nlri.go:95", after := #[{ on := 0, ground := Go.Ground.data }, { on := 0, ground := Go.Ground.phase }, { on := 1, ground := Go.Ground.textOnly Go.Departure.lateStores }, { on := 2, ground := Go.Ground.textOnly Go.Departure.lateStores }], guard := none }) rfl (fun K hK => ?_) AllReadyH.nil
  refine stepStoreRow rfl 31 (.tmp 2) (.tmp 28) rfl w.heap.size zcs rfl rfl 31 zcs HZd.out (NL.fit nl0) rfl (NL.one nl0) ?_
  refine hK.out _ _ ?_ (fun hHeld => ?_)
  · exact ⟨((HFd.out.grown (Only.row zcs) (by intro h9; injection h9 with h9; omega)).cell 0), trivial⟩
  clear hK K
  try simp only [Act.put, List.setIfInBounds_toArray, List.set_cons_zero, List.set_cons_succ]
  refine wpAnyH_take (i := 4) (oi := { dst := some 3, op := Go.Op.assign (Go.Operand.tmp 30), type := 35, pos := "nlri.go:95", after := #[{ on := 2, ground := Go.Ground.data }, { on := 3, ground := Go.Ground.chain }, { on := 0, ground := Go.Ground.phase }, { on := 1, ground := Go.Ground.phase }, { on := 2, ground := Go.Ground.phase }, { on := 3, ground := Go.Ground.phase }], guard := none }) (v := ?_) rfl (by kernel_rfl) (by kernel_rfl) (by kernel_rfl) (fun _ _ _ h => h) (Or.inl ⟨by rfl, ?_⟩) (by assumption) ?_
  rotate_left
  · intro wS hSw
    try dsimp only at hSw
    go_split_ands
    go_simp
    try with_reducible rfl
  try simp only [Act.put, List.setIfInBounds_toArray, List.set_cons_zero, List.set_cons_succ]
  refine wpAnyH_done (by kernel_rfl) ?_ _
  have HBf : Hid (Below w.heap.size w (W6.drew.setRow w.heap.size zcs)) := Lib.hid (setRow_below HB6.out.drew (Nat.le_refl _) HB6.out.drew.size)
  have HZf : Hid (Has (W6.drew.setRow w.heap.size zcs) w.heap.size 31 zcs) := Lib.hid (setRow_heap _ _ _ _ _ _ HZd.out)
  go_wp2_with fail
  exact bodyPost_ret (v := .tuple #[.agg zcs, .int .i64 ef]) (results_cell_row_tmp rfl _ _ w.heap.size 31 zcs (0, 0) _ _ rfl rfl HZf.out Try.underlying31 rfl (NL.fit nl0)) rfl ⟨by rw [HEF.out]; rfl, HBf.out⟩

set_option maxHeartbeats 2000000 in
theorem decode_no (p : List Int) (A : Option Addr) (n c : Nat) (w : World) (hp : Arr w (.slice A n c) p) (hm : p.length ≤ 1000000) (hb : ∀ v ∈ p, 0 ≤ v ∧ v ≤ 255) (hf : ((pr p).t (pn p)).ef = 0) (hk : pk p < 1 ∨ 5 < pk p) :
    Calls Try.prog 45 #[.slice A n c] w fun e w' => e = .returned (.tuple #[.agg nl0.cs, .int .i64 6]) ∧ Below w.heap.size w w' := by
  have HEF := Lib.hid hf
  have HK : Hid ((ps0 p).got 1 < 1 ∨ 5 < (ps0 p).got 1) := Lib.hid hk
  clear hf hk
  have hZ := Has.new w 31 zcs
  have HZ : Hid (Has (w.alloc (.cells zcs 31)) w.heap.size 31 zcs) := Lib.hid hZ
  have HB : Hid (Below w.heap.size w (w.alloc (.cells zcs 31))) := Lib.hid ((Below.refl _ w).alloc (Nat.le_refl _) _)
  have HP : Hid (Arr (w.alloc (.cells zcs 31)) (.slice A n c) p) := Lib.hid (hp.below ((Below.refl _ w).alloc (Nat.le_refl _) _))
  have HP0 := Lib.hid hp
  have HX := Lib.hid hb
  clear hp hb hZ
  go_enter Try.func45, Try.ntmps45
  go_wp2_with fail
  refine (rnewA _ p _ HP.out hm HX.out).mono ?_
  rintro e1 w1 ⟨g, h, cap, rfl, hg, hh, hr, hb1⟩
  rw [World.size_alloc] at hg hh
  have HR := Lib.hid hr
  have HZ1 := Lib.hid (HZ.out.below hb1)
  have HB1 : Hid (Below w.heap.size w w1) := Lib.hid (HB.out.trans (hb1.mono HB.out.size))
  clear hr hb1 HZ HB HP
  go_wp2_with fail
  refine (rU1 g h cap _ _ HR.out).mono ?_
  rintro e2 w2 ⟨rfl, hr, ho⟩
  have hm1 := in1 (got_bd HR.out 1)
  have HR2 := Lib.hid hr
  have HZ2 : Hid (Has w2 w.heap.size 31 zcs) := Lib.hid (HZ1.out.grown ho (by rintro ⟨⟩; omega))
  have HB2 : Hid (Below w.heap.size w w2) := Lib.hid (below_only HB1.out ho (by omega) HB1.out.size)
  clear hr ho HR HZ1 HB1
  go_wp2_with fail
  refine (rU1 g h cap _ _ HR2.out).mono ?_
  rintro e3 w3 ⟨rfl, hr, ho⟩
  have hm2 := in1 (got_bd HR2.out 1)
  have HR3 := Lib.hid hr
  have HZ3 : Hid (Has w3 w.heap.size 31 zcs) := Lib.hid (HZ2.out.grown ho (by rintro ⟨⟩; omega))
  have HB3 : Hid (Below w.heap.size w w3) := Lib.hid (below_only HB2.out ho (by omega) HB2.out.size)
  clear hr ho HR2 HZ2 HB2
  go_wp2_with fail
  refine (rsub g h cap _ _ HR3.out _).mono ?_
  rintro e4 w4 ⟨⟨g2, h2, cap2, rfl, hg2, hh2, hs⟩, hr, ho⟩
  have HR4 := Lib.hid hr
  have HV4 := Lib.hid hs
  have HZ4 : Hid (Has w4 w.heap.size 31 zcs) := Lib.hid (HZ3.out.grown ho (by rintro ⟨⟩; omega))
  have HB4 : Hid (Below w.heap.size w w4) := Lib.hid (below_only HB3.out ho (by omega) HB3.out.size)
  have hs3 : w.heap.size < w3.heap.size := HZ3.out.lt
  clear hr ho hs HR3 HZ3 HB3 hm1 hm2
  go_wp2_with fail
  refine (rfault g h cap _ _ _ _ _ _ HR4.out).mono ?_
  rintro e5 w5 ⟨rfl, rfl⟩
  have e6 : ((((ps0 p).take 1).2.take 1).2.take ((((ps0 p).take 1).2).got 1)).2.ef = 0 := HEF.out
  rw [e6]
  obtain ⟨ea, hea⟩ : ∃ ea, ((((ps0 p).take 1).2.take 1).2.take ((((ps0 p).take 1).2).got 1)).2.ea = ea := ⟨_, rfl⟩
  rw [hea]
  clear hea e6
  have HA6 : Hid (Below w4.heap.size w4 ((w4.alloc (.cells #[.int .i64 0, .int .i64 ea] 47)).alloc (.cells #[.int .i64 0, .int .i64 ea] 47))) := Lib.hid (((Below.refl _ w4).alloc (Nat.le_refl _) _).alloc (by simp) _)
  have hls : w.heap.size < w4.heap.size := HZ4.out.lt
  have hwf : (Lit.int .i64 ((ps0 p).got 1)).wf = true := by
    have hfine : (ps0 p).fine := ⟨HX.out, Nat.le_refl _, by simp⟩
    have := hfine.got 1
    exact WalkArith.wf_i64 (by omega)
  go_wp2_with (first
    | (go_at_call 23; refine (codings_any _).mono ?_; rintro e w6 ⟨b, rfl, hmp, hb6⟩; have hl := look_no w6 b 5 hmp _ HK.out hwf; have HZ6 := Lib.hid ((HZ4.out.below HA6.out).below hb6); have HB6 : Hid (Below w.heap.size w w6) := Lib.hid ((HB4.out.trans (HA6.out.mono HB4.out.size)).trans (hb6.mono (by have := HB4.out.size; simp; omega))); clear hb6 hmp)
    | (refine wpList_store_row rfl 31 (.tmp 2) (.tmp 39) rfl w.heap.size zcs rfl rfl 31 zcs HZ6.out (NL.fit nl0) rfl (NL.one nl0) ?_))
  exact bodyPost_ret (v := .tuple #[.agg zcs, .int .i64 6]) (results_cell_row_tmp rfl _ _ w.heap.size 31 zcs (0, 0) _ _ rfl rfl (setRow_heap _ _ _ _ _ _ HZ6.out) Try.underlying31 rfl (NL.fit nl0)) rfl ⟨rfl, setRow_below HB6.out (Nat.le_refl _) HB6.out.size⟩

theorem read_is (k : Nat) (h1 : 1 ≤ k) (h5 : k ≤ 5) (g h cap : Nat) (s : RS) (x : NL) (hx : gss k s = x) (w : World) (H : RdS w g h cap s) :
    Calls Try.prog (frd k) #[.agg #[], .pointer (some ⟨g, 0, none⟩)] w fun e w' => e = .returned (.agg x.cs) ∧ Only w g w' := by
  rw [← hx]
  exact read_any k h1 h5 g h cap s w H
theorem equal_is (v1 v2 : Value) (xs ys : List Int) (b : Bool) (hd : decide (xs = ys) = b) (w : World) (h1 : Arr w v1 xs) (h2 : Arr w v2 ys) (n1 : 0 < xs.length) (n2 : 0 < ys.length) (hx : ∀ v ∈ xs, 0 ≤ v ∧ v ≤ 255) (hy : ∀ v ∈ ys, 0 ≤ v ∧ v ≤ 255) :
    Calls Try.prog 66 #[v1, v2] w fun e w' => e = .returned (.bool b) ∧ w = w' := by
  rw [← hd]
  exact equal_any v1 v2 xs ys w h1 h2 n1 n2 hx hy

set_option maxHeartbeats 2000000 in
theorem decode_chk (p : List Int) (A : Option Addr) (n c : Nat) (w : World) (hp : Arr w (.slice A n c) p) (hm : p.length ≤ 1000000) (hb : ∀ v ∈ p, 0 ≤ v ∧ v ≤ 255) (hf : ((pr p).t (pn p)).ef = 0) (k : Nat) (hk : pk p = (k : Int)) (h1 : 1 ≤ k) (h5 : k ≤ 5) (x : NL) (hxe : gss k ((pr p).sub (pn p)) = x) (hty : x.ty) (hc : chk x ≠ 0) :
    Calls Try.prog 45 #[.slice A n c] w fun e w' => e = .returned (.tuple #[.agg nl0.cs, .int .i64 3]) ∧ Below w.heap.size w w' := by
  have HEF := Lib.hid hf
  have HK : Hid ((ps0 p).got 1 = (k : Int)) := Lib.hid hk
  have HXx := Lib.hid hxe
  have HTy := Lib.hid hty
  clear hf hk hxe hty
  have hcb : (chk x != 0) = true := by simpa using hc
  have HC := Lib.hid hc
  clear hc
  have hZ := Has.new w 31 zcs
  have HZ : Hid (Has (w.alloc (.cells zcs 31)) w.heap.size 31 zcs) := Lib.hid hZ
  have HB : Hid (Below w.heap.size w (w.alloc (.cells zcs 31))) := Lib.hid ((Below.refl _ w).alloc (Nat.le_refl _) _)
  have HP : Hid (Arr (w.alloc (.cells zcs 31)) (.slice A n c) p) := Lib.hid (hp.below ((Below.refl _ w).alloc (Nat.le_refl _) _))
  have HP0 := Lib.hid hp
  have HX := Lib.hid hb
  clear hp hb hZ
  go_enter Try.func45, Try.ntmps45
  go_wp2_with fail
  refine (rnewA _ p _ HP.out hm HX.out).mono ?_
  rintro e1 w1 ⟨g, h, cap, rfl, hg, hh, hr, hb1⟩
  rw [World.size_alloc] at hg hh
  have HR := Lib.hid hr
  have HZ1 := Lib.hid (HZ.out.below hb1)
  have HB1 : Hid (Below w.heap.size w w1) := Lib.hid (HB.out.trans (hb1.mono HB.out.size))
  clear hr hb1 HZ HB HP
  go_wp2_with fail
  refine (rU1 g h cap _ _ HR.out).mono ?_
  rintro e2 w2 ⟨rfl, hr, ho⟩
  have hm1 : IntKind.i64.wrap ((ps0 p).got 1) = (k : Int) := (in1 (got_bd HR.out 1)).trans HK.out
  have HR2 := Lib.hid hr
  have HZ2 : Hid (Has w2 w.heap.size 31 zcs) := Lib.hid (HZ1.out.grown ho (by rintro ⟨⟩; omega))
  have HB2 : Hid (Below w.heap.size w w2) := Lib.hid (below_only HB1.out ho (by omega) HB1.out.size)
  clear hr ho HR HZ1 HB1
  go_wp2_with fail
  refine (rU1 g h cap _ _ HR2.out).mono ?_
  rintro e3 w3 ⟨rfl, hr, ho⟩
  have hm2 := in1 (got_bd HR2.out 1)
  have HR3 := Lib.hid hr
  have HZ3 : Hid (Has w3 w.heap.size 31 zcs) := Lib.hid (HZ2.out.grown ho (by rintro ⟨⟩; omega))
  have HB3 : Hid (Below w.heap.size w w3) := Lib.hid (below_only HB2.out ho (by omega) HB2.out.size)
  clear hr ho HR2 HZ2 HB2
  go_wp2_with fail
  refine (rsub g h cap _ _ HR3.out _).mono ?_
  rintro e4 w4 ⟨⟨g2, h2, cap2, rfl, hg2, hh2, hs⟩, hr, ho⟩
  have HR4 := Lib.hid hr
  have HV4 := Lib.hid hs
  have HZ4 : Hid (Has w4 w.heap.size 31 zcs) := Lib.hid (HZ3.out.grown ho (by rintro ⟨⟩; omega))
  have HB4 : Hid (Below w.heap.size w w4) := Lib.hid (below_only HB3.out ho (by omega) HB3.out.size)
  have hs3 : w.heap.size < w3.heap.size := HZ3.out.lt
  clear hr ho hs HR3 HZ3 HB3 hm1 hm2
  go_wp2_with fail
  refine (rfault g h cap _ _ _ _ _ _ HR4.out).mono ?_
  rintro e5 w5 ⟨rfl, rfl⟩
  have e6 : ((((ps0 p).take 1).2.take 1).2.take ((((ps0 p).take 1).2).got 1)).2.ef = 0 := HEF.out
  rw [e6]
  obtain ⟨ea, hea⟩ : ∃ ea, ((((ps0 p).take 1).2.take 1).2.take ((((ps0 p).take 1).2).got 1)).2.ea = ea := ⟨_, rfl⟩
  rw [hea]
  clear hea e6
  have HA6 : Hid (Below w4.heap.size w4 ((w4.alloc (.cells #[.int .i64 0, .int .i64 ea] 47)).alloc (.cells #[.int .i64 0, .int .i64 ea] 47))) := Lib.hid (((Below.refl _ w4).alloc (Nat.le_refl _) _).alloc (by simp) _)
  have hls : w.heap.size < w4.heap.size := HZ4.out.lt
  have hme := meth_read k h1 h5
  have hcf := call_read k h1 h5
  have HA6b : Hid (Below w.heap.size w ((w4.alloc (.cells #[.int .i64 0, .int .i64 ea] 47)).alloc (.cells #[.int .i64 0, .int .i64 ea] 47))) := Lib.hid (HB4.out.trans (HA6.out.mono HB4.out.size))
  have HA6z : Hid (Has ((w4.alloc (.cells #[.int .i64 0, .int .i64 ea] 47)).alloc (.cells #[.int .i64 0, .int .i64 ea] 47)) w.heap.size 31 zcs) := Lib.hid (HZ4.out.below HA6.out)
  have HA6v := Lib.hid (Rd.below HV4.out HA6.out)
  clear HR4 HV4 HZ4 HA6
  go_upto_region 7 with fail
  obtain ⟨W5, hW5⟩ : ∃ W5, ((w4.alloc (.cells #[.int .i64 0, .int .i64 ea] 47)).alloc (.cells #[.int .i64 0, .int .i64 ea] 47)) = W5 := ⟨_, rfl⟩
  rw [hW5] at HA6b HA6z HA6v ⊢
  clear hW5
  go_wp2_with (first
    | (go_at_call 23; refine (codings_any _).mono ?_; rintro e w6 ⟨b, rfl, hmp, hb6⟩; have hl := look_yes w6 b 5 hmp k h1 h5 true; simp only [if_true] at hl; have HZ6 := Lib.hid (HA6z.out.below hb6); have HB6 : Hid (Below w.heap.size w w6) := Lib.hid (HA6b.out.trans (hb6.mono HA6b.out.size)); have HV6 := Lib.hid (Rd.below HA6v.out hb6); clear hb6 hmp)
    | (go_at_fn (frd k); refine (read_is k h1 h5 g2 h2 cap2 _ x HXx.out _ HV6.out).mono ?_; rintro e w7 ⟨rfl, ho7⟩; have hs6 := HB6.out.size; have HZ7 : Hid (Has w7 w.heap.size 31 zcs) := Lib.hid (HZ6.out.grown ho7 (by intro h9; injection h9 with h9; omega)); have HB7 : Hid (Below w.heap.size w w7) := Lib.hid (below_only HB6.out ho7 (by omega) HB6.out.size); have hs7 := HB7.out.size; have HN7 : Hid (Has (w7.alloc (.cells zcs 31)) w7.heap.size 31 zcs) := Lib.hid (Has.new _ _ _); have HX8 : Hid (Has ((w7.alloc (.cells zcs 31)).setRow w7.heap.size x.cs) w7.heap.size 31 x.cs) := Lib.hid (setRow_heap _ _ _ _ _ _ HN7.out); have HZ8 : Hid (Has ((w7.alloc (.cells zcs 31)).setRow w7.heap.size x.cs) w.heap.size 31 zcs) := Lib.hid ((HZ7.out.below ((Below.refl _ w7).alloc (Nat.le_refl _) _)).grown (Only.row (h := w7.heap.size) x.cs) (by have := HZ7.out.lt; intro h9; injection h9 with h9; omega)); have HB8 : Hid (Below w.heap.size w ((w7.alloc (.cells zcs 31)).setRow w7.heap.size x.cs)) := Lib.hid (setRow_below (HB7.out.alloc HB7.out.size _) HB7.out.size (HB7.out.alloc HB7.out.size _).size); clear ho7 HZ6 HB6 HV6 hl HZ7)
    | (refine wpList_store_row rfl 31 (.tmp 10) (.tmp 42) rfl w7.heap.size x.cs rfl rfl 31 zcs HN7.out x.fit rfl x.one ?_; have HX8g := HX8; have HZ8g := HZ8; have HB8g := HB8; clear HX8 HZ8 HB8 HN7; obtain ⟨W8, hW8⟩ : ∃ W8, ((w7.alloc (.cells zcs 31)).setRow w7.heap.size x.cs) = W8 := ⟨_, rfl⟩; rw [hW8] at HX8g HZ8g HB8g ⊢; clear hW8)
    | (refine wpList_load_row rfl 31 (.tmp 10) rfl w7.heap.size rfl 31 x.cs (0, 0) _ HX8g.out Try.underlying31 rfl x.fit ?_)
    | (go_at_call 6; refine (bytes_no x HTy.out HC.out _).mono ?_; rintro e w9 ⟨rfl, hb9⟩; have HZ9 := Lib.hid (HZ8g.out.below hb9); have HB9 : Hid (Below w.heap.size w w9) := Lib.hid (HB8g.out.trans (hb9.mono HB8g.out.size)); clear hb9)
    | (refine wpList_store_row rfl 31 (.tmp 2) (.tmp 56) rfl w.heap.size zcs rfl rfl 31 zcs HZ9.out (NL.fit nl0) rfl (NL.one nl0) ?_))
  exact bodyPost_ret (v := .tuple #[.agg nl0.cs, .int .i64 3]) (results_cell_row_tmp rfl _ _ w.heap.size 31 nl0.cs (0, 0) _ _ rfl rfl (setRow_heap _ _ _ _ _ _ HZ9.out) Try.underlying31 rfl (NL.fit nl0)) rfl ⟨rfl, setRow_below HB9.out (Nat.le_refl _) HB9.out.size⟩

set_option maxHeartbeats 2000000 in
theorem decode_enc (p : List Int) (A : Option Addr) (n c : Nat) (w : World) (hp : Arr w (.slice A n c) p) (hm : p.length ≤ 1000000) (hb : ∀ v ∈ p, 0 ≤ v ∧ v ≤ 255) (hf : ((pr p).t (pn p)).ef = 0) (k : Nat) (hk : pk p = (k : Int)) (h1 : 1 ≤ k) (h5 : k ≤ 5) (x : NL) (hxe : gss k ((pr p).sub (pn p)) = x) (hty : x.ty) (hc : chk x = 0) (hn2 : 0 < p.length) (hd : decide (enc x = p) = false) :
    Calls Try.prog 45 #[.slice A n c] w fun e w' => e = .returned (.tuple #[.agg nl0.cs, .int .i64 3]) ∧ Below w.heap.size w w' := by
  have HEF := Lib.hid hf
  have HK : Hid ((ps0 p).got 1 = (k : Int)) := Lib.hid hk
  have HXx := Lib.hid hxe
  have HTy := Lib.hid hty
  clear hf hk hxe hty
  have HEx : Hid (∀ v ∈ enc x, 0 ≤ v ∧ v ≤ 255) := Lib.hid (enc_byte (HTy.out.ok hc) hc)
  have HN1 : Hid (0 < (enc x).length) := Lib.hid (by have := enc_len x; omega)
  have HN2 := Lib.hid hn2
  have HC := Lib.hid hc
  have HDec := Lib.hid hd
  clear hc hn2 hd
  have hZ := Has.new w 31 zcs
  have HZ : Hid (Has (w.alloc (.cells zcs 31)) w.heap.size 31 zcs) := Lib.hid hZ
  have HB : Hid (Below w.heap.size w (w.alloc (.cells zcs 31))) := Lib.hid ((Below.refl _ w).alloc (Nat.le_refl _) _)
  have HP : Hid (Arr (w.alloc (.cells zcs 31)) (.slice A n c) p) := Lib.hid (hp.below ((Below.refl _ w).alloc (Nat.le_refl _) _))
  have HP0 := Lib.hid hp
  have HX := Lib.hid hb
  clear hp hb hZ
  go_enter Try.func45, Try.ntmps45
  go_wp2_with fail
  refine (rnewA _ p _ HP.out hm HX.out).mono ?_
  rintro e1 w1 ⟨g, h, cap, rfl, hg, hh, hr, hb1⟩
  rw [World.size_alloc] at hg hh
  have HR := Lib.hid hr
  have HZ1 := Lib.hid (HZ.out.below hb1)
  have HB1 : Hid (Below w.heap.size w w1) := Lib.hid (HB.out.trans (hb1.mono HB.out.size))
  clear hr hb1 HZ HB HP
  go_wp2_with fail
  refine (rU1 g h cap _ _ HR.out).mono ?_
  rintro e2 w2 ⟨rfl, hr, ho⟩
  have hm1 : IntKind.i64.wrap ((ps0 p).got 1) = (k : Int) := (in1 (got_bd HR.out 1)).trans HK.out
  have HR2 := Lib.hid hr
  have HZ2 : Hid (Has w2 w.heap.size 31 zcs) := Lib.hid (HZ1.out.grown ho (by rintro ⟨⟩; omega))
  have HB2 : Hid (Below w.heap.size w w2) := Lib.hid (below_only HB1.out ho (by omega) HB1.out.size)
  clear hr ho HR HZ1 HB1
  go_wp2_with fail
  refine (rU1 g h cap _ _ HR2.out).mono ?_
  rintro e3 w3 ⟨rfl, hr, ho⟩
  have hm2 := in1 (got_bd HR2.out 1)
  have HR3 := Lib.hid hr
  have HZ3 : Hid (Has w3 w.heap.size 31 zcs) := Lib.hid (HZ2.out.grown ho (by rintro ⟨⟩; omega))
  have HB3 : Hid (Below w.heap.size w w3) := Lib.hid (below_only HB2.out ho (by omega) HB2.out.size)
  clear hr ho HR2 HZ2 HB2
  go_wp2_with fail
  refine (rsub g h cap _ _ HR3.out _).mono ?_
  rintro e4 w4 ⟨⟨g2, h2, cap2, rfl, hg2, hh2, hs⟩, hr, ho⟩
  have HR4 := Lib.hid hr
  have HV4 := Lib.hid hs
  have HZ4 : Hid (Has w4 w.heap.size 31 zcs) := Lib.hid (HZ3.out.grown ho (by rintro ⟨⟩; omega))
  have HB4 : Hid (Below w.heap.size w w4) := Lib.hid (below_only HB3.out ho (by omega) HB3.out.size)
  have hs3 : w.heap.size < w3.heap.size := HZ3.out.lt
  clear hr ho hs HR3 HZ3 HB3 hm1 hm2
  go_wp2_with fail
  refine (rfault g h cap _ _ _ _ _ _ HR4.out).mono ?_
  rintro e5 w5 ⟨rfl, rfl⟩
  have e6 : ((((ps0 p).take 1).2.take 1).2.take ((((ps0 p).take 1).2).got 1)).2.ef = 0 := HEF.out
  rw [e6]
  obtain ⟨ea, hea⟩ : ∃ ea, ((((ps0 p).take 1).2.take 1).2.take ((((ps0 p).take 1).2).got 1)).2.ea = ea := ⟨_, rfl⟩
  rw [hea]
  clear hea e6
  have HA6 : Hid (Below w4.heap.size w4 ((w4.alloc (.cells #[.int .i64 0, .int .i64 ea] 47)).alloc (.cells #[.int .i64 0, .int .i64 ea] 47))) := Lib.hid (((Below.refl _ w4).alloc (Nat.le_refl _) _).alloc (by simp) _)
  have hls : w.heap.size < w4.heap.size := HZ4.out.lt
  have hme := meth_read k h1 h5
  have hcf := call_read k h1 h5
  have HA6b : Hid (Below w.heap.size w ((w4.alloc (.cells #[.int .i64 0, .int .i64 ea] 47)).alloc (.cells #[.int .i64 0, .int .i64 ea] 47))) := Lib.hid (HB4.out.trans (HA6.out.mono HB4.out.size))
  have HA6z : Hid (Has ((w4.alloc (.cells #[.int .i64 0, .int .i64 ea] 47)).alloc (.cells #[.int .i64 0, .int .i64 ea] 47)) w.heap.size 31 zcs) := Lib.hid (HZ4.out.below HA6.out)
  have HA6v := Lib.hid (Rd.below HV4.out HA6.out)
  clear HR4 HV4 HZ4 HA6
  go_upto_region 7 with fail
  obtain ⟨W5, hW5⟩ : ∃ W5, ((w4.alloc (.cells #[.int .i64 0, .int .i64 ea] 47)).alloc (.cells #[.int .i64 0, .int .i64 ea] 47)) = W5 := ⟨_, rfl⟩
  rw [hW5] at HA6b HA6z HA6v ⊢
  clear hW5
  go_wp2_with (first
    | (go_at_call 23; refine (codings_any _).mono ?_; rintro e w6 ⟨b, rfl, hmp, hb6⟩; have hl := look_yes w6 b 5 hmp k h1 h5 true; simp only [if_true] at hl; have HZ6 := Lib.hid (HA6z.out.below hb6); have HB6 : Hid (Below w.heap.size w w6) := Lib.hid (HA6b.out.trans (hb6.mono HA6b.out.size)); have HV6 := Lib.hid (Rd.below HA6v.out hb6); clear hb6 hmp)
    | (go_at_fn (frd k); refine (read_is k h1 h5 g2 h2 cap2 _ x HXx.out _ HV6.out).mono ?_; rintro e w7 ⟨rfl, ho7⟩; have hs6 := HB6.out.size; have HZ7 : Hid (Has w7 w.heap.size 31 zcs) := Lib.hid (HZ6.out.grown ho7 (by intro h9; injection h9 with h9; omega)); have HB7 : Hid (Below w.heap.size w w7) := Lib.hid (below_only HB6.out ho7 (by omega) HB6.out.size); have hs7 := HB7.out.size; have HN7 : Hid (Has (w7.alloc (.cells zcs 31)) w7.heap.size 31 zcs) := Lib.hid (Has.new _ _ _); have HX8 : Hid (Has ((w7.alloc (.cells zcs 31)).setRow w7.heap.size x.cs) w7.heap.size 31 x.cs) := Lib.hid (setRow_heap _ _ _ _ _ _ HN7.out); have HZ8 : Hid (Has ((w7.alloc (.cells zcs 31)).setRow w7.heap.size x.cs) w.heap.size 31 zcs) := Lib.hid ((HZ7.out.below ((Below.refl _ w7).alloc (Nat.le_refl _) _)).grown (Only.row (h := w7.heap.size) x.cs) (by have := HZ7.out.lt; intro h9; injection h9 with h9; omega)); have HB8 : Hid (Below w.heap.size w ((w7.alloc (.cells zcs 31)).setRow w7.heap.size x.cs)) := Lib.hid (setRow_below (HB7.out.alloc HB7.out.size _) HB7.out.size (HB7.out.alloc HB7.out.size _).size); clear ho7 HZ6 HB6 HV6 hl HZ7)
    | (refine wpList_store_row rfl 31 (.tmp 10) (.tmp 42) rfl w7.heap.size x.cs rfl rfl 31 zcs HN7.out x.fit rfl x.one ?_; have HX8g := HX8; have HZ8g := HZ8; have HB8g := HB8; clear HX8 HZ8 HB8 HN7; obtain ⟨W8, hW8⟩ : ∃ W8, ((w7.alloc (.cells zcs 31)).setRow w7.heap.size x.cs) = W8 := ⟨_, rfl⟩; rw [hW8] at HX8g HZ8g HB8g ⊢; clear hW8)
    | (refine wpList_load_row rfl 31 (.tmp 10) rfl w7.heap.size rfl 31 x.cs (0, 0) _ HX8g.out Try.underlying31 rfl x.fit ?_)
    | (go_at_call 6; refine (bytes_yes x HTy.out HC.out _).mono ?_; rintro e w9 ⟨b9, c9, rfl, hrow9, hsz9, hb9⟩; have HZ9 := Lib.hid (HZ8g.out.below hb9); have HX9 := Lib.hid (HX8g.out.below hb9); have HB9 : Hid (Below w.heap.size w w9) := Lib.hid (HB8g.out.trans (hb9.mono HB8g.out.size)); have HE9 : Hid (Arr w9 (.slice (some ⟨b9, 0, none⟩) (enc x).length c9) (enc x)) := Lib.hid (.inr ⟨_, c9, rfl, hrow9.all.at_⟩); have HP9 := Lib.hid (HP0.out.below HB9.out); clear hb9 hrow9 hsz9)
    | (go_at_call 66; refine (equal_is _ _ _ _ false HDec.out _ HE9.out HP9.out HN1.out HN2.out HEx.out HX.out).mono ?_; rintro e w10 ⟨rfl, rfl⟩)
    | (refine wpList_store_row rfl 31 (.tmp 2) (.tmp 56) rfl w.heap.size zcs rfl rfl 31 zcs HZ9.out (NL.fit nl0) rfl (NL.one nl0) ?_))
  exact bodyPost_ret (v := .tuple #[.agg nl0.cs, .int .i64 3]) (results_cell_row_tmp rfl _ _ w.heap.size 31 nl0.cs (0, 0) _ _ rfl rfl (setRow_heap _ _ _ _ _ _ HZ9.out) Try.underlying31 rfl (NL.fit nl0)) rfl ⟨rfl, setRow_below HB9.out (Nat.le_refl _) HB9.out.size⟩

set_option maxHeartbeats 2000000 in
theorem decode_ok (p : List Int) (A : Option Addr) (n c : Nat) (w : World) (hp : Arr w (.slice A n c) p) (hm : p.length ≤ 1000000) (hb : ∀ v ∈ p, 0 ≤ v ∧ v ≤ 255) (hf : ((pr p).t (pn p)).ef = 0) (k : Nat) (hk : pk p = (k : Int)) (h1 : 1 ≤ k) (h5 : k ≤ 5) (x : NL) (hxe : gss k ((pr p).sub (pn p)) = x) (hty : x.ty) (hc : chk x = 0) (hn2 : 0 < p.length) (hd : decide (enc x = p) = true) :
    Calls Try.prog 45 #[.slice A n c] w fun e w' => e = .returned (.tuple #[.agg x.cs, .int .i64 0]) ∧ Below w.heap.size w w' := by
  have HEF := Lib.hid hf
  have HK : Hid ((ps0 p).got 1 = (k : Int)) := Lib.hid hk
  have HXx := Lib.hid hxe
  have HTy := Lib.hid hty
  clear hf hk hxe hty
  have HEx : Hid (∀ v ∈ enc x, 0 ≤ v ∧ v ≤ 255) := Lib.hid (enc_byte (HTy.out.ok hc) hc)
  have HN1 : Hid (0 < (enc x).length) := Lib.hid (by have := enc_len x; omega)
  have HN2 := Lib.hid hn2
  have HC := Lib.hid hc
  have HDec := Lib.hid hd
  clear hc hn2 hd
  have hZ := Has.new w 31 zcs
  have HZ : Hid (Has (w.alloc (.cells zcs 31)) w.heap.size 31 zcs) := Lib.hid hZ
  have HB : Hid (Below w.heap.size w (w.alloc (.cells zcs 31))) := Lib.hid ((Below.refl _ w).alloc (Nat.le_refl _) _)
  have HP : Hid (Arr (w.alloc (.cells zcs 31)) (.slice A n c) p) := Lib.hid (hp.below ((Below.refl _ w).alloc (Nat.le_refl _) _))
  have HP0 := Lib.hid hp
  have HX := Lib.hid hb
  clear hp hb hZ
  go_enter Try.func45, Try.ntmps45
  go_wp2_with fail
  refine (rnewA _ p _ HP.out hm HX.out).mono ?_
  rintro e1 w1 ⟨g, h, cap, rfl, hg, hh, hr, hb1⟩
  rw [World.size_alloc] at hg hh
  have HR := Lib.hid hr
  have HZ1 := Lib.hid (HZ.out.below hb1)
  have HB1 : Hid (Below w.heap.size w w1) := Lib.hid (HB.out.trans (hb1.mono HB.out.size))
  clear hr hb1 HZ HB HP
  go_wp2_with fail
  refine (rU1 g h cap _ _ HR.out).mono ?_
  rintro e2 w2 ⟨rfl, hr, ho⟩
  have hm1 : IntKind.i64.wrap ((ps0 p).got 1) = (k : Int) := (in1 (got_bd HR.out 1)).trans HK.out
  have HR2 := Lib.hid hr
  have HZ2 : Hid (Has w2 w.heap.size 31 zcs) := Lib.hid (HZ1.out.grown ho (by rintro ⟨⟩; omega))
  have HB2 : Hid (Below w.heap.size w w2) := Lib.hid (below_only HB1.out ho (by omega) HB1.out.size)
  clear hr ho HR HZ1 HB1
  go_wp2_with fail
  refine (rU1 g h cap _ _ HR2.out).mono ?_
  rintro e3 w3 ⟨rfl, hr, ho⟩
  have hm2 := in1 (got_bd HR2.out 1)
  have HR3 := Lib.hid hr
  have HZ3 : Hid (Has w3 w.heap.size 31 zcs) := Lib.hid (HZ2.out.grown ho (by rintro ⟨⟩; omega))
  have HB3 : Hid (Below w.heap.size w w3) := Lib.hid (below_only HB2.out ho (by omega) HB2.out.size)
  clear hr ho HR2 HZ2 HB2
  go_wp2_with fail
  refine (rsub g h cap _ _ HR3.out _).mono ?_
  rintro e4 w4 ⟨⟨g2, h2, cap2, rfl, hg2, hh2, hs⟩, hr, ho⟩
  have HR4 := Lib.hid hr
  have HV4 := Lib.hid hs
  have HZ4 : Hid (Has w4 w.heap.size 31 zcs) := Lib.hid (HZ3.out.grown ho (by rintro ⟨⟩; omega))
  have HB4 : Hid (Below w.heap.size w w4) := Lib.hid (below_only HB3.out ho (by omega) HB3.out.size)
  have hs3 : w.heap.size < w3.heap.size := HZ3.out.lt
  clear hr ho hs HR3 HZ3 HB3 hm1 hm2
  go_wp2_with fail
  refine (rfault g h cap _ _ _ _ _ _ HR4.out).mono ?_
  rintro e5 w5 ⟨rfl, rfl⟩
  have e6 : ((((ps0 p).take 1).2.take 1).2.take ((((ps0 p).take 1).2).got 1)).2.ef = 0 := HEF.out
  rw [e6]
  obtain ⟨ea, hea⟩ : ∃ ea, ((((ps0 p).take 1).2.take 1).2.take ((((ps0 p).take 1).2).got 1)).2.ea = ea := ⟨_, rfl⟩
  rw [hea]
  clear hea e6
  have HA6 : Hid (Below w4.heap.size w4 ((w4.alloc (.cells #[.int .i64 0, .int .i64 ea] 47)).alloc (.cells #[.int .i64 0, .int .i64 ea] 47))) := Lib.hid (((Below.refl _ w4).alloc (Nat.le_refl _) _).alloc (by simp) _)
  have hls : w.heap.size < w4.heap.size := HZ4.out.lt
  have hme := meth_read k h1 h5
  have hcf := call_read k h1 h5
  have HA6b : Hid (Below w.heap.size w ((w4.alloc (.cells #[.int .i64 0, .int .i64 ea] 47)).alloc (.cells #[.int .i64 0, .int .i64 ea] 47))) := Lib.hid (HB4.out.trans (HA6.out.mono HB4.out.size))
  have HA6z : Hid (Has ((w4.alloc (.cells #[.int .i64 0, .int .i64 ea] 47)).alloc (.cells #[.int .i64 0, .int .i64 ea] 47)) w.heap.size 31 zcs) := Lib.hid (HZ4.out.below HA6.out)
  have HA6v := Lib.hid (Rd.below HV4.out HA6.out)
  clear HR4 HV4 HZ4 HA6
  go_upto_region 7 with fail
  obtain ⟨W5, hW5⟩ : ∃ W5, ((w4.alloc (.cells #[.int .i64 0, .int .i64 ea] 47)).alloc (.cells #[.int .i64 0, .int .i64 ea] 47)) = W5 := ⟨_, rfl⟩
  rw [hW5] at HA6b HA6z HA6v ⊢
  clear hW5
  go_wp2_with (first
    | (go_at_call 23; refine (codings_any _).mono ?_; rintro e w6 ⟨b, rfl, hmp, hb6⟩; have hl := look_yes w6 b 5 hmp k h1 h5 true; simp only [if_true] at hl; have HZ6 := Lib.hid (HA6z.out.below hb6); have HB6 : Hid (Below w.heap.size w w6) := Lib.hid (HA6b.out.trans (hb6.mono HA6b.out.size)); have HV6 := Lib.hid (Rd.below HA6v.out hb6); clear hb6 hmp)
    | (go_at_fn (frd k); refine (read_is k h1 h5 g2 h2 cap2 _ x HXx.out _ HV6.out).mono ?_; rintro e w7 ⟨rfl, ho7⟩; have hs6 := HB6.out.size; have HZ7 : Hid (Has w7 w.heap.size 31 zcs) := Lib.hid (HZ6.out.grown ho7 (by intro h9; injection h9 with h9; omega)); have HB7 : Hid (Below w.heap.size w w7) := Lib.hid (below_only HB6.out ho7 (by omega) HB6.out.size); have hs7 := HB7.out.size; have HN7 : Hid (Has (w7.alloc (.cells zcs 31)) w7.heap.size 31 zcs) := Lib.hid (Has.new _ _ _); have HX8 : Hid (Has ((w7.alloc (.cells zcs 31)).setRow w7.heap.size x.cs) w7.heap.size 31 x.cs) := Lib.hid (setRow_heap _ _ _ _ _ _ HN7.out); have HZ8 : Hid (Has ((w7.alloc (.cells zcs 31)).setRow w7.heap.size x.cs) w.heap.size 31 zcs) := Lib.hid ((HZ7.out.below ((Below.refl _ w7).alloc (Nat.le_refl _) _)).grown (Only.row (h := w7.heap.size) x.cs) (by have := HZ7.out.lt; intro h9; injection h9 with h9; omega)); have HB8 : Hid (Below w.heap.size w ((w7.alloc (.cells zcs 31)).setRow w7.heap.size x.cs)) := Lib.hid (setRow_below (HB7.out.alloc HB7.out.size _) HB7.out.size (HB7.out.alloc HB7.out.size _).size); clear ho7 HZ6 HB6 HV6 hl HZ7)
    | (refine wpList_store_row rfl 31 (.tmp 10) (.tmp 42) rfl w7.heap.size x.cs rfl rfl 31 zcs HN7.out x.fit rfl x.one ?_; have HX8g := HX8; have HZ8g := HZ8; have HB8g := HB8; clear HX8 HZ8 HB8 HN7; obtain ⟨W8, hW8⟩ : ∃ W8, ((w7.alloc (.cells zcs 31)).setRow w7.heap.size x.cs) = W8 := ⟨_, rfl⟩; rw [hW8] at HX8g HZ8g HB8g ⊢; clear hW8)
    | (refine wpList_load_row rfl 31 (.tmp 10) rfl w7.heap.size rfl 31 x.cs (0, 0) _ HX8g.out Try.underlying31 rfl x.fit ?_)
    | (go_at_call 6; refine (bytes_yes x HTy.out HC.out _).mono ?_; rintro e w9 ⟨b9, c9, rfl, hrow9, hsz9, hb9⟩; have HZ9 := Lib.hid (HZ8g.out.below hb9); have HX9 := Lib.hid (HX8g.out.below hb9); have HB9 : Hid (Below w.heap.size w w9) := Lib.hid (HB8g.out.trans (hb9.mono HB8g.out.size)); have HE9 : Hid (Arr w9 (.slice (some ⟨b9, 0, none⟩) (enc x).length c9) (enc x)) := Lib.hid (.inr ⟨_, c9, rfl, hrow9.all.at_⟩); have HP9 := Lib.hid (HP0.out.below HB9.out); clear hb9 hrow9 hsz9)
    | (go_at_call 66; refine (equal_is _ _ _ _ true HDec.out _ HE9.out HP9.out HN1.out HN2.out HEx.out HX.out).mono ?_; rintro e w10 ⟨rfl, rfl⟩)
    | (refine wpList_load_row rfl 31 (.tmp 10) rfl w7.heap.size rfl 31 x.cs (0, 0) _ HX9.out Try.underlying31 rfl x.fit ?_)
    | (refine wpList_store_row rfl 31 (.tmp 2) (.tmp 57) rfl w.heap.size x.cs rfl rfl 31 zcs HZ9.out x.fit rfl x.one ?_))
  exact bodyPost_ret (v := .tuple #[.agg x.cs, .int .i64 0]) (results_cell_row_tmp rfl _ _ w.heap.size 31 x.cs (0, 0) _ _ rfl rfl (setRow_heap _ _ _ _ _ _ HZ9.out) Try.underlying31 rfl (NL.fit x)) rfl ⟨rfl, setRow_below HB9.out (Nat.le_refl _) HB9.out.size⟩

/-- **A piece decoded.** -/
theorem decode_any (p : List Int) (A : Option Addr) (n c : Nat) (w : World) (hp : Arr w (.slice A n c) p) (hn : 0 < p.length) (hm : p.length ≤ 1000000) (hb : ∀ v ∈ p, 0 ≤ v ∧ v ≤ 255) :
    Calls Try.prog 45 #[.slice A n c] w fun e w' => e = .returned (.tuple #[.agg (dec p).1.cs, .int .i64 (dec p).2]) ∧ Below w.heap.size w w' := by
  have hfine : (ps0 p).fine := ⟨hb, Nat.le_refl _, by simp⟩
  by_cases hf : ((pr p).t (pn p)).ef = 0
  · by_cases hk : pk p < 1 ∨ 5 < pk p
    · have e : dec p = (nl0, 6) := by unfold dec; rw [if_neg (by simpa using hf), if_pos hk]
      rw [e]
      exact decode_no p A n c w hp hm hb hf hk
    · obtain ⟨k, hkk⟩ : ∃ k : Nat, pk p = k := ⟨(pk p).toNat, by omega⟩
      have hkn : (pk p).toNat = k := by omega
      have hsub : ((pr p).sub (pn p)).fine := by
        have h3 := (hfine.t 1).t 1
        unfold RS.sub
        rcases three (pr p) (pn p) with h0 | ⟨h0, h1⟩ | ⟨h0, m, hm, h1⟩
        · rw [take_a _ h0]; exact ⟨by simp, Nat.le_refl _, by simp⟩
        · rw [take_b _ h0 h1]; exact ⟨by simp, Nat.le_refl _, by simp⟩
        · rw [hm, take_c m h0 h1]
          exact ⟨fun v hv => h3.byte v (List.mem_of_mem_drop (List.mem_of_mem_take hv)), Nat.le_refl _, by simp⟩
      have hty := gss_ty hsub k (by omega) (by omega)
      by_cases hc : chk (gss k ((pr p).sub (pn p))) = 0
      · cases hd : decide (enc (gss k ((pr p).sub (pn p))) = p) with
        | true =>
          have e : dec p = (gss k ((pr p).sub (pn p)), 0) := by
            unfold dec; rw [if_neg (by simpa using hf), if_neg hk, hkn, if_neg (by simp [hc]; simpa using hd)]
          rw [e]
          exact decode_ok p A n c w hp hm hb hf k hkk (by omega) (by omega) _ rfl hty hc hn hd
        | false =>
          have e : dec p = (nl0, 3) := by
            unfold dec; rw [if_neg (by simpa using hf), if_neg hk, hkn, if_pos (.inr (by simpa using hd))]
          rw [e]
          exact decode_enc p A n c w hp hm hb hf k hkk (by omega) (by omega) _ rfl hty hc hn hd
      · have e : dec p = (nl0, 3) := by
          unfold dec; rw [if_neg (by simpa using hf), if_neg hk, hkn, if_pos (.inl hc)]
        rw [e]
        exact decode_chk p A n c w hp hm hb hf k hkk (by omega) (by omega) _ rfl hty hc
  · have e : dec p = (nl0, ((pr p).t (pn p)).ef) := by unfold dec; rw [if_pos hf]
    rw [e]
    exact decode_short p A n c w hp hm hb (by simpa using hf)

end Go.Proofs.Ythhajknmokomjaa
