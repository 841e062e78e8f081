/- Packets: the type and the size of a frame in bytes; decode. -/
import Derived.Test.YtgdfpmnbofnjfaaPkQ
import Derived.RegionTactic
import Derived.ChangeAlike
import Derived.Deep.QuietTactic
import Derived.BigQuiet
namespace Go.Proofs.Ytgdfpmnbofnjfaa
open Go.RowKit Go.Shelf
set_option linter.unusedVariables false
set_option linter.unusedSimpArgs false
set_option maxRecDepth 100000

theorem or_i64 (x y : Int) (hx0 : 0 ≤ x) (hx1 : x ≤ 255) (hy0 : 0 ≤ y) (hy1 : y ≤ 255) : bits BinOp.or .i64 (x * 256) y = x * 256 + y := by
  obtain ⟨m, rfl⟩ := Int.eq_ofNat_of_zero_le hx0
  obtain ⟨c, rfl⟩ := Int.eq_ofNat_of_zero_le hy0
  have e1 : BitVec.ofInt 64 ((m : Int) * 256) = BitVec.ofNat 64 (m * 256) := by apply BitVec.eq_of_toNat_eq; simp; omega
  have e2 : BitVec.ofInt 64 (c : Int) = BitVec.ofNat 64 c := by apply BitVec.eq_of_toNat_eq; simp
  have e3 : (BitVec.ofNat 64 (m * 256) ||| BitVec.ofNat 64 c).toNat = m * 256 + c := by
    rw [BitVec.toNat_or, BitVec.toNat_ofNat, BitVec.toNat_ofNat, Nat.mod_eq_of_lt (by omega), Nat.mod_eq_of_lt (by omega)]
    have := Nat.shiftLeft_add_eq_or_of_lt (i := 8) (b := c) (by omega) m
    rw [Nat.shiftLeft_eq] at this
    exact this.symm
  show IntKind.i64.wrap ((BitVec.ofInt 64 ((m : Int) * 256) ||| BitVec.ofInt 64 (c : Int)).toNat : Int) = _
  rw [e1, e2, e3]
  exact IntWalk.i64_in _ (by omega)
theorem nm_two {bs : List Int} {p : Nat} (h : p + 1 < bs.length) : nm bs p 2 = bs[p] * 256 + bs[p + 1] := by
  unfold nm
  rw [List.drop_eq_getElem_cons (by omega : p < bs.length), List.drop_eq_getElem_cons (by omega : p + 1 < bs.length)]
  simp only [List.take_succ_cons, List.take_zero, num, List.foldl_cons, List.foldl_nil]
  omega
theorem nm_one {bs : List Int} {p : Nat} (h : p < bs.length) : nm bs p 1 = bs[p] := by
  unfold nm
  rw [List.drop_eq_getElem_cons h]
  simp only [List.take_succ_cons, List.take_zero, num, List.foldl_cons, List.foldl_nil]
  omega
theorem below_drewN (w : World) (n : Nat) : Below w.heap.size w (w.drewN n) := ⟨rfl, rfl, rfl, Nat.le_refl _, fun _ _ => rfl⟩

/-- The type that the bytes say. -/
def cod (bs : List Int) : Int := nm bs 12 2

theorem codeOf_any (v : Value) (bs : List Int) (w : World) (hA : Arr w v bs) (hl : 14 ≤ bs.length) (hby : ∀ v ∈ bs, 0 ≤ v ∧ v ≤ 255) :
    Calls Try.prog 78 #[v] w fun e w' => e = .returned (.int .i64 (cod bs)) ∧ Below w.heap.size w w' := by
  rcases hA with ⟨_, h⟩ | ⟨ad, c, rfl, h2⟩
  · rw [h] at hl; simp at hl
  obtain ⟨b, o, rfl, hs⟩ := h2.plain (by omega)
  have h12 := hs 12 (by omega)
  have h13 := hs 13 (by omega)
  obtain ⟨hx0, hx1⟩ := hby bs[12] (List.getElem_mem _)
  obtain ⟨hy0, hy1⟩ := hby bs[13] (List.getElem_mem _)
  have hc : cod bs = bs[12] * 256 + bs[13] := nm_two (p := 12) (by omega)
  obtain ⟨x, hx⟩ : ∃ x, bs[12] = x := ⟨_, rfl⟩
  obtain ⟨y, hy⟩ : ∃ y, bs[13] = y := ⟨_, rfl⟩
  rw [hx] at h12 hx0 hx1 hc
  rw [hy] at h13 hy0 hy1 hc
  have hor := or_i64 x y hx0 hx1 hy0 hy1
  rw [hc]
  obtain ⟨n, hn⟩ : ∃ n, bs.length = n := ⟨_, rfl⟩
  rw [hn] at hl ⊢
  have e1 : (12 : Int) < (n : Int) := by omega
  have e2 : (13 : Int) < (n : Int) := by omega
  clear hn hx hy hc h2 hs hby
  go_enter Try.func78, Try.ntmps78
  go_wp2
  go_quiet (fail)
  go_wp2
  go_ret
  exact ⟨rfl, below_drewN w _⟩

/-- The size that the bytes say, or why there is none. -/
def szP (bs : List Int) : Int × Int × Int :=
  if bs.length < 14 then (0, 4, bs.length) else if cod bs = 34997 then (22, 0, 0) else if cod bs = 2054 then (50, 0, 0)
  else if cod bs = 2048 then (if bs.length < 34 then (0, 4, bs.length) else if pd (nm bs 23 1) then (50, 0, 0) else (42, 0, 0)) else (0, 6, 12)

theorem size_results {W : World} {B : Nat} {z er i : Int} (tmps : Array Value) (h2 : tmps[2]?.getD undef = .int .i64 z) (h3 : tmps[3]?.getD undef = .pointer (some ⟨B, 0, none⟩)) (q : Has W B 37 #[.int .i64 er, .int .i64 i]) :
    (results Try.f66 tmps).run Try.prog W = .ok (.tuple #[.int .i64 z, .agg #[.int .i64 er, .int .i64 i]]) W := by
  have c30 : W.cell? ⟨B, 0, none⟩ = some (.int .i64 er) := q.cell 0
  have c31 : W.cell? ⟨B, 1, none⟩ = some (.int .i64 i) := q.cell 1
  simp [results, Try.f66, go_sem, h2, h3, c30, c31]

theorem size_short (v : Value) (bs : List Int) (w : World) (hA : Arr w v bs) (hl : bs.length < 14) :
    Calls Try.prog 66 #[v] w fun e w' => e = .returned (.tuple #[.int .i64 0, .agg #[.int .i64 4, .int .i64 bs.length]]) ∧ Below w.heap.size w w' := by
  obtain ⟨A, c, rfl⟩ := hA.form
  obtain ⟨n, hn⟩ : ∃ n, bs.length = n := ⟨_, rfl⟩
  rw [hn] at hl ⊢
  have e1 : (n : Int) < 14 := by omega
  clear hn hA
  have HQ : Hid (Has ((w.alloc (.cells #[.int .i64 4, .int .i64 n] 37)).alloc (.cells #[.int .i64 4, .int .i64 n] 37)).drew w.heap.size 37 #[.int .i64 4, .int .i64 n]) := Lib.hid ((Has.new w _ _).below ((Below.refl _ _).alloc (Nat.le_refl _) _).drew)
  have HB : Hid (Below w.heap.size w ((w.alloc (.cells #[.int .i64 4, .int .i64 n] 37)).alloc (.cells #[.int .i64 4, .int .i64 n] 37)).drew) := Lib.hid (((Below.refl _ w).alloc (Nat.le_refl _) _).alloc (by simp) _).drew
  go_enter Try.func66, Try.ntmps66
  go_wp2
  go_region
  go_wp2
  exact bodyPost_ret (v := .tuple #[.int .i64 0, .agg #[.int .i64 4, .int .i64 n]]) (size_results _ rfl rfl HQ.out) rfl ⟨rfl, HB.out⟩

set_option maxHeartbeats 1000000 in
theorem size_data (v : Value) (bs : List Int) (w : World) (hA : Arr w v bs) (hl : 14 ≤ bs.length) (hby : ∀ v ∈ bs, 0 ≤ v ∧ v ≤ 255) (hk : cod bs = 34997) :
    Calls Try.prog 66 #[v] w fun e w' => e = .returned (.tuple #[.int .i64 22, .agg #[.int .i64 0, .int .i64 0]]) ∧ Below w.heap.size w w' := by
  rcases hA with ⟨_, h⟩ | ⟨ad, c, rfl, h2⟩
  · rw [h] at hl; simp at hl
  obtain ⟨b, o, rfl, hs⟩ := h2.plain (by omega)
  have hA : Arr w (.slice (some ⟨b, o, none⟩) bs.length c) bs := .inr ⟨_, c, rfl, h2⟩
  have HS := Lib.hid hs
  have HLt := Lib.hid (cell_block (hs 0 (by omega)))
  obtain ⟨n, hn⟩ : ∃ n, bs.length = n := ⟨_, rfl⟩
  obtain ⟨k, hkk⟩ : ∃ k, cod bs = k := ⟨_, rfl⟩
  have HC : Hid (∀ W, Below w.heap.size w W → Calls Try.prog 78 #[.slice (some ⟨b, o, none⟩) n c] W fun e w' => e = .returned (.int .i64 k) ∧ Below W.heap.size W w') := Lib.hid (fun W hb => hkk ▸ hn ▸ codeOf_any _ bs W (hA.below hb) hl hby)
  rw [hkk] at hk
  rw [hn] at hl ⊢
  subst hk
  clear hn hkk hs h2 hA hby
  have HB0 : Hid (Below w.heap.size w ((w.alloc (.cells #[.int .i64 0, .int .i64 0] 37)).alloc (.cells #[.int .i64 4, .int .i64 n] 37))) := Lib.hid (((Below.refl _ w).alloc (Nat.le_refl _) _).alloc (by simp) _)
  have HQ0 : Hid (Has ((w.alloc (.cells #[.int .i64 0, .int .i64 0] 37)).alloc (.cells #[.int .i64 4, .int .i64 n] 37)) w.heap.size 37 #[.int .i64 0, .int .i64 0]) := Lib.hid ((Has.new w _ _).below ((Below.refl _ _).alloc (Nat.le_refl _) _))
  have HR0 : Hid (Has ((w.alloc (.cells #[.int .i64 0, .int .i64 0] 37)).alloc (.cells #[.int .i64 4, .int .i64 n] 37)) (w.heap.size + 1) 37 #[.int .i64 4, .int .i64 n]) := Lib.hid (by
    have h1 := Has.new (w.alloc (.cells #[.int .i64 0, .int .i64 0] 37)) 37 #[.int .i64 4, .int .i64 n]
    rw [World.size_alloc] at h1
    exact h1)
  go_enter Try.func66, Try.ntmps66
  go_wp2_with fail
  refine (HC.out _ HB0.out).mono ?_
  rintro e w1 ⟨rfl, hb⟩
  have HQ1 := Lib.hid (HQ0.out.below hb)
  have HR1 := Lib.hid (HR0.out.below hb)
  have HB1 := Lib.hid (HB0.out.trans (hb.mono HB0.out.size))
  have q0 := HQ1.out.cell 0
  have q1 := HQ1.out.cell 1
  have f0 := HQ1.out.free 0
  have f1 := HQ1.out.free 1
  have r0 := HR1.out.cell 0
  have r1 := HR1.out.cell 1
  simp only [List.getElem?_toArray, List.getElem?_cons_zero, List.getElem?_cons_succ] at q0 q1 r0 r1
  clear hb HQ0 HR0 HB0
  go_wp2_with fail
  exact bodyPost_ret (v := .tuple #[.int .i64 22, .agg #[.int .i64 0, .int .i64 0]]) (size_results _ rfl rfl ((HQ1.out.set_ 0 (.int .i64 0)).set_ 1 (.int .i64 0))) rfl ⟨rfl, (HB1.out.setCell (p := ⟨w.heap.size, 0, none⟩) (Nat.le_refl _) _).setCell (p := ⟨w.heap.size, 1, none⟩) (Nat.le_refl _) _⟩

set_option maxHeartbeats 1000000 in
theorem size_arp (v : Value) (bs : List Int) (w : World) (hA : Arr w v bs) (hl : 14 ≤ bs.length) (hby : ∀ v ∈ bs, 0 ≤ v ∧ v ≤ 255) (hk : cod bs = 2054) :
    Calls Try.prog 66 #[v] w fun e w' => e = .returned (.tuple #[.int .i64 50, .agg #[.int .i64 0, .int .i64 0]]) ∧ Below w.heap.size w w' := by
  rcases hA with ⟨_, h⟩ | ⟨ad, c, rfl, h2⟩
  · rw [h] at hl; simp at hl
  obtain ⟨b, o, rfl, hs⟩ := h2.plain (by omega)
  have hA : Arr w (.slice (some ⟨b, o, none⟩) bs.length c) bs := .inr ⟨_, c, rfl, h2⟩
  have HS := Lib.hid hs
  have HLt := Lib.hid (cell_block (hs 0 (by omega)))
  obtain ⟨n, hn⟩ : ∃ n, bs.length = n := ⟨_, rfl⟩
  obtain ⟨k, hkk⟩ : ∃ k, cod bs = k := ⟨_, rfl⟩
  have HC : Hid (∀ W, Below w.heap.size w W → Calls Try.prog 78 #[.slice (some ⟨b, o, none⟩) n c] W fun e w' => e = .returned (.int .i64 k) ∧ Below W.heap.size W w') := Lib.hid (fun W hb => hkk ▸ hn ▸ codeOf_any _ bs W (hA.below hb) hl hby)
  rw [hkk] at hk
  rw [hn] at hl ⊢
  subst hk
  clear hn hkk hs h2 hA hby
  have HB0 : Hid (Below w.heap.size w ((w.alloc (.cells #[.int .i64 0, .int .i64 0] 37)).alloc (.cells #[.int .i64 4, .int .i64 n] 37))) := Lib.hid (((Below.refl _ w).alloc (Nat.le_refl _) _).alloc (by simp) _)
  have HQ0 : Hid (Has ((w.alloc (.cells #[.int .i64 0, .int .i64 0] 37)).alloc (.cells #[.int .i64 4, .int .i64 n] 37)) w.heap.size 37 #[.int .i64 0, .int .i64 0]) := Lib.hid ((Has.new w _ _).below ((Below.refl _ _).alloc (Nat.le_refl _) _))
  have HR0 : Hid (Has ((w.alloc (.cells #[.int .i64 0, .int .i64 0] 37)).alloc (.cells #[.int .i64 4, .int .i64 n] 37)) (w.heap.size + 1) 37 #[.int .i64 4, .int .i64 n]) := Lib.hid (by
    have h1 := Has.new (w.alloc (.cells #[.int .i64 0, .int .i64 0] 37)) 37 #[.int .i64 4, .int .i64 n]
    rw [World.size_alloc] at h1
    exact h1)
  go_enter Try.func66, Try.ntmps66
  go_wp2_with fail
  refine (HC.out _ HB0.out).mono ?_
  rintro e w1 ⟨rfl, hb⟩
  have HQ1 := Lib.hid (HQ0.out.below hb)
  have HR1 := Lib.hid (HR0.out.below hb)
  have HB1 := Lib.hid (HB0.out.trans (hb.mono HB0.out.size))
  have q0 := HQ1.out.cell 0
  have q1 := HQ1.out.cell 1
  have f0 := HQ1.out.free 0
  have f1 := HQ1.out.free 1
  have r0 := HR1.out.cell 0
  have r1 := HR1.out.cell 1
  simp only [List.getElem?_toArray, List.getElem?_cons_zero, List.getElem?_cons_succ] at q0 q1 r0 r1
  clear hb HQ0 HR0 HB0
  go_wp2_with fail
  exact bodyPost_ret (v := .tuple #[.int .i64 50, .agg #[.int .i64 0, .int .i64 0]]) (size_results _ rfl rfl ((HQ1.out.set_ 0 (.int .i64 0)).set_ 1 (.int .i64 0))) rfl ⟨rfl, (HB1.out.setCell (p := ⟨w.heap.size, 0, none⟩) (Nat.le_refl _) _).setCell (p := ⟨w.heap.size, 1, none⟩) (Nat.le_refl _) _⟩

set_option maxHeartbeats 1000000 in
theorem size_ips (v : Value) (bs : List Int) (w : World) (hA : Arr w v bs) (hl : 14 ≤ bs.length) (hby : ∀ v ∈ bs, 0 ≤ v ∧ v ≤ 255) (hk : cod bs = 2048) (hm : bs.length < 34) :
    Calls Try.prog 66 #[v] w fun e w' => e = .returned (.tuple #[.int .i64 0, .agg #[.int .i64 4, .int .i64 bs.length]]) ∧ Below w.heap.size w w' := by
  rcases hA with ⟨_, h⟩ | ⟨ad, c, rfl, h2⟩
  · rw [h] at hl; simp at hl
  obtain ⟨b, o, rfl, hs⟩ := h2.plain (by omega)
  have hA : Arr w (.slice (some ⟨b, o, none⟩) bs.length c) bs := .inr ⟨_, c, rfl, h2⟩
  have HS := Lib.hid hs
  have HLt := Lib.hid (cell_block (hs 0 (by omega)))
  obtain ⟨n, hn⟩ : ∃ n, bs.length = n := ⟨_, rfl⟩
  obtain ⟨k, hkk⟩ : ∃ k, cod bs = k := ⟨_, rfl⟩
  have HC : Hid (∀ W, Below w.heap.size w W → Calls Try.prog 78 #[.slice (some ⟨b, o, none⟩) n c] W fun e w' => e = .returned (.int .i64 k) ∧ Below W.heap.size W w') := Lib.hid (fun W hb => hkk ▸ hn ▸ codeOf_any _ bs W (hA.below hb) hl hby)
  rw [hkk] at hk
  rw [hn] at hl hm ⊢
  subst hk
  clear hn hkk hs h2 hA hby
  have HB0 : Hid (Below w.heap.size w ((w.alloc (.cells #[.int .i64 0, .int .i64 0] 37)).alloc (.cells #[.int .i64 4, .int .i64 n] 37))) := Lib.hid (((Below.refl _ w).alloc (Nat.le_refl _) _).alloc (by simp) _)
  have HQ0 : Hid (Has ((w.alloc (.cells #[.int .i64 0, .int .i64 0] 37)).alloc (.cells #[.int .i64 4, .int .i64 n] 37)) w.heap.size 37 #[.int .i64 0, .int .i64 0]) := Lib.hid ((Has.new w _ _).below ((Below.refl _ _).alloc (Nat.le_refl _) _))
  have HR0 : Hid (Has ((w.alloc (.cells #[.int .i64 0, .int .i64 0] 37)).alloc (.cells #[.int .i64 4, .int .i64 n] 37)) (w.heap.size + 1) 37 #[.int .i64 4, .int .i64 n]) := Lib.hid (by
    have h1 := Has.new (w.alloc (.cells #[.int .i64 0, .int .i64 0] 37)) 37 #[.int .i64 4, .int .i64 n]
    rw [World.size_alloc] at h1
    exact h1)
  go_enter Try.func66, Try.ntmps66
  go_wp2_with fail
  refine (HC.out _ HB0.out).mono ?_
  rintro e w1 ⟨rfl, hb⟩
  have HQ1 := Lib.hid (HQ0.out.below hb)
  have HR1 := Lib.hid (HR0.out.below hb)
  have HB1 := Lib.hid (HB0.out.trans (hb.mono HB0.out.size))
  have q0 := HQ1.out.cell 0
  have q1 := HQ1.out.cell 1
  have f0 := HQ1.out.free 0
  have f1 := HQ1.out.free 1
  have r0 := HR1.out.cell 0
  have r1 := HR1.out.cell 1
  simp only [List.getElem?_toArray, List.getElem?_cons_zero, List.getElem?_cons_succ] at q0 q1 r0 r1
  clear hb HQ0 HR0 HB0
  go_wp2_with fail
  go_region
  go_wp2_with fail
  exact bodyPost_ret (v := .tuple #[.int .i64 0, .agg #[.int .i64 4, .int .i64 n]]) (size_results _ rfl rfl ((HQ1.out.set_ 0 (.int .i64 4)).set_ 1 (.int .i64 n))) rfl ⟨rfl, ((HB1.out.setCell (p := ⟨w.heap.size, 0, none⟩) (Nat.le_refl _) _).setCell (p := ⟨w.heap.size, 1, none⟩) (Nat.le_refl _) _).drew⟩

set_option maxHeartbeats 1000000 in
theorem size_ipt (v : Value) (bs : List Int) (w : World) (hA : Arr w v bs) (hl : 14 ≤ bs.length) (hby : ∀ v ∈ bs, 0 ≤ v ∧ v ≤ 255) (hk : cod bs = 2048) (hm : 34 ≤ bs.length) (hp : pd (nm bs 23 1) = true) :
    Calls Try.prog 66 #[v] w fun e w' => e = .returned (.tuple #[.int .i64 50, .agg #[.int .i64 0, .int .i64 0]]) ∧ Below w.heap.size w w' := by
  rcases hA with ⟨_, h⟩ | ⟨ad, c, rfl, h2⟩
  · rw [h] at hl; simp at hl
  obtain ⟨b, o, rfl, hs⟩ := h2.plain (by omega)
  have hA : Arr w (.slice (some ⟨b, o, none⟩) bs.length c) bs := .inr ⟨_, c, rfl, h2⟩
  have HS := Lib.hid hs
  have HLt := Lib.hid (cell_block (hs 0 (by omega)))
  obtain ⟨n, hn⟩ : ∃ n, bs.length = n := ⟨_, rfl⟩
  obtain ⟨k, hkk⟩ : ∃ k, cod bs = k := ⟨_, rfl⟩
  have HC : Hid (∀ W, Below w.heap.size w W → Calls Try.prog 78 #[.slice (some ⟨b, o, none⟩) n c] W fun e w' => e = .returned (.int .i64 k) ∧ Below W.heap.size W w') := Lib.hid (fun W hb => hkk ▸ hn ▸ codeOf_any _ bs W (hA.below hb) hl hby)
  have hby23 := hby bs[23] (List.getElem_mem _)
  have h23 := hs 23 (by omega)
  have hp1 : pd bs[23] = true := by rw [← nm_one (by omega)]; exact hp
  obtain ⟨y, hy⟩ : ∃ y, bs[23] = y := ⟨_, rfl⟩
  rw [hy] at h23 hp1 hby23
  obtain ⟨hy0, hy1⟩ := hby23
  have HP := Lib.hid hp1
  have H23 := Lib.hid h23
  clear h23 hp1 hy hp
  rw [hkk] at hk
  rw [hn] at hl hm ⊢
  subst hk
  clear hn hkk hs h2 hA hby
  have HB0 : Hid (Below w.heap.size w ((w.alloc (.cells #[.int .i64 0, .int .i64 0] 37)).alloc (.cells #[.int .i64 4, .int .i64 n] 37))) := Lib.hid (((Below.refl _ w).alloc (Nat.le_refl _) _).alloc (by simp) _)
  have HQ0 : Hid (Has ((w.alloc (.cells #[.int .i64 0, .int .i64 0] 37)).alloc (.cells #[.int .i64 4, .int .i64 n] 37)) w.heap.size 37 #[.int .i64 0, .int .i64 0]) := Lib.hid ((Has.new w _ _).below ((Below.refl _ _).alloc (Nat.le_refl _) _))
  have HR0 : Hid (Has ((w.alloc (.cells #[.int .i64 0, .int .i64 0] 37)).alloc (.cells #[.int .i64 4, .int .i64 n] 37)) (w.heap.size + 1) 37 #[.int .i64 4, .int .i64 n]) := Lib.hid (by
    have h1 := Has.new (w.alloc (.cells #[.int .i64 0, .int .i64 0] 37)) 37 #[.int .i64 4, .int .i64 n]
    rw [World.size_alloc] at h1
    exact h1)
  go_enter Try.func66, Try.ntmps66
  go_wp2_with fail
  refine (HC.out _ HB0.out).mono ?_
  rintro e w1 ⟨rfl, hb⟩
  have HQ1 := Lib.hid (HQ0.out.below hb)
  have HR1 := Lib.hid (HR0.out.below hb)
  have HB1 := Lib.hid (HB0.out.trans (hb.mono HB0.out.size))
  have q0 := HQ1.out.cell 0
  have q1 := HQ1.out.cell 1
  have f0 := HQ1.out.free 0
  have f1 := HQ1.out.free 1
  have r0 := HR1.out.cell 0
  have r1 := HR1.out.cell 1
  simp only [List.getElem?_toArray, List.getElem?_cons_zero, List.getElem?_cons_succ] at q0 q1 r0 r1
  clear hb HQ0 HR0 HB0
  have h23 := (HB1.out.cell (p := ⟨b, o + 23, none⟩) HLt.out).trans H23.out
  go_wp2_with (first | (go_at_call 79; refine (ported_any _ _).mono ?_; rintro e w9 ⟨rfl, rfl⟩; rw [HP.out]))
  exact bodyPost_ret (v := .tuple #[.int .i64 50, .agg #[.int .i64 0, .int .i64 0]]) (size_results _ rfl rfl ((HQ1.out.set_ 0 (.int .i64 0)).set_ 1 (.int .i64 0))) rfl ⟨rfl, (HB1.out.setCell (p := ⟨w.heap.size, 0, none⟩) (Nat.le_refl _) _).setCell (p := ⟨w.heap.size, 1, none⟩) (Nat.le_refl _) _⟩

set_option maxHeartbeats 1000000 in
theorem size_ipf (v : Value) (bs : List Int) (w : World) (hA : Arr w v bs) (hl : 14 ≤ bs.length) (hby : ∀ v ∈ bs, 0 ≤ v ∧ v ≤ 255) (hk : cod bs = 2048) (hm : 34 ≤ bs.length) (hp : pd (nm bs 23 1) = false) :
    Calls Try.prog 66 #[v] w fun e w' => e = .returned (.tuple #[.int .i64 42, .agg #[.int .i64 0, .int .i64 0]]) ∧ Below w.heap.size w w' := by
  rcases hA with ⟨_, h⟩ | ⟨ad, c, rfl, h2⟩
  · rw [h] at hl; simp at hl
  obtain ⟨b, o, rfl, hs⟩ := h2.plain (by omega)
  have hA : Arr w (.slice (some ⟨b, o, none⟩) bs.length c) bs := .inr ⟨_, c, rfl, h2⟩
  have HS := Lib.hid hs
  have HLt := Lib.hid (cell_block (hs 0 (by omega)))
  obtain ⟨n, hn⟩ : ∃ n, bs.length = n := ⟨_, rfl⟩
  obtain ⟨k, hkk⟩ : ∃ k, cod bs = k := ⟨_, rfl⟩
  have HC : Hid (∀ W, Below w.heap.size w W → Calls Try.prog 78 #[.slice (some ⟨b, o, none⟩) n c] W fun e w' => e = .returned (.int .i64 k) ∧ Below W.heap.size W w') := Lib.hid (fun W hb => hkk ▸ hn ▸ codeOf_any _ bs W (hA.below hb) hl hby)
  have hby23 := hby bs[23] (List.getElem_mem _)
  have h23 := hs 23 (by omega)
  have hp1 : pd bs[23] = false := by rw [← nm_one (by omega)]; exact hp
  obtain ⟨y, hy⟩ : ∃ y, bs[23] = y := ⟨_, rfl⟩
  rw [hy] at h23 hp1 hby23
  obtain ⟨hy0, hy1⟩ := hby23
  have HP := Lib.hid hp1
  have H23 := Lib.hid h23
  clear h23 hp1 hy hp
  rw [hkk] at hk
  rw [hn] at hl hm ⊢
  subst hk
  clear hn hkk hs h2 hA hby
  have HB0 : Hid (Below w.heap.size w ((w.alloc (.cells #[.int .i64 0, .int .i64 0] 37)).alloc (.cells #[.int .i64 4, .int .i64 n] 37))) := Lib.hid (((Below.refl _ w).alloc (Nat.le_refl _) _).alloc (by simp) _)
  have HQ0 : Hid (Has ((w.alloc (.cells #[.int .i64 0, .int .i64 0] 37)).alloc (.cells #[.int .i64 4, .int .i64 n] 37)) w.heap.size 37 #[.int .i64 0, .int .i64 0]) := Lib.hid ((Has.new w _ _).below ((Below.refl _ _).alloc (Nat.le_refl _) _))
  have HR0 : Hid (Has ((w.alloc (.cells #[.int .i64 0, .int .i64 0] 37)).alloc (.cells #[.int .i64 4, .int .i64 n] 37)) (w.heap.size + 1) 37 #[.int .i64 4, .int .i64 n]) := Lib.hid (by
    have h1 := Has.new (w.alloc (.cells #[.int .i64 0, .int .i64 0] 37)) 37 #[.int .i64 4, .int .i64 n]
    rw [World.size_alloc] at h1
    exact h1)
  go_enter Try.func66, Try.ntmps66
  go_wp2_with fail
  refine (HC.out _ HB0.out).mono ?_
  rintro e w1 ⟨rfl, hb⟩
  have HQ1 := Lib.hid (HQ0.out.below hb)
  have HR1 := Lib.hid (HR0.out.below hb)
  have HB1 := Lib.hid (HB0.out.trans (hb.mono HB0.out.size))
  have q0 := HQ1.out.cell 0
  have q1 := HQ1.out.cell 1
  have f0 := HQ1.out.free 0
  have f1 := HQ1.out.free 1
  have r0 := HR1.out.cell 0
  have r1 := HR1.out.cell 1
  simp only [List.getElem?_toArray, List.getElem?_cons_zero, List.getElem?_cons_succ] at q0 q1 r0 r1
  clear hb HQ0 HR0 HB0
  have h23 := (HB1.out.cell (p := ⟨b, o + 23, none⟩) HLt.out).trans H23.out
  go_wp2_with (first | (go_at_call 79; refine (ported_any _ _).mono ?_; rintro e w9 ⟨rfl, rfl⟩; rw [HP.out]))
  exact bodyPost_ret (v := .tuple #[.int .i64 42, .agg #[.int .i64 0, .int .i64 0]]) (size_results _ rfl rfl ((HQ1.out.set_ 0 (.int .i64 0)).set_ 1 (.int .i64 0))) rfl ⟨rfl, (HB1.out.setCell (p := ⟨w.heap.size, 0, none⟩) (Nat.le_refl _) _).setCell (p := ⟨w.heap.size, 1, none⟩) (Nat.le_refl _) _⟩

set_option maxHeartbeats 1000000 in
theorem size_none (v : Value) (bs : List Int) (w : World) (hA : Arr w v bs) (hl : 14 ≤ bs.length) (hby : ∀ v ∈ bs, 0 ≤ v ∧ v ≤ 255) (hk : cod bs ≠ 34997 ∧ cod bs ≠ 2054 ∧ cod bs ≠ 2048) :
    Calls Try.prog 66 #[v] w fun e w' => e = .returned (.tuple #[.int .i64 0, .agg #[.int .i64 6, .int .i64 12]]) ∧ Below w.heap.size w w' := by
  rcases hA with ⟨_, h⟩ | ⟨ad, c, rfl, h2⟩
  · rw [h] at hl; simp at hl
  obtain ⟨b, o, rfl, hs⟩ := h2.plain (by omega)
  have hA : Arr w (.slice (some ⟨b, o, none⟩) bs.length c) bs := .inr ⟨_, c, rfl, h2⟩
  have HS := Lib.hid hs
  have HLt := Lib.hid (cell_block (hs 0 (by omega)))
  obtain ⟨n, hn⟩ : ∃ n, bs.length = n := ⟨_, rfl⟩
  obtain ⟨k, hkk⟩ : ∃ k, cod bs = k := ⟨_, rfl⟩
  have HC : Hid (∀ W, Below w.heap.size w W → Calls Try.prog 78 #[.slice (some ⟨b, o, none⟩) n c] W fun e w' => e = .returned (.int .i64 k) ∧ Below W.heap.size W w') := Lib.hid (fun W hb => hkk ▸ hn ▸ codeOf_any _ bs W (hA.below hb) hl hby)
  rw [hkk] at hk
  rw [hn] at hl ⊢
  obtain ⟨k1, k2, k3⟩ := hk
  clear hn hkk hs h2 hA hby
  have HB0 : Hid (Below w.heap.size w ((w.alloc (.cells #[.int .i64 0, .int .i64 0] 37)).alloc (.cells #[.int .i64 4, .int .i64 n] 37))) := Lib.hid (((Below.refl _ w).alloc (Nat.le_refl _) _).alloc (by simp) _)
  have HQ0 : Hid (Has ((w.alloc (.cells #[.int .i64 0, .int .i64 0] 37)).alloc (.cells #[.int .i64 4, .int .i64 n] 37)) w.heap.size 37 #[.int .i64 0, .int .i64 0]) := Lib.hid ((Has.new w _ _).below ((Below.refl _ _).alloc (Nat.le_refl _) _))
  have HR0 : Hid (Has ((w.alloc (.cells #[.int .i64 0, .int .i64 0] 37)).alloc (.cells #[.int .i64 4, .int .i64 n] 37)) (w.heap.size + 1) 37 #[.int .i64 4, .int .i64 n]) := Lib.hid (by
    have h1 := Has.new (w.alloc (.cells #[.int .i64 0, .int .i64 0] 37)) 37 #[.int .i64 4, .int .i64 n]
    rw [World.size_alloc] at h1
    exact h1)
  go_enter Try.func66, Try.ntmps66
  go_wp2_with fail
  refine (HC.out _ HB0.out).mono ?_
  rintro e w1 ⟨rfl, hb⟩
  have HQ1 := Lib.hid (HQ0.out.below hb)
  have HR1 := Lib.hid (HR0.out.below hb)
  have HB1 := Lib.hid (HB0.out.trans (hb.mono HB0.out.size))
  have q0 := HQ1.out.cell 0
  have q1 := HQ1.out.cell 1
  have f0 := HQ1.out.free 0
  have f1 := HQ1.out.free 1
  have r0 := HR1.out.cell 0
  have r1 := HR1.out.cell 1
  simp only [List.getElem?_toArray, List.getElem?_cons_zero, List.getElem?_cons_succ] at q0 q1 r0 r1
  clear hb HQ0 HR0 HB0
  go_wp2_with fail
  exact bodyPost_ret (v := .tuple #[.int .i64 0, .agg #[.int .i64 6, .int .i64 12]]) (size_results _ rfl rfl ((HQ1.out.set_ 0 (.int .i64 6)).set_ 1 (.int .i64 12))) rfl ⟨rfl, (HB1.out.setCell (p := ⟨w.heap.size, 0, none⟩) (Nat.le_refl _) _).setCell (p := ⟨w.heap.size, 1, none⟩) (Nat.le_refl _) _⟩

theorem size_any (v : Value) (bs : List Int) (w : World) (hA : Arr w v bs) (hby : ∀ v ∈ bs, 0 ≤ v ∧ v ≤ 255) :
    Calls Try.prog 66 #[v] w fun e w' => e = .returned (.tuple #[.int .i64 (szP bs).1, .agg #[.int .i64 (szP bs).2.1, .int .i64 (szP bs).2.2]]) ∧ Below w.heap.size w w' := by
  unfold szP
  by_cases h1 : bs.length < 14
  · rw [if_pos h1]; exact size_short v bs w hA h1
  rw [if_neg h1]
  have hl : 14 ≤ bs.length := by omega
  by_cases h2 : cod bs = 34997
  · rw [if_pos h2]; exact size_data v bs w hA hl hby h2
  rw [if_neg h2]
  by_cases h3 : cod bs = 2054
  · rw [if_pos h3]; exact size_arp v bs w hA hl hby h3
  rw [if_neg h3]
  by_cases h4 : cod bs = 2048
  · rw [if_pos h4]
    by_cases h5 : bs.length < 34
    · rw [if_pos h5]; exact size_ips v bs w hA hl hby h4 h5
    rw [if_neg h5]
    cases hp : pd (nm bs 23 1)
    · exact size_ipf v bs w hA hl hby h4 (by omega) hp
    · exact size_ipt v bs w hA hl hby h4 (by omega) hp
  rw [if_neg h4]
  exact size_none v bs w hA hl hby ⟨h2, h3, h4⟩

end Go.Proofs.Ytgdfpmnbofnjfaa
