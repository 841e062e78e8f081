/- Packets that carry frames: the frame inside read; written by gen_vxk.py. -/
import Derived.Test.YtgdfpmnbofnjfaaVxJ
import Derived.Test.YtgdfpmnbofnjfaaVxR
namespace Go.Proofs.Ytgdfpmnbofnjfaa
open Go.RowKit Go.Shelf
set_option linter.unusedVariables false
set_option linter.unusedSimpArgs false
set_option maxRecDepth 100000

theorem inner_results {w W : World} {x : FR} {er i : Int} (tmps : Array Value) (h2 : tmps[2]?.getD undef = .pointer (some ⟨w.heap.size, 0, none⟩)) (h3 : tmps[3]?.getD undef = .pointer (some ⟨w.heap.size + 1, 0, none⟩)) (q : RW w x er i W) :
    (results Try.f24 tmps).run Try.prog W = .ok (.tuple #[.agg x.cs, .agg #[.int .i64 er, .int .i64 i]]) W := by
  have hl := run_loadVar_row W w.heap.size 32 32 x.cs (0, 0) _ q.zer Try.underlying32 rfl x.fit
  have hl2 := run_loadVar_row W (w.heap.size + 1) 37 37 #[.int .i64 er, .int .i64 i] (0, 0) _ q.flt Try.underlying37 rfl ft_fit
  simp [results, Try.f24, asAddr, Result.andThen, h2, h3, hl, hl2]
theorem RW.at1 {w W : World} {x : FR} {er i : Int} (H : RW w x er i W) (i' : Int) : RW w x er i' (W.setCell ⟨w.heap.size + 1, 1, none⟩ (.int .i64 i')) :=
  ⟨H.zer.grown (only_set (only_refl W (w.heap.size + 1)) (p := ⟨w.heap.size + 1, 1, none⟩) (.inl rfl) _) (by intro h9; injection h9 with h9; omega),
   H.flt.set_ 1 (.int .i64 i'), H.lo.setCell (p := ⟨w.heap.size + 1, 1, none⟩) (by show w.heap.size ≤ w.heap.size + 1; omega) _⟩

/-- What the frame inside is read to. -/
def vin (bs : List Int) : FR × Int × Int := ((fread (bs.drop 36)).1, (fread (bs.drop 36)).2.1, if (fread (bs.drop 36)).2.1 = 0 then (fread (bs.drop 36)).2.2 else (fread (bs.drop 36)).2.2 + 36)
def InTo (w : World) (bs : List Int) (e : Ending) (w' : World) : Prop := e = .returned (.tuple #[.agg (vin bs).1.cs, .agg #[.int .i64 (vin bs).2.1, .int .i64 (vin bs).2.2]]) ∧ Below w.heap.size w w'

set_option maxHeartbeats 2000000 in
theorem inner_a (A : Option Addr) (c : Nat) (bs : List Int) (w : World) (hA : Arr w (.slice A bs.length c) bs) (hby : ∀ v ∈ bs, 0 ≤ v ∧ v ≤ 255) (h36 : 36 ≤ bs.length) (hm : bs.length ≤ 100000) (hcap : bs.length ≤ c) (hc : 36 < c) (h0 : (fread (bs.drop 36)).2.1 = 0) :
    Calls Try.prog 24 #[.slice A bs.length c] w (InTo w bs) := by
  obtain ⟨b, o, rfl, hs⟩ : ∃ b o, A = some ⟨b, o, none⟩ ∧ Sl w b o bs := by
    rcases hA with ⟨_, h⟩ | ⟨ad, c', h1, h2⟩
    · rw [h] at h36; simp at h36
    · injection h1 with h1 _ _
      subst h1
      obtain ⟨b, o, rfl, hs⟩ := h2.plain (by omega)
      exact ⟨b, o, rfl, hs⟩
  have harr : Arr w (.slice (some ⟨b, o + 36, none⟩) (bs.length - 36) (c - 36)) (bs.drop 36) := .inr ⟨_, c - 36, by rw [List.length_drop], Sl.at_ (fun j hj => by
    rw [List.length_drop] at hj
    have h := hs (36 + j) (by omega)
    rw [← Nat.add_assoc] at h
    rw [h]
    simp)⟩
  have hby2 : ∀ v ∈ bs.drop 36, 0 ≤ v ∧ v ≤ 255 := fun v hv => hby v (List.mem_of_mem_drop hv)
  obtain ⟨f, hf⟩ : ∃ f, (fread (bs.drop 36)).1 = f := ⟨_, rfl⟩
  obtain ⟨er, her⟩ : ∃ er, (fread (bs.drop 36)).2.1 = er := ⟨_, rfl⟩
  obtain ⟨i, hi⟩ : ∃ i, (fread (bs.drop 36)).2.2 = i := ⟨_, rfl⟩
  have HF : Hid (vin bs = (f, 0, i)) := Lib.hid (by unfold vin; rw [hf, hi, if_pos h0, h0])
  have HRd : Hid (∀ W, Below w.heap.size w W → Calls Try.prog 42 #[.slice (some ⟨b, o + 36, none⟩) (bs.length - 36) (c - 36)] W fun e w' => e = .returned (.tuple #[.agg f.cs, .agg #[.int .i64 er, .int .i64 i]]) ∧ Below W.heap.size W w') := Lib.hid (fun W hb => by
    have h := read_any _ (bs.drop 36) W (harr.below hb) hby2
    unfold ReadsTo at h
    rw [hf, her, hi] at h
    exact h)
  rw [her] at h0
  subst h0
  have hmf : ∀ (fn : Fn) (first cap : Array Value) (w : World), (Instr.makeFunc fn first cap).run Try.prog w = .ok (.func fn first cap) w := fun _ _ _ _ => rfl
  obtain ⟨n, hn⟩ : ∃ n, bs.length = n := ⟨_, rfl⟩
  rw [hn] at h36 hcap HRd ⊢
  have e1 : (36 : Int) ≤ (n : Int) := by omega
  have e2 : (36 : Int) < (c : Int) := by omega
  have e3 : 36 < c := by omega
  clear hn hA harr hs hby hby2 hf hm
  obtain ⟨W2, hW2⟩ : ∃ W2, ((w.alloc (.cells #[.int .u64 0, .int .u64 0, .int .i64 0, .int .i64 0, .int .u64 0, .int .u32 0, .int .u64 0, .int .u32 0, .int .u32 0, .int .u32 0, .int .i64 0, .int .i64 0, .int .i64 0, .int .i64 0, .int .u64 0] 32)).alloc (.cells #[.int .i64 0, .int .i64 0] 37)) = W2 := ⟨_, rfl⟩
  have HW : Hid (RW w fr0 0 0 W2) := Lib.hid (hW2 ▸ RW.start w)
  go_enter_defers Try.func24, Try.ntmps24
  go_wp2_with fail
  try rw [hW2]
  clear hW2
  refine (HRd.out _ HW.out.lo).mono ?_
  rintro e w3 ⟨rfl, hb⟩
  have HV := Lib.hid (HW.out.below hb)
  clear hb HW
  have q0 := HV.out.flt.cell 0
  have q1 := HV.out.flt.cell 1
  have p0 := HV.out.flt.free 0
  have p1 := HV.out.flt.free 1
  simp only [List.getElem?_toArray, List.getElem?_cons_zero, List.getElem?_cons_succ] at q0 q1
  go_wp2_with (first | (refine wpList_store_row rfl 32 (.tmp 2) (.tmp 8) rfl w.heap.size f.cs rfl rfl 32 fr0.cs HV.out.zer (FR.fit f) rfl (FR.one f) ?_; have HX := Lib.hid (HV.out.row f); generalize w3.setRow w.heap.size f.cs = W5 at HX ⊢; clear q0 q1 p0 p1; have q0 := HX.out.flt.cell 0; have q1 := HX.out.flt.cell 1; have p0 := HX.out.flt.free 0; have p1 := HX.out.flt.free 1; simp only [List.getElem?_toArray, List.getElem?_cons_zero, List.getElem?_cons_succ] at q0 q1))
  have HE := Lib.hid (HX.out.set 0 i)
  refine leaves_cons (f := 41) (args := #[.pointer (some ⟨w.heap.size + 1, 0, none⟩)]) (by simp) (by simp [go_sem]) ?_
  refine (vdefer_no (w.heap.size + 1) i .returning _ HE.out.flt).mono ?_
  rintro e u' w4 ⟨rfl, rfl, rfl⟩
  exact ⟨_, inner_results _ rfl rfl HE.out, by rw [HF.out], HE.out.lo⟩

set_option maxHeartbeats 2000000 in
theorem inner_b (A : Option Addr) (c : Nat) (bs : List Int) (w : World) (hA : Arr w (.slice A bs.length c) bs) (hby : ∀ v ∈ bs, 0 ≤ v ∧ v ≤ 255) (h36 : 36 ≤ bs.length) (hm : bs.length ≤ 100000) (hcap : bs.length ≤ c) (hc : 36 < c) (h0 : (fread (bs.drop 36)).2.1 ≠ 0) :
    Calls Try.prog 24 #[.slice A bs.length c] w (InTo w bs) := by
  obtain ⟨b, o, rfl, hs⟩ : ∃ b o, A = some ⟨b, o, none⟩ ∧ Sl w b o bs := by
    rcases hA with ⟨_, h⟩ | ⟨ad, c', h1, h2⟩
    · rw [h] at h36; simp at h36
    · injection h1 with h1 _ _
      subst h1
      obtain ⟨b, o, rfl, hs⟩ := h2.plain (by omega)
      exact ⟨b, o, rfl, hs⟩
  have harr : Arr w (.slice (some ⟨b, o + 36, none⟩) (bs.length - 36) (c - 36)) (bs.drop 36) := .inr ⟨_, c - 36, by rw [List.length_drop], Sl.at_ (fun j hj => by
    rw [List.length_drop] at hj
    have h := hs (36 + j) (by omega)
    rw [← Nat.add_assoc] at h
    rw [h]
    simp)⟩
  have hby2 : ∀ v ∈ bs.drop 36, 0 ≤ v ∧ v ≤ 255 := fun v hv => hby v (List.mem_of_mem_drop hv)
  obtain ⟨f, hf⟩ : ∃ f, (fread (bs.drop 36)).1 = f := ⟨_, rfl⟩
  obtain ⟨er, her⟩ : ∃ er, (fread (bs.drop 36)).2.1 = er := ⟨_, rfl⟩
  obtain ⟨i, hi⟩ : ∃ i, (fread (bs.drop 36)).2.2 = i := ⟨_, rfl⟩
  have HF : Hid (vin bs = (f, er, i + 36)) := Lib.hid (by unfold vin; rw [hf, hi, if_neg h0, her])
  obtain ⟨_, hi0, hi1⟩ := fread_bad h0
  rw [hi] at hi0 hi1
  have hdl : (bs.drop 36).length = bs.length - 36 := List.length_drop
  have hi2 : i ≤ 1000000 := by omega
  have HRd : Hid (∀ W, Below w.heap.size w W → Calls Try.prog 42 #[.slice (some ⟨b, o + 36, none⟩) (bs.length - 36) (c - 36)] W fun e w' => e = .returned (.tuple #[.agg f.cs, .agg #[.int .i64 er, .int .i64 i]]) ∧ Below W.heap.size W w') := Lib.hid (fun W hb => by
    have h := read_any _ (bs.drop 36) W (harr.below hb) hby2
    unfold ReadsTo at h
    rw [hf, her, hi] at h
    exact h)
  rw [her] at h0
  have hne : (er != 0) = true := by simpa using h0
  have hmf : ∀ (fn : Fn) (first cap : Array Value) (w : World), (Instr.makeFunc fn first cap).run Try.prog w = .ok (.func fn first cap) w := fun _ _ _ _ => rfl
  obtain ⟨n, hn⟩ : ∃ n, bs.length = n := ⟨_, rfl⟩
  rw [hn] at h36 hcap HRd ⊢
  have e1 : (36 : Int) ≤ (n : Int) := by omega
  have e2 : (36 : Int) < (c : Int) := by omega
  have e3 : 36 < c := by omega
  clear hn hA harr hs hby hby2 hf hm
  obtain ⟨W2, hW2⟩ : ∃ W2, ((w.alloc (.cells #[.int .u64 0, .int .u64 0, .int .i64 0, .int .i64 0, .int .u64 0, .int .u32 0, .int .u64 0, .int .u32 0, .int .u32 0, .int .u32 0, .int .i64 0, .int .i64 0, .int .i64 0, .int .i64 0, .int .u64 0] 32)).alloc (.cells #[.int .i64 0, .int .i64 0] 37)) = W2 := ⟨_, rfl⟩
  have HW : Hid (RW w fr0 0 0 W2) := Lib.hid (hW2 ▸ RW.start w)
  go_enter_defers Try.func24, Try.ntmps24
  go_wp2_with fail
  try rw [hW2]
  clear hW2
  refine (HRd.out _ HW.out.lo).mono ?_
  rintro e w3 ⟨rfl, hb⟩
  have HV := Lib.hid (HW.out.below hb)
  clear hb HW
  have q0 := HV.out.flt.cell 0
  have q1 := HV.out.flt.cell 1
  have p0 := HV.out.flt.free 0
  have p1 := HV.out.flt.free 1
  simp only [List.getElem?_toArray, List.getElem?_cons_zero, List.getElem?_cons_succ] at q0 q1
  go_wp2_with (first | (refine wpList_store_row rfl 32 (.tmp 2) (.tmp 8) rfl w.heap.size f.cs rfl rfl 32 fr0.cs HV.out.zer (FR.fit f) rfl (FR.one f) ?_; have HX := Lib.hid (HV.out.row f); generalize w3.setRow w.heap.size f.cs = W5 at HX ⊢; clear q0 q1 p0 p1; have q0 := HX.out.flt.cell 0; have q1 := HX.out.flt.cell 1; have p0 := HX.out.flt.free 0; have p1 := HX.out.flt.free 1; simp only [List.getElem?_toArray, List.getElem?_cons_zero, List.getElem?_cons_succ] at q0 q1))
  have HE := Lib.hid (HX.out.set er i)
  refine leaves_cons (f := 41) (args := #[.pointer (some ⟨w.heap.size + 1, 0, none⟩)]) (by simp) (by simp [go_sem]) ?_
  refine (vdefer_yes (w.heap.size + 1) er i hne hi0 hi2 .returning _ HE.out.flt).mono ?_
  rintro e u' w4 ⟨rfl, rfl, rfl⟩
  have HE2 := Lib.hid (HE.out.at1 (i + 36))
  exact ⟨_, inner_results _ rfl rfl HE2.out, by rw [HF.out], HE2.out.lo⟩

set_option maxHeartbeats 2000000 in
theorem inner_c (A : Option Addr) (c : Nat) (bs : List Int) (w : World) (hA : Arr w (.slice A bs.length c) bs) (hby : ∀ v ∈ bs, 0 ≤ v ∧ v ≤ 255) (h36 : 36 ≤ bs.length) (hm : bs.length ≤ 100000) (hcap : bs.length ≤ c) (hc : c = 36) (h0 : (fread (bs.drop 36)).2.1 ≠ 0) :
    Calls Try.prog 24 #[.slice A bs.length c] w (InTo w bs) := by
  have hn : bs.length = 36 := by omega
  have hd : bs.drop 36 = [] := List.drop_eq_nil_of_le (by omega)
  obtain ⟨b, o, rfl, hs⟩ : ∃ b o, A = some ⟨b, o, none⟩ ∧ Sl w b o bs := by
    rcases hA with ⟨_, h⟩ | ⟨ad, c', h1, h2⟩
    · rw [h] at h36; simp at h36
    · injection h1 with h1 _ _
      subst h1
      obtain ⟨b, o, rfl, hs⟩ := h2.plain (by omega)
      exact ⟨b, o, rfl, hs⟩
  have harr : Arr w (.slice (some ⟨b, o, none⟩) 0 0) (bs.drop 36) := .inr ⟨_, 0, by rw [hd]; rfl, fun j u hu => by rw [hd] at hu; simp at hu⟩
  subst hc
  have hby2 : ∀ v ∈ bs.drop 36, 0 ≤ v ∧ v ≤ 255 := fun v hv => hby v (List.mem_of_mem_drop hv)
  obtain ⟨f, hf⟩ : ∃ f, (fread (bs.drop 36)).1 = f := ⟨_, rfl⟩
  obtain ⟨er, her⟩ : ∃ er, (fread (bs.drop 36)).2.1 = er := ⟨_, rfl⟩
  obtain ⟨i, hi⟩ : ∃ i, (fread (bs.drop 36)).2.2 = i := ⟨_, rfl⟩
  have HF : Hid (vin bs = (f, er, i + 36)) := Lib.hid (by unfold vin; rw [hf, hi, if_neg h0, her])
  obtain ⟨_, hi0, hi1⟩ := fread_bad h0
  rw [hi] at hi0 hi1
  have hdl : (bs.drop 36).length = bs.length - 36 := List.length_drop
  have hi2 : i ≤ 1000000 := by omega
  have HRd : Hid (∀ W, Below w.heap.size w W → Calls Try.prog 42 #[.slice (some ⟨b, o, none⟩) 0 0] W fun e w' => e = .returned (.tuple #[.agg f.cs, .agg #[.int .i64 er, .int .i64 i]]) ∧ Below W.heap.size W w') := Lib.hid (fun W hb => by
    have h := read_any _ (bs.drop 36) W (harr.below hb) hby2
    unfold ReadsTo at h
    rw [hf, her, hi] at h
    exact h)
  rw [her] at h0
  have hne : (er != 0) = true := by simpa using h0
  have hmf : ∀ (fn : Fn) (first cap : Array Value) (w : World), (Instr.makeFunc fn first cap).run Try.prog w = .ok (.func fn first cap) w := fun _ _ _ _ => rfl
  rw [hn]
  clear hn hA harr hs hby hby2 hf hm h36 hcap hd
  obtain ⟨W2, hW2⟩ : ∃ W2, ((w.alloc (.cells #[.int .u64 0, .int .u64 0, .int .i64 0, .int .i64 0, .int .u64 0, .int .u32 0, .int .u64 0, .int .u32 0, .int .u32 0, .int .u32 0, .int .i64 0, .int .i64 0, .int .i64 0, .int .i64 0, .int .u64 0] 32)).alloc (.cells #[.int .i64 0, .int .i64 0] 37)) = W2 := ⟨_, rfl⟩
  have HW : Hid (RW w fr0 0 0 W2) := Lib.hid (hW2 ▸ RW.start w)
  go_enter_defers Try.func24, Try.ntmps24
  go_wp2_with fail
  try rw [hW2]
  clear hW2
  refine (HRd.out _ HW.out.lo).mono ?_
  rintro e w3 ⟨rfl, hb⟩
  have HV := Lib.hid (HW.out.below hb)
  clear hb HW
  have q0 := HV.out.flt.cell 0
  have q1 := HV.out.flt.cell 1
  have p0 := HV.out.flt.free 0
  have p1 := HV.out.flt.free 1
  simp only [List.getElem?_toArray, List.getElem?_cons_zero, List.getElem?_cons_succ] at q0 q1
  go_wp2_with (first | (refine wpList_store_row rfl 32 (.tmp 2) (.tmp 8) rfl w.heap.size f.cs rfl rfl 32 fr0.cs HV.out.zer (FR.fit f) rfl (FR.one f) ?_; have HX := Lib.hid (HV.out.row f); generalize w3.setRow w.heap.size f.cs = W5 at HX ⊢; clear q0 q1 p0 p1; have q0 := HX.out.flt.cell 0; have q1 := HX.out.flt.cell 1; have p0 := HX.out.flt.free 0; have p1 := HX.out.flt.free 1; simp only [List.getElem?_toArray, List.getElem?_cons_zero, List.getElem?_cons_succ] at q0 q1))
  have HE := Lib.hid (HX.out.set er i)
  refine leaves_cons (f := 41) (args := #[.pointer (some ⟨w.heap.size + 1, 0, none⟩)]) (by simp) (by simp [go_sem]) ?_
  refine (vdefer_yes (w.heap.size + 1) er i hne hi0 hi2 .returning _ HE.out.flt).mono ?_
  rintro e u' w4 ⟨rfl, rfl, rfl⟩
  have HE2 := Lib.hid (HE.out.at1 (i + 36))
  exact ⟨_, inner_results _ rfl rfl HE2.out, by rw [HF.out], HE2.out.lo⟩

theorem inner_any (A : Option Addr) (c : Nat) (bs : List Int) (w : World) (hA : Arr w (.slice A bs.length c) bs) (hby : ∀ v ∈ bs, 0 ≤ v ∧ v ≤ 255) (h36 : 36 ≤ bs.length) (hm : bs.length ≤ 100000) (hcap : bs.length ≤ c) :
    Calls Try.prog 24 #[.slice A bs.length c] w (InTo w bs) := by
  by_cases hc : 36 < c
  · by_cases h0 : (fread (bs.drop 36)).2.1 = 0
    · exact inner_a A c bs w hA hby h36 hm hcap hc h0
    · exact inner_b A c bs w hA hby h36 hm hcap hc h0
  · refine inner_c A c bs w hA hby h36 hm hcap (by omega) ?_
    rw [List.drop_eq_nil_of_le (by omega)]
    decide

end Go.Proofs.Ytgdfpmnbofnjfaa
