/- Packets: Sum. -/
import Derived.Test.YtgdfpmnbofnjfaaPkS
namespace Go.Proofs.Ytgdfpmnbofnjfaa
open Go.RowKit Go.Shelf
set_option linter.unusedVariables false
set_option linter.unusedSimpArgs false

attribute [local go_sem] Oper.semAt_some

theorem Has.kept {X Y : World} {row : Option Nat} {g : Nat} {t : TypeId} {cs : Array Value} (h : Has X g t cs) (hg : X.grownBy Y row) (hrow : ∀ r, row = some r → ∃ o : Obj, X.heap[r]? = some o ∧ o.isCells = false) : Has Y g t cs :=
  h.grown hg (fun e => by
    obtain ⟨o, ho, hc⟩ := hrow g e.symm
    rw [show X.heap[g]? = _ from h] at ho
    cases ho
    cases hc)
theorem keepsFrom_below {B : Nat} {W W' : World} (hb : Below W.heap.size W W') : KeepsFrom B W W' :=
  ⟨hb.size, fun k o _ hk _ => (hb.block k (Array.getElem?_eq_some_iff.1 hk).1).trans hk⟩

/-- Between two rounds. -/
structure SI (w0 : World) (bx : Value) (s : Int) (W : World) : Prop where
  acc : Has W w0.heap.size 23 #[.int .u32 s]
  bb : Has W (w0.heap.size + 1) 40 #[bx]
theorem si_own (w0 : World) (bx : Value) : Own (fun (pre : List N16) W => SI w0 bx (sacc (pre.map (·.1))) W) := fun s X Y row hs hg hr =>
  ⟨hs.acc.kept hg hr, hs.bb.kept hg hr⟩
def IS (w : World) (bx : Value) (pre : List N16) (W : World) : Prop := SI w bx (sacc (pre.map (·.1))) W ∧ Below w.heap.size w W
theorem is_own (w : World) (bx : Value) {B : Nat} (hB : w.heap.size ≤ B) : OwnFrom B (IS w bx) := OwnFrom.and (Own.from (si_own w bx) _) (ownFrom_below (Nat.le_refl _) hB)
theorem si_start (w0 : World) (bx : Value) : SI w0 bx 0 ((w0.alloc (.cells #[.int .u32 0] 23)).alloc (.cells #[bx] 40)) := by
  have a1 := Has.new w0 23 #[.int .u32 0]
  have a2 := Has.new (w0.alloc (.cells #[.int .u32 0] 23)) 40 #[bx]
  have up : ∀ {w : World} {g : Nat} {t : TypeId} {cs : Array Value} (o : Obj), Has w g t cs → Has (w.alloc o) g t cs := fun o h => h.below ((Below.refl _ _).alloc (Nat.le_refl _) _)
  simp only [World.size_alloc] at a2
  exact ⟨up _ a1, a2⟩
theorem xor16 (s : Int) (h0 : 0 ≤ s) (h1 : s ≤ 65535) : bits BinOp.xor .u16 IntKind.u16.max s = 65535 - s := by
  obtain ⟨m, rfl⟩ := Int.eq_ofNat_of_zero_le h0
  have hm : m < 2 ^ 16 := by omega
  have e1 : BitVec.ofInt 16 IntKind.u16.max = BitVec.allOnes 16 := by rfl
  have e2 : BitVec.ofInt 16 (m : Int) = BitVec.ofNat 16 m := by apply BitVec.eq_of_toNat_eq; simp
  have e3 : (BitVec.allOnes 16 ^^^ BitVec.ofNat 16 m).toNat = 65535 - m := by
    rw [BitVec.allOnes_xor, BitVec.toNat_not, BitVec.toNat_ofNat, Nat.mod_eq_of_lt hm]
  show IntKind.u16.wrap ((BitVec.ofInt 16 IntKind.u16.max ^^^ BitVec.ofInt 16 (m : Int)).toNat : Int) = _
  rw [e1, e2, e3]
  have e4 : IntKind.u16.wrap ((65535 - m : Nat) : Int) = ((65535 - m : Nat) : Int) % 65536 := by rfl
  rw [e4]
  omega

set_option maxRecDepth 100000 in
set_option maxHeartbeats 2000000 in
theorem sum_b (bs : List Int) (b o cap : Nat) (A : Option Addr) (hA : 0 < bs.length → A = some ⟨b, o, none⟩) (hm : bs.length ≤ 1000000) (hby : ∀ v ∈ bs, 0 ≤ v ∧ v ≤ 255) (w : World) (hb : 0 < bs.length → b < w.heap.size) (hsl : 0 < bs.length → Sl w b o bs) :
    Calls Try.prog 75 #[.slice A bs.length cap] w fun e w' => e = .returned (.int .u16 (sumP bs)) ∧ Below w.heap.size w w' := by
  obtain ⟨W0, hW0⟩ : ∃ W0, ((w.alloc (.cells #[.int .u32 0] 23)).alloc (.cells #[.slice A bs.length cap] 40)) = W0 := ⟨_, rfl⟩
  have hR0 : SI w (.slice A bs.length cap) 0 W0 := hW0 ▸ si_start w _
  have hB0 : Below w.heap.size w W0 := by
    rw [← hW0]
    exact (((Below.refl _ w).alloc (Nat.le_refl _) _).alloc (by simp) _)
  have hsz : W0.heap.size = w.heap.size + 2 := by rw [← hW0]; simp
  refine (callsIn_wide (n := 4)).1 ?_
  have h1 : 1 ≤ 4 := by omega
  refine callsIn_of_wp_marks Try.func75 rfl trivial ?_ rfl
  simp only [Try.ntmps75, List.size_toArray, List.length_cons, List.length_nil, Nat.reduceAdd, Nat.reduceSub, Array.replicate_succ, Array.replicate_zero, List.push_toArray, List.append_toArray, List.nil_append, List.cons_append]
  gi_wp2_with fail
  refine ⟨trivial, ?_⟩
  refine (numbers_in Fence.wide 3 trivial rfl _ A bs.length cap rfl _).mono ?_
  rintro e w' ⟨rfl, rfl⟩
  rw [hW0]
  gi_wp2_with fail
  have hst : SeqStopsK Fence.wide (4 - 1) Try.prog 93 #[.pointer (some ⟨w.heap.size + 1, 0, none⟩)] n16E (Keep2 w.heap.size (w.heap.size + 1)) (fun ys => ys.map (·.1) = nums bs) (fun pre => pre.map (·.1) <+: nums bs) bs.length W0 := by
    by_cases h0 : 0 < bs.length
    · exact numbers_stops Fence.wide 3 trivial rfl (by omega) (w.heap.size + 1) w.heap.size b o cap bs hm (hb h0) hby W0 (by omega) (by omega) (by rw [← hA h0]; exact hR0.bb.cell 0) ((hsl h0).below hB0)
    · obtain rfl : bs = [] := List.eq_nil_of_length_eq_zero (by omega)
      exact numbers_stops_none Fence.wide 3 trivial rfl (w.heap.size + 1) w.heap.size A cap W0 (by omega) (hR0.bb.cell 0)
  refine wpIn_rangeFunc_ownG rfl h1 (gf := 93) (lb := #[.pointer (some ⟨w.heap.size + 1, 0, none⟩)]) rfl trivial (enters_of Try.func93 (by kernel_rfl) rfl)
    hst (fun h k => h.trans k) (fun W l o o' hl h hc hw => ⟨belowK_b (w := W0) (by omega) W l o o' hl h hc hw, (grownBy_putObj' W l o').block _ (by have := (Array.getElem?_eq_some_iff.1 h).1; omega) (by intro h9; injection h9 with h9; omega)⟩) (Below.refl _ _) (fun _ => rfl)
    (IS w (.slice A bs.length cap)) (fun _ _ _ => False) (is_own w _ (by omega)) (fun c => fun _ _ _ _ h _ _ => h)
    ⟨hR0, hB0⟩
    (fun x => { tmps := #[.slice A bs.length cap, undef, .int .u16 0, .pointer (some ⟨w.heap.size, 0, none⟩), .int .u16 x.1, .slice A bs.length cap, .func (.func 93) #[] #[.pointer (some ⟨w.heap.size + 1, 0, none⟩)], .int .u16 x.1, undef, undef, undef, undef, undef, undef, undef, undef, undef, undef, undef, undef], defers := [] }) ?assign ?body ?done ?stop
  case assign =>
    intro l x W K hK
    simp only [n16E]
    gi_wp2
    exact hK
  case body =>
    rintro l pre x W ⟨hSI, hB⟩ hlen
    clear hA
    have hle := sacc_le pre
    obtain ⟨s, hs⟩ : ∃ s, sacc (pre.map (·.1)) = s := ⟨_, rfl⟩
    rw [hs] at hle hSI
    have HS := Lib.hid hs
    obtain ⟨hs0, hs1⟩ := hle
    obtain ⟨n, hn0, hn1⟩ := x
    have ca := hSI.acc.cell 0
    have fa := hSI.acc.free 0
    have hand := and_low (s + n) (by omega) (by omega)
    have HSI := Lib.hid hSI
    have HB := Lib.hid hB
    clear hs hSI hB hst hR0 hB0 hW0
    dsimp only
    gi_wp2_with fail
    have hb3 : Below w.heap.size W ((W.setCell ⟨w.heap.size, 0, none⟩ (.int .u32 (s + n))).setCell ⟨w.heap.size, 0, none⟩ (.int .u32 ((s + n) % 65536 + (s + n) / 65536))) :=
      ((Below.refl _ W).setCell (p := ⟨w.heap.size, 0, none⟩) (Nat.le_refl _) _).setCell (p := ⟨w.heap.size, 0, none⟩) (Nat.le_refl _) _
    have q1 := (HSI.out.acc.set_ 0 (.int .u32 (s + n))).set_ 0 (.int .u32 ((s + n) % 65536 + (s + n) / 65536))
    have q2 : ((W.setCell ⟨w.heap.size, 0, none⟩ (.int .u32 (s + n))).setCell ⟨w.heap.size, 0, none⟩ (.int .u32 ((s + n) % 65536 + (s + n) / 65536))).heap[w.heap.size + 1]? = W.heap[w.heap.size + 1]? :=
      (Below.heap_setCell _ _ _ _ (by show w.heap.size + 1 ≠ w.heap.size; omega)).trans (Below.heap_setCell _ _ _ _ (by show w.heap.size + 1 ≠ w.heap.size; omega))
    have hst2 : sacc ((pre ++ [(⟨n, hn0, hn1⟩ : N16)]).map (·.1)) = (s + n) % 65536 + (s + n) / 65536 := by
      rw [List.map_append, List.map_cons, List.map_nil, sacc_snoc, HS.out]
      rfl
    refine ⟨((KeepsOthers.setCell _ _ _).trans (KeepsOthers.setCell _ _ _)).from _, ⟨hb3, q2⟩, ⟨?_, ?_⟩, HB.out.trans hb3⟩
    · rw [hst2]; exact q1
    · exact (show _ = _ from q2).trans HSI.out.bb
  case done =>
    rintro D ys W hD hys ⟨hSI, hB⟩ hK
    clear hA
    have hle := sacc_le ys
    have HR : Hid (sumP bs = 65535 - sacc (ys.map (·.1))) := Lib.hid (by rw [hys]; rfl)
    obtain ⟨s, hs⟩ : ∃ s, sacc (ys.map (·.1)) = s := ⟨_, rfl⟩
    rw [hs] at hle hSI HR
    obtain ⟨hs0, hs1⟩ := hle
    have ca := hSI.acc.cell 0
    have HB := Lib.hid hB
    have HK := Lib.hid hK
    clear hs hSI hB hst hR0 hB0 hW0 hK hys
    have hx := xor16 s hs0 hs1
    gi_wp2_with fail
    all_goals first | (rename_i h9; exact absurd h9 (by decide)) | skip
    have HX := Lib.hid hx
    refine ⟨by simp, .inl ⟨_, _, rfl, run_takeDeferred HK.out, ?_⟩⟩
    refine ⟨.int .u16 (65535 - s), ?_, ?_⟩
    · first | kernel_rfl | rfl
    · exact ⟨by rw [HR.out], HB.out.trans (belowK_b (w := w) (Nat.le_refl _) W D _ _ (by omega) HK.out rfl rfl)⟩
  case stop =>
    rintro D c pre W hD hSp h hK
    exact h.elim

theorem sum_arr (v : Value) (bs : List Int) (w : World) (h : Arr w v bs) (hm : bs.length ≤ 1000000) (hby : ∀ v ∈ bs, 0 ≤ v ∧ v ≤ 255) :
    Calls Try.prog 75 #[v] w fun e w' => e = .returned (.int .u16 (sumP bs)) ∧ Below w.heap.size w w' := by
  rcases h with ⟨rfl, rfl⟩ | ⟨ad, c, rfl, h2⟩
  · exact sum_b [] 0 0 0 none (fun h => by simp at h) (by simp) (by simp) w (fun h => by simp at h) (fun h => by simp at h)
  · by_cases h0 : 0 < bs.length
    · obtain ⟨b, o, rfl, hs⟩ := h2.plain h0
      exact sum_b bs b o c _ (fun _ => rfl) hm hby w (fun _ => cell_block (hs 0 h0)) (fun _ => hs)
    · exact sum_b bs 0 0 c _ (fun h => absurd h h0) hm hby w (fun h => absurd h h0) (fun h => absurd h h0)

end Go.Proofs.Ytgdfpmnbofnjfaa
