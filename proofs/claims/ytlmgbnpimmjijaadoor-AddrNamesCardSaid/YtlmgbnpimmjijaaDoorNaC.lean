/- AddrNames: the texts of identifiers and hardware addresses, in a world whose table of powers nobody reads. -/
import Derived.Test.YtlmgbnpimmjijaaDoorMACText
namespace Go.Proofs.YtlmgbnpimmjijaaDoor
open Go.RowKit Go.Shelf

attribute [local go_sem] Oper.semAt_some

theorem bld_start (w : World) : Bld w.heap.size w.heap.size (Lib.byteCells []) (w.alloc (.cells #[.pointer none, .slice none 0 0] 83)) :=
  .inl ⟨Nat.le_refl _, .slice none 0 0, by simpa using World.alloc_heap_new w (.cells #[.pointer none, .slice none 0 0] 83), World.ownsRow_nil _ _ _ _, by simp [Value.ownBlock]⟩

set_option maxRecDepth 100000 in
set_option maxHeartbeats 2000000 in
theorem colons_n (N : Nat) (hN : N ≤ 16) (zs : List Int) (hr : ∀ k, 0 ≤ byteAt zs k ∧ byteAt zs k ≤ 255) (gf : Nat) (lb : Array Value) (w : World)
    (eg : ∀ args w, (callFunc gf args).run Tryd.prog w = .ok (.enter gf args) w)
    (hseq : ∀ W0, Below w.heap.size w W0 → SeqStopsK Fence.wide 2 Tryd.prog gf lb (octN N zs) (Below w.heap.size) (fun ys => ys = List.finRange N) (fun _ => True) N W0) :
    Calls Tryd.prog 30 #[.func (.func gf) #[] lb] w fun en W' => en = .returned (.string ⟨(coP zs (List.finRange N)).toArray⟩) ∧ Below w.heap.size w W' := by
  have hbel : Below w.heap.size w (w.alloc (.cells #[.pointer none, .slice none 0 0] 83)) := (Below.refl _ w).alloc (Nat.le_refl _) _
  have hbld := bld_start w
  refine (callsIn_wide (n := 3)).1 ?_
  have h1 : 1 ≤ 3 := by omega
  refine callsIn_of_wp_marks Tryd.func30 rfl trivial ?_ rfl
  simp only [Tryd.ntmps30, List.size_toArray, List.length_cons, List.length_nil, Nat.reduceAdd, Nat.reduceSub, Array.replicate_succ, Array.replicate_zero, List.push_toArray, List.append_toArray, List.nil_append, List.cons_append]
  gi_wp2_with fail
  have hst := hseq _ hbel
  clear hseq
  refine wpIn_rangeFunc_ownG rfl h1 (gf := gf) (lb := lb) rfl trivial eg
    hst belowK_t (belowK_b (by simp)) (Below.refl _ _) (fun _ => rfl)
    (fun pre W => Bld w.heap.size w.heap.size (Lib.byteCells (coP zs pre)) W ∧ (pre.length ≤ N ∧ Below w.heap.size w W))
    (fun _ _ _ => False)
    (OwnFrom.and (Own.from (own_bld _ _ N zs) _) (OwnFrom.and (ownFrom_pure _ _) (ownFrom_below (by simp) (by simp))))
    (fun _ _ _ _ _ hs _ _ => hs)
    ⟨hbld, by simp, hbel⟩
    (fun x => { tmps := #[.func (.func gf) #[] lb, undef, .string ⟨#[]⟩, .pointer (some ⟨w.heap.size, 0, none⟩), .int .i64 (x.val : Int), .int .u8 (byteAt zs x.val), .func (.func gf) #[] lb, .int .i64 (x.val : Int), .int .u8 (byteAt zs x.val), undef, undef, undef, undef, undef, undef, undef, undef, undef, undef, undef, undef], defers := [] }) ?assign ?body ?done ?stop
  case assign =>
    intro l x W K hK
    simp only [octN]
    gi_wp2
    exact hK
  case body =>
    rintro l pre x W ⟨hB, hl, hb⟩ hlen
    have hb0 := (hr x.val).1
    have hb1 := (hr x.val).2
    have hcl := coP_length zs pre
    by_cases hx : x.val = 0
    · have hx0 : ¬ (0 : Int) < (x.val : Int) := by omega
      have HX := Lib.hid hx
      clear hx
      gi_wp2_with fail
      refine ⟨trivial, ?_⟩
      refine (roundByte l hB hb.size _ (by simp; omega)).mono ?_
      rintro e W1 ⟨rfl, hB1, hb1, hk1⟩
      gi_wp2_with fail
      refine ⟨trivial, ?_⟩
      refine (roundByte l hB1 (Nat.le_trans hb.size (hb1.size)) _ (by simp; omega)).mono ?_
      rintro e W2 ⟨rfl, hB2, hb2, hk2⟩
      gi_wp2_with fail
      refine ⟨(hk1.trans hk2).from _, (hb1.trans hb2), ?_, by simp; omega, hb.trans (hb1.trans hb2)⟩
      have e1 := hex_at (byteAt zs x.val / 16) (by omega) (by omega) (by show (byteAt zs x.val / 16).toNat < 16; omega)
      have e2 := hex_at (byteAt zs x.val % 16) (by omega) (by omega) (by show (byteAt zs x.val % 16).toNat < 16; omega)
      rw [coP_snoc, if_pos HX.out]
      have h9 := hB2
      simp only [List.append_assoc, List.cons_append, List.nil_append] at h9 ⊢
      rw [e1, e2] at h9
      exact h9
    · have hx0 : (0 : Int) < (x.val : Int) := by omega
      have HX := Lib.hid hx
      clear hx
      gi_wp2_with fail
      refine ⟨trivial, ?_⟩
      refine (roundByte l hB hb.size 58 (by simp; omega)).mono ?_
      rintro e W1 ⟨rfl, hB1, hb1, hk1⟩
      gi_wp2_with fail
      refine ⟨trivial, ?_⟩
      refine (roundByte l hB1 (Nat.le_trans hb.size (hb1.size)) _ (by simp; omega)).mono ?_
      rintro e W2 ⟨rfl, hB2, hb2, hk2⟩
      gi_wp2_with fail
      refine ⟨trivial, ?_⟩
      refine (roundByte l hB2 (Nat.le_trans hb.size (Nat.le_trans (hb1.size) hb2.size)) _ (by simp; omega)).mono ?_
      rintro e W3 ⟨rfl, hB3, hb3, hk3⟩
      gi_wp2_with fail
      refine ⟨((hk1.trans hk2).trans hk3).from _, ((hb1.trans hb2).trans hb3), ?_, by simp; omega, hb.trans ((hb1.trans hb2).trans hb3)⟩
      have e1 := hex_at (byteAt zs x.val / 16) (by omega) (by omega) (by show (byteAt zs x.val / 16).toNat < 16; omega)
      have e2 := hex_at (byteAt zs x.val % 16) (by omega) (by omega) (by show (byteAt zs x.val % 16).toNat < 16; omega)
      rw [coP_snoc, if_neg HX.out]
      have h9 := hB3
      simp only [List.append_assoc, List.cons_append, List.nil_append] at h9 ⊢
      rw [e1, e2] at h9
      exact h9
  case done =>
    rintro D ys W hD rfl ⟨hB, hl, hb⟩ hK
    gi_wp2_with fail
    refine ⟨trivial, ?_⟩
    refine (callsIn_wide.2 (Tryd.Builder_String_any_k w.heap.size w.heap.size _ W (Lib.IsBuilderF.of hB) hb.size)).mono ?_
    rintro e W1 ⟨rfl, _, hb1, hk1⟩
    have hne : D ≠ w.heap.size := by
      have := hD
      simp at this
      omega
    have hK1 : W1.heap[D]? = some (.deferred (some [])) := hk1 D _ hK (fun e => hne (by simpa using e)) (fun _ _ => by simp)
    gi_wp2_with fail
    refine ⟨by simp, .inl ⟨_, _, rfl, run_takeDeferred hK1, ?_⟩⟩
    refine ⟨.string ⟨(coP zs (List.finRange N)).toArray⟩, ?_, rfl, (hb.trans hb1).trans (belowK_b (w := w) (Nat.le_refl _) W1 D _ _ (by simp at hD; omega) hK1 rfl rfl)⟩
    simp [results, go_sem]
  case stop =>
    rintro D c pre W hD _ h _
    exact h.elim

set_option maxRecDepth 100000 in
theorem esiText_n (a b c d e f g h i j : Int) (hr : ∀ k, 0 ≤ byteAt [a, b, c, d, e, f, g, h, i, j] k ∧ byteAt [a, b, c, d, e, f, g, h, i, j] k ≤ 255) (w : World) :
    Calls Tryd.prog 15 #[esi a b c d e f g h i j] w fun en W' => en = .returned (.string ⟨(coP [a, b, c, d, e, f, g, h, i, j] (List.finRange 10)).toArray⟩) ∧ Below w.heap.size w W' := by
  have hb1 : Below w.heap.size w ((w.alloc (esib a b c d e f g h i j)).alloc (esib a b c d e f g h i j)) := ((Below.refl _ w).alloc (Nat.le_refl _) _).alloc (by simp) _
  have key := colons_n 10 (by omega) [a, b, c, d, e, f, g, h, i, j] hr 43 #[.pointer (some ⟨w.heap.size + 1, 0, none⟩)] ((w.alloc (esib a b c d e f g h i j)).alloc (esib a b c d e f g h i j))
    (enters_of Tryd.func43 (by kernel_rfl) rfl)
    (fun W0 hW0 => by
      have hz := hW0.size
      simp at hz
      have hk := hW0.block (w.heap.size + 1) (by simp)
      exact octets_seq _ _ a b c d e f g h i j W0 (by omega) (hk.trans (top_block (w.alloc (esib a b c d e f g h i j)) _ _ (by simp))))
  go_enter Tryd.func15, Tryd.ntmps15
  go_wp2_with fail
  refine (callsIn_wide.1 (octets_in Fence.wide 1 trivial rfl a b c d e f g h i j _)).mono ?_
  rintro e w' ⟨rfl, rfl⟩
  go_wp2_with fail
  refine key.mono ?_
  rintro e w' ⟨rfl, hb2⟩
  go_wp2_with fail
  go_ret
  exact ⟨rfl, hb1.trans (hb2.mono (by simp; omega))⟩

set_option maxHeartbeats 2000000 in
set_option maxRecDepth 100000 in
theorem macText_n (m : Int) (h0 : 0 ≤ m) (h1 : m ≤ 281474976710655) (w : World) :
    Calls Tryd.prog 13 #[.int .u64 m] w fun e w' => e = .returned (.tuple #[.string ⟨(coP (macL m) (List.finRange 6)).toArray⟩, .int .i64 0]) ∧ Below w.heap.size w w' := by
  have hb1 : Below w.heap.size w ((w.alloc (macb m)).alloc (macs w)) := ((Below.refl _ w).alloc (Nat.le_refl _) _).alloc (by simp) _
  have KEY := Lib.hid (colons_n 6 (by omega) (macL m) (macL_byte m h0 h1) 42 #[.pointer (some ⟨w.heap.size + 1, 0, none⟩)] ((w.alloc (macb m)).alloc (macs w))
    (enters_of Tryd.func42 (by kernel_rfl) rfl)
    (fun W0 hW0 => by
      have hz := hW0.size
      simp at hz
      refine all_seq _ (w.heap.size + 1) w.heap.size 6 6 (by omega) (by simp; omega) (macL m) W0 (by omega) (by omega) ((hW0.cell (p := ⟨w.heap.size + 1, 0, none⟩) (by simp)).trans (by simp [go_sem])) (fun k hk => (hW0.cell (p := ⟨w.heap.size, k, none⟩) (by simp; omega)).trans ?_)
      exact mac_cell m w k hk))
  have HB := Lib.hid hb1
  clear hb1
  go_enter Tryd.func13, Tryd.ntmps13
  go_wp2_with fail
  refine wp_loop_rounds 7 ?_
  rw [rounds_succ]
  go_wp2_with fail
  rw [rounds_succ]
  go_wp2_with fail
  rw [rounds_succ]
  go_wp2_with fail
  rw [rounds_succ]
  go_wp2_with fail
  rw [rounds_succ]
  go_wp2_with fail
  rw [rounds_succ]
  go_wp2_with fail
  rw [rounds_succ]
  go_wp2_with fail
  refine (callsIn_wide.1 (all_in Fence.wide 1 trivial rfl w.heap.size 6 6 _)).mono ?_
  rintro e w' ⟨rfl, rfl⟩
  go_wp2_with fail
  refine KEY.out.mono ?_
  rintro e w' ⟨rfl, hb2⟩
  go_wp2_with fail
  go_ret2
  exact ⟨rfl, HB.out.trans (hb2.mono (by simp; omega))⟩

end Go.Proofs.YtlmgbnpimmjijaaDoor
