/- Routes: Bytes. -/
import Derived.Test.YthhajknmokomjaaZNlF
import Derived.Test.YthhajknmokomjaaZWw
import Derived.Laws.OwnMore
namespace Go.Proofs.Ythhajknmokomjaa
open Go.RowKit Go.Maps Go.Shelf
set_option linter.unusedVariables false
set_option linter.unusedSimpArgs false
set_option maxRecDepth 100000

/-- The fields are in the ranges of their types. -/
structure NL.ty (x : NL) : Prop where
  k : (Lit.int .i64 x.k).wf = true
  rd : 0 ≤ x.rd ∧ x.rd < 18446744073709551616
  esi : ∀ v ∈ x.esi, 0 ≤ v ∧ v ≤ 255
  tag : 0 ≤ x.tag ∧ x.tag < 4294967296
  mac : 0 ≤ x.mac ∧ x.mac < 18446744073709551616
  ip : 0 ≤ x.ip ∧ x.ip < 4294967296
  pip : 0 ≤ x.pip ∧ x.pip < 4294967296
  gw : 0 ≤ x.gw ∧ x.gw < 4294967296
  l1 : 0 ≤ x.l1 ∧ x.l1 < 4294967296
  l2 : 0 ≤ x.l2 ∧ x.l2 < 4294967296

theorem chk_zero {x : NL} (h : chk x = 0) : (1 ≤ x.k ∧ x.k ≤ 5) ∧ x.same (x.sh x.k.toNat) = true ∧ x.far = false ∧ cl x.pip x.pl = x.pip := by
  unfold chk at h
  by_cases h1 : x.k < 1 ∨ 5 < x.k
  · rw [if_pos h1] at h; cases h
  · rw [if_neg h1] at h
    by_cases h2 : x.same (x.sh x.k.toNat) = false
    · rw [if_pos h2] at h; cases h
    · rw [if_neg h2] at h
      by_cases h3 : x.far = true
      · rw [if_pos h3] at h; cases h
      · rw [if_neg h3] at h
        by_cases h4 : (cl x.pip x.pl == x.pip) = false
        · rw [if_pos h4] at h; cases h
        · exact ⟨by omega, by simpa using h2, by simpa using h3, by simpa using h4⟩
theorem NL.ty.ok {x : NL} (h : x.ty) (hc : chk x = 0) : x.ok := by
  obtain ⟨_, _, h3, _⟩ := chk_zero hc
  simp only [NL.far, Bool.or_eq_false_iff, decide_eq_false_iff_not, Bool.not_eq_false'] at h3
  obtain ⟨⟨⟨h1, h2⟩, h3⟩, h4⟩ := h3
  have h5 := vld_iff.1 h4
  have hm := h.mac
  have hl1 := h.l1
  have hl2 := h.l2
  exact ⟨h.rd, h.esi, h.tag, by omega, h.ip, h.pip, h5, h.gw, by omega, by omega⟩

theorem wrap_u8 (n : Int) (h : 0 ≤ n) (h2 : n < 256) : IntKind.u8.wrap n = n := by
  have e : IntKind.u8.wrap n = n % 256 := by rfl
  rw [e]; omega
theorem NL.val_len (x : NL) (k : Nat) : (x.val k).length ≤ 40 := by
  unfold NL.val
  split
  · simp [NL.val1, be_length, NL.esi_len]
  · unfold NL.val2; split <;> split <;> simp [be_length, NL.esi_len]
  · simp [NL.val3, be_length, NL.esi_len]
  · simp [NL.val4, be_length, NL.esi_len]
  · simp [NL.val5, be_length, NL.esi_len]
theorem NL.val_byte {x : NL} (hx : x.ok) (k : Nat) : ∀ v ∈ x.val k, 0 ≤ v ∧ v ≤ 255 := by
  intro v hv
  have he := hx.esi
  have hb : ∀ a n, v ∈ be a n → 0 ≤ v ∧ v ≤ 255 := fun a n h => be_byte a n v h
  unfold NL.val at hv
  split at hv
  · simp only [NL.val1, List.mem_append] at hv
    rcases hv with ((hv | hv) | hv) | hv <;> first | exact hb _ _ hv | exact he v hv
  · simp only [NL.val2, List.mem_append] at hv
    rcases hv with ((((((hv | hv) | hv) | hv) | hv) | hv) | hv) | hv
    · exact hb _ _ hv
    · exact he v hv
    · exact hb _ _ hv
    · exact hb _ _ hv
    · exact hb _ _ hv
    · split at hv
      · rcases List.mem_append.1 hv with hv | hv <;> exact hb _ _ hv
      · exact hb _ _ hv
    · exact hb _ _ hv
    · split at hv
      · cases hv
      · exact hb _ _ hv
  · simp only [NL.val3, List.mem_append] at hv
    rcases hv with (hv | hv) | hv | hv <;> first | exact hb _ _ hv | exact he v hv
  · simp only [NL.val4, List.mem_append] at hv
    rcases hv with (hv | hv) | hv | hv <;> first | exact hb _ _ hv | exact he v hv
  · simp only [NL.val5, List.mem_append] at hv
    rcases hv with ((((((hv | hv) | hv) | hv) | hv) | hv) | hv) <;> first | exact hb _ _ hv | exact he v hv

/-- The encoded route. -/
def enc (x : NL) : List Int := [x.k, ((x.val x.k.toNat).length : Int)] ++ x.val x.k.toNat
theorem enc_len (x : NL) : (enc x).length = 2 + (x.val x.k.toNat).length := by simp [enc]; omega
theorem enc_byte {x : NL} (hx : x.ok) (hc : chk x = 0) : ∀ v ∈ enc x, 0 ≤ v ∧ v ≤ 255 := by
  have h1 := (chk_zero hc).1
  have h2 := NL.val_len x x.k.toNat
  intro v hv
  simp only [enc, List.mem_append, List.mem_cons, List.not_mem_nil, or_false] at hv
  rcases hv with (rfl | rfl) | hv
  · omega
  · omega
  · exact NL.val_byte hx _ v hv

/-- Bytes that end in a new row. -/
def Enc (w : World) (x : NL) (e : Ending) (w' : World) : Prop := ∃ b c, e = .returned (.tuple #[.slice (some ⟨b, 0, none⟩) (enc x).length c, .int .i64 0]) ∧ Row w' b c (enc x) ∧ w.heap.size ≤ b ∧ Below w.heap.size w w'

theorem bytes_no (x : NL) (hx : x.ty) (hc : chk x ≠ 0) (w : World) :
    Calls Try.prog 6 #[x.v] w fun e w' => e = .returned (.tuple #[.slice none 0 0, .int .i64 (chk x)]) ∧ Below w.heap.size w w' := by
  rw [NL.v_eq]
  have hcb : (chk x != 0) = true := by simpa using hc
  have HBx : Hid (Has (w.alloc (.cells x.cs 31)) w.heap.size 31 x.cs) := Lib.hid (Has.new _ _ _)
  have hb1 : Below w.heap.size w (w.alloc (.cells x.cs 31)) := (Below.refl _ w).alloc (Nat.le_refl _) _
  have HB1 := Lib.hid hb1
  have HK := Lib.hid hx.k
  clear hb1 hc hx
  go_enter Try.func6, Try.ntmps6
  go_wp2_with (first
    | (refine wpList_load_row rfl 31 (.tmp 1) rfl _ rfl 31 x.cs (0, 0) _ HBx.out Try.underlying31 rfl x.fit ?_)
    | (go_at_call 10; refine (check_any x HK.out _).mono ?_; rintro e w2 ⟨rfl, hb2⟩))
  go_ret2
  exact ⟨rfl, HB1.out.trans (hb2.mono HB1.out.size)⟩

theorem ow_row {w : World} {v : Value} {n base : Nat} {xs : List Int} (h : w.ownsRow base 5 1 v n (u8s xs)) (hn : 0 < n) : ∃ b c, v = .slice (some ⟨b, 0, none⟩) n c ∧ base ≤ b ∧ n = xs.length ∧ Row w b c xs := by
  obtain ⟨hl, h⟩ := h
  have hl' : xs.length = n := by simpa using hl
  rcases h with ⟨_, h⟩ | ⟨g, cap, cur, rfl, hb, hg, hnc, hm, hs, ht⟩
  · omega
  · exact ⟨g, cap, rfl, hb, hl'.symm, cur, hg, by simpa using hs, by rw [hl']; simpa using ht, by omega, hm⟩
theorem enc_end {x : NL} {k : Nat} {w W6 w7 w8 : World} {A : Option Addr} {c b5 : Nat} (hk1 : x.k.toNat = k) (hk : x.k = k) (hb7 : Below W6.heap.size W6 w7) (hb6 : Below w.heap.size w W6) (hsz : w.heap.size ≤ b5)
    (hown : w8.ownsRow 0 5 1 (.slice A (2 + (x.val k).length) c) (2 + (x.val k).length) (u8s [(k : Int), ((x.val k).length : Int)] ++ u8s (x.val k)))
    (hg : w7.grownBy w8 (Value.slice (some ⟨b5, 0, none⟩) 2 2).ownBlock)
    (hloc : (Value.slice (some ⟨b5, 0, none⟩) 2 2).ownBlock = (Value.slice A (2 + (x.val k).length) c).ownBlock ∨ ∃ g, (Value.slice A (2 + (x.val k).length) c).ownBlock = some g ∧ w7.heap.size ≤ g) :
    ∃ b c', (Value.slice A (2 + (x.val k).length) c) = .slice (some ⟨b, 0, none⟩) (enc x).length c' ∧ Row w8 b c' (enc x) ∧ w.heap.size ≤ b ∧ Below w.heap.size w w8 := by
  have he : enc x = [(k : Int), ((x.val k).length : Int)] ++ x.val k := by rw [enc, hk1, hk]
  have hel : (enc x).length = 2 + (x.val k).length := by rw [enc_len, hk1]
  have hap : u8s [(k : Int), ((x.val k).length : Int)] ++ u8s (x.val k) = u8s (enc x) := by rw [he]; simp [u8s]
  rw [hap] at hown
  obtain ⟨b, c', e1, _, _, hr⟩ := ow_row hown (by omega)
  rw [e1] at hloc
  have hb67 := hb6.trans (hb7.mono hb6.size)
  refine ⟨b, c', by rw [e1, hel], hr, ?_, hb67.trans ((turn_grown hg).below ?_ hb67.size)⟩
  · rcases hloc with h | ⟨g, h, hg⟩
    · injection h with h
      have h' : b5 = b := h
      omega
    · injection h with h
      have h' : b = g := h
      have := hb67.size
      omega
  · intro j hj
    have : j = b5 := by simpa [Value.ownBlock] using hj
    omega

set_option maxHeartbeats 2000000 in
theorem bytes_yes (x : NL) (hx : x.ty) (hc : chk x = 0) (w : World) : Calls Try.prog 6 #[x.v] w (Enc w x) := by
  rw [NL.v_eq]
  have hok := hx.ok hc
  have hkk := (chk_zero hc).1
  obtain ⟨k, hk⟩ : ∃ k : Nat, x.k = k := ⟨x.k.toNat, by omega⟩
  have hkn : x.k.toNat = k := by omega
  have hk1 : 1 ≤ k := by omega
  have hk5 : k ≤ 5 := by omega
  have hcall : ∀ W, Calls Try.prog 10 #[.agg x.cs] W fun e w' => e = .returned (.int .i64 0) ∧ Below W.heap.size W w' := fun W => by
    have h := check_any x hx.k W
    rw [hc] at h
    exact h
  have HCall := Lib.hid hcall
  have HOk := Lib.hid hok
  have HKn := Lib.hid hkn
  have HKk := Lib.hid hk
  have HBx : Hid (Has (w.alloc (.cells x.cs 31)) w.heap.size 31 x.cs) := Lib.hid (Has.new _ _ _)
  have hb1 : Below w.heap.size w (w.alloc (.cells x.cs 31)) := (Below.refl _ w).alloc (Nat.le_refl _) _
  have HB1 := Lib.hid hb1
  clear hb1 hcall hok hkk hx hkn
  go_enter Try.func6, Try.ntmps6
  go_wp2_with (first
    | (refine wpList_load_row rfl 31 (.tmp 1) rfl _ rfl 31 x.cs (0, 0) _ HBx.out Try.underlying31 rfl x.fit ?_)
    | (go_at_call 10; refine (HCall.out _).mono ?_; rintro e w2 ⟨rfl, hb2⟩; have HX2 := Lib.hid (HBx.out.below hb2); have HB2 := Lib.hid (HB1.out.trans (hb2.mono HB1.out.size)); clear hb2)
    | (go_at_call 22; refine (wnewL 255 (by omega) _).mono ?_; rintro e w3 ⟨g, l, rfl, hw3, hl3, hb3⟩; have HW3 := Lib.hid hw3; have HX3 := Lib.hid (HX2.out.below hb3); have HB3 := Lib.hid (HB2.out.trans (hb3.mono HB2.out.size)); have HL3 : Hid (w.heap.size ∉ l ∧ ∀ k ∈ l, w.heap.size ≤ k) := Lib.hid ⟨fun h => by have h1 := hl3 _ h; have h2 := HX2.out.lt; omega, fun k h => Nat.le_trans HB2.out.size (hl3 k h)⟩; clear hw3 hl3 hb3))
  have HS : Hid (∀ w' : World, Has w' w.heap.size 31 x.cs → (w'.cell? ⟨w.heap.size, 0, none⟩ = some (.int .i64 (k : Int)) ∧ Has w' w.heap.size 31 x.cs)) := Lib.hid (fun w' h' => ⟨HKk.out ▸ h'.n0, h'⟩)
  have HX3d : Hid (Has w3.drew w.heap.size 31 x.cs) := Lib.hid HX3.out
  have hme := meth_write k hk1 hk5
  have hcf := call_write k hk1 hk5
  refine wp_region_held_drew (S := (fun w' => w'.cell? ⟨w.heap.size, 0, none⟩ = some (.int .i64 (k : Int)) ∧ Has w' w.heap.size 31 x.cs)) (by kernel_rfl) (HS.out _ HX3d.out) (fun hHeld => ?_)
  refine wpAnyH_take (i := 1) (oi := { dst := some 18, op := Go.Op.fieldAddr 31 (Go.Operand.tmp 1) 0, type := 0, pos := "nlri.go:52", after := #[], guard := none }) (v := ?_) rfl (by kernel_rfl) (by kernel_rfl) (by kernel_rfl) (fun _ _ _ h => h) (Or.inl ⟨by rfl, ?_⟩) (by assumption) ?_
  rotate_left
  · intro wS hSw
    try dsimp only at hSw
    go_split_ands
    go_simp
    try with_reducible rfl
  try simp only [Act.put, List.setIfInBounds_toArray, List.set_cons_zero, List.set_cons_succ]
  refine wpAnyH_take (i := 2) (oi := { dst := some 19, op := Go.Op.load 3 (Go.Operand.tmp 18), type := 3, pos := "nlri.go:52", after := #[{ on := 1, ground := Go.Ground.data }], guard := none }) (v := ?_) rfl (by kernel_rfl) (by kernel_rfl) (by kernel_rfl) (fun _ _ _ h => h) (Or.inl ⟨by rfl, ?_⟩) (by assumption) ?_
  rotate_left
  · intro wS hSw
    try dsimp only at hSw
    go_split_ands
    go_simp
    try with_reducible rfl
  try simp only [Act.put, List.setIfInBounds_toArray, List.set_cons_zero, List.set_cons_succ]
  refine wpAnyH_take (i := 4) (oi := { dst := some 21, op := Go.Op.move (Go.Operand.tmp 5), type := 53, pos := "nlri.go:52", after := #[], guard := none }) (v := ?_) rfl (by kernel_rfl) (by kernel_rfl) (by kernel_rfl) (fun _ _ _ h => h) (Or.inl ⟨by rfl, ?_⟩) (by assumption) ?_
  rotate_left
  · intro wS hSw
    try dsimp only at hSw
    go_split_ands
    go_simp
    try with_reducible rfl
  try simp only [Act.put, List.setIfInBounds_toArray, List.set_cons_zero, List.set_cons_succ]
  refine wpAnyH_take (i := 5) (oi := { dst := some 22, op := Go.Op.load 31 (Go.Operand.tmp 1), type := 31, pos := "nlri.go:52", after := #[], guard := none }) (v := .agg x.cs) rfl (by kernel_rfl) (by kernel_rfl) (by kernel_rfl) (fun _ _ _ h => h) (yields_nl (by rfl) (.tmp 1) rfl (w.heap.size) rfl x (fun _ h => ⟨_, h.2⟩)) (by assumption) ?_
  try simp only [Act.put, List.setIfInBounds_toArray, List.set_cons_zero, List.set_cons_succ]
  refine wpAnyH_ready (rs := [0]) (by kernel_rfl) (by simp) ?_
  refine AllReadyH.cons (o := { dst := some 17, op := Go.Op.call { callee := Go.Callee.value (Go.Operand.func 23), args := #[], argTypes := #[] }, type := 58, pos := "nlri.go:52", after := #[], guard := none }) rfl (fun K hK => ?_) AllReadyH.nil
  go_simp
  go_at_call 23
  refine (codings_any _).mono ?_
  rintro e w4 ⟨b, rfl, hm, hb4⟩
  have hl := look_yes w4 b 5 hm k hk1 hk5 false
  simp only [Bool.false_eq_true, if_false] at hl
  have HW4 := Lib.hid (WrL.below (w := w3.drew) (HW3.out.below (Below.refl _ w3).drew) hb4)
  refine hK.out _ _ ?_ (fun hHeld => ?_)
  · exact HS.out _ (HX3d.out.below hb4)
  clear hK K
  try simp only [Act.put, List.setIfInBounds_toArray, List.set_cons_zero, List.set_cons_succ]
  refine wpAnyH_ready (rs := [3]) (by kernel_rfl) (by simp) ?_
  refine AllReadyH.cons (o := { dst := some 20, op := Go.Op.lookup 58 (Go.Operand.tmp 17) (Go.Operand.tmp 19) false, type := 57, pos := "nlri.go:52", after := #[{ on := 0, ground := Go.Ground.data }, { on := 2, ground := Go.Ground.data }], guard := none }) rfl (fun K hK => ?_) AllReadyH.nil
  go_simp
  skip
  refine hK.out _ _ ?_ (fun hHeld => ?_)
  · exact HS.out _ (HX3d.out.below hb4)
  clear hK K
  try simp only [Act.put, List.setIfInBounds_toArray, List.set_cons_zero, List.set_cons_succ]
  refine wpAnyH_ready (rs := [6]) (by kernel_rfl) (by simp) ?_
  refine AllReadyH.cons (o := { dst := some 23, op := Go.Op.call { callee := Go.Callee.invoke (Go.Operand.tmp 20) "leafmesh/nlri.write", args := #[Go.Operand.tmp 21, Go.Operand.tmp 22], argTypes := #[53, 31] }, type := 0, pos := "nlri.go:52", after := #[{ on := 3, ground := Go.Ground.data }, { on := 4, ground := Go.Ground.data }, { on := 5, ground := Go.Ground.data }, { on := 0, ground := Go.Ground.chain }], guard := none }) rfl (fun K hK => ?_) AllReadyH.nil
  go_simp
  go_at_fn (fwr k)
  refine (write_any k hk1 hk5 x HOk.out g l ⟨255, [], []⟩ _ HW4.out (by simp)).mono ?_
  rintro e w5 ⟨rfl, l5, hw5, hn5⟩
  refine hK.out _ _ ?_ (fun hHeld => ?_)
  · exact HS.out _ ((HX3d.out.below hb4).turn hn5.1 HL3.out.1)
  clear hK K
  try simp only [Act.put, List.setIfInBounds_toArray, List.set_cons_zero, List.set_cons_succ]
  refine wpAnyH_done (by kernel_rfl) ?_ _
  have hvl := NL.val_len x k
  have HW5d := Lib.hid (hw5.below (Below.refl _ w5).drew)
  have HS6 : Hid (∀ w' : World, Below w5.heap.size w5 w' → (w'.cell? ⟨w.heap.size, 0, none⟩ = some (.int .i64 (k : Int)) ∧ WrL w' l5 g (WS.add ⟨255, [], []⟩ (x.val k)) ∧ Below w5.heap.size w5 w')) := Lib.hid (fun w' h' => by
    have hx5 := ((HX3d.out.below hb4).turn hn5.1 HL3.out.1).below h'
    exact ⟨HKk.out ▸ hx5.n0, hw5.below h', h'⟩)
  go_wp2_with fail
  refine wp_region_held_drew (S := (fun w' => w'.cell? ⟨w.heap.size, 0, none⟩ = some (.int .i64 (k : Int)) ∧ WrL w' l5 g (WS.add ⟨255, [], []⟩ (x.val k)) ∧ Below w5.heap.size w5 w')) (by kernel_rfl) (HS6.out _ (Below.refl _ w5).drew) (fun hHeld => ?_)
  refine wpAnyH_take (i := 0) (oi := { dst := some 24, op := Go.Op.fieldAddr 31 (Go.Operand.tmp 1) 0, type := 0, pos := "nlri.go:53", after := #[], guard := none }) (v := ?_) rfl (by kernel_rfl) (by kernel_rfl) (by kernel_rfl) (fun _ _ _ h => h) (Or.inl ⟨by rfl, ?_⟩) (by assumption) ?_
  rotate_left
  · intro wS hSw
    try dsimp only at hSw
    go_split_ands
    go_simp
    try with_reducible rfl
  try simp only [Act.put, List.setIfInBounds_toArray, List.set_cons_zero, List.set_cons_succ]
  refine wpAnyH_take (i := 1) (oi := { dst := some 25, op := Go.Op.load 3 (Go.Operand.tmp 24), type := 3, pos := "nlri.go:53", after := #[{ on := 0, ground := Go.Ground.data }], guard := none }) (v := ?_) rfl (by kernel_rfl) (by kernel_rfl) (by kernel_rfl) (fun _ _ _ h => h) (Or.inl ⟨by rfl, ?_⟩) (by assumption) ?_
  rotate_left
  · intro wS hSw
    try dsimp only at hSw
    go_split_ands
    go_simp
    try with_reducible rfl
  try simp only [Act.put, List.setIfInBounds_toArray, List.set_cons_zero, List.set_cons_succ]
  refine wpAnyH_take (i := 2) (oi := { dst := some 26, op := Go.Op.convert 3 5 (Go.Operand.tmp 25), type := 5, pos := "nlri.go:53", after := #[{ on := 1, ground := Go.Ground.data }], guard := none }) (v := ?_) rfl (by kernel_rfl) (by kernel_rfl) (by kernel_rfl) (fun _ _ _ h => h) (Or.inl ⟨by rfl, ?_⟩) (by assumption) ?_
  rotate_left
  · intro wS hSw
    try dsimp only at hSw
    go_split_ands
    go_simp
    try with_reducible rfl
  try simp only [Act.put, List.setIfInBounds_toArray, List.set_cons_zero, List.set_cons_succ]
  refine wpAnyH_take (i := 3) (oi := { dst := some 27, op := Go.Op.move (Go.Operand.tmp 5), type := 53, pos := "nlri.go:53", after := #[], guard := none }) (v := ?_) rfl (by kernel_rfl) (by kernel_rfl) (by kernel_rfl) (fun _ _ _ h => h) (Or.inl ⟨by rfl, ?_⟩) (by assumption) ?_
  rotate_left
  · intro wS hSw
    try dsimp only at hSw
    go_split_ands
    go_simp
    try with_reducible rfl
  try simp only [Act.put, List.setIfInBounds_toArray, List.set_cons_zero, List.set_cons_succ]
  refine wpAnyH_ready (rs := [4]) (by kernel_rfl) (by simp) ?_
  refine AllReadyH.cons (o := { dst := some 28, op := Go.Op.call { callee := Go.Callee.value (Go.Operand.func 24), args := #[Go.Operand.tmp 27], argTypes := #[53] }, type := 3, pos := "nlri.go:53", after := #[{ on := 3, ground := Go.Ground.data }], guard := none }) rfl (fun K hK => ?_) AllReadyH.nil
  go_simp
  go_at_call 24
  refine (wlenL g l5 _ _ HW5d.out).mono ?_
  rintro e w6 ⟨rfl, rfl⟩
  refine hK.out _ _ ?_ (fun hHeld => ?_)
  · exact HS6.out _ (Below.refl _ w5).drew
  clear hK K
  try simp only [Act.put, List.setIfInBounds_toArray, List.set_cons_zero, List.set_cons_succ]
  refine wpAnyH_take (i := 5) (oi := { dst := some 29, op := Go.Op.convert 3 5 (Go.Operand.tmp 28), type := 5, pos := "nlri.go:53", after := #[{ on := 4, ground := Go.Ground.data }], guard := none }) (v := ?_) rfl (by kernel_rfl) (by kernel_rfl) (by kernel_rfl) (fun _ _ _ h => h) (Or.inl ⟨by rfl, ?_⟩) (by assumption) ?_
  rotate_left
  · intro wS hSw
    try dsimp only at hSw
    go_split_ands
    go_simp
    try with_reducible rfl
  try simp only [Act.put, List.setIfInBounds_toArray, List.set_cons_zero, List.set_cons_succ]
  refine wpAnyH_ready (rs := [6]) (by kernel_rfl) (by simp) ?_
  refine AllReadyH.cons (o := { dst := some 30, op := Go.Op.buildSlice 34 2 #[(0, Go.Operand.tmp 26), (1, Go.Operand.tmp 29)], type := 34, pos := "nlri.go:53", after := #[{ on := 2, ground := Go.Ground.data }, { on := 5, ground := Go.Ground.data }], guard := none }) rfl (fun K hK => ?_) AllReadyH.nil
  go_simp
  skip
  refine hK.out _ _ ?_ (fun hHeld => ?_)
  · exact HS6.out _ ((Below.refl _ w5).drew.alloc (Nat.le_refl _) _)
  clear hK K
  try simp only [Act.put, List.setIfInBounds_toArray, List.set_cons_zero, List.set_cons_succ]
  refine wpAnyH_take (i := 7) (oi := { dst := some 7, op := Go.Op.assign (Go.Operand.tmp 30), type := 34, pos := "nlri.go:53", after := #[{ on := 6, ground := Go.Ground.data }, { on := 4, ground := Go.Ground.chain }, { on := 0, ground := Go.Ground.phase }, { on := 1, ground := Go.Ground.phase }, { on := 2, ground := Go.Ground.phase }, { on := 3, ground := Go.Ground.phase }, { on := 4, ground := Go.Ground.phase }, { on := 5, ground := Go.Ground.phase }, { on := 6, ground := Go.Ground.phase }], guard := none }) (v := ?_) rfl (by kernel_rfl) (by kernel_rfl) (by kernel_rfl) (fun _ _ _ h => h) (Or.inl ⟨by rfl, ?_⟩) (by assumption) ?_
  rotate_left
  · intro wS hSw
    try dsimp only at hSw
    go_split_ands
    go_simp
    try with_reducible rfl
  try simp only [Act.put, List.setIfInBounds_toArray, List.set_cons_zero, List.set_cons_succ]
  refine wpAnyH_done (by kernel_rfl) ?_ _
  have hu1 : IntKind.u8.wrap (k : Int) = (k : Int) := wrap_u8 _ (by omega) (by omega)
  have hu2 : IntKind.u8.wrap ((((WS.add ⟨255, [], []⟩ (x.val k)).out.length : Nat) : Int)) = ((x.val k).length : Int) := by
    rw [WS.add_out, List.nil_append]; exact wrap_u8 _ (by omega) (by omega)
  rw [hu1, hu2]
  have hb4b := (HB3.out.drew).trans (hb4.mono HB3.out.size)
  have hb5b := hb4b.trans (hn5.1.below HL3.out.2 hb4b.size)
  have HS8 : Hid (∀ W6 : World, W6 = (w5.alloc (.cells #[.int .u8 (k : Int), .int .u8 ((x.val k).length : Int)] 5)).drew → W6.ownsRow 0 5 1 (.slice (some ⟨w5.heap.size, 0, none⟩) 2 2) 2 (u8s [(k : Int), ((x.val k).length : Int)]) ∧ WrL W6 l5 g (WS.add ⟨255, [], []⟩ (x.val k)) ∧ Below w.heap.size w W6) := Lib.hid (fun W6 e => by
    subst e
    exact ⟨World.ownsRow_lit (base := 0) (e := 5) (size := 1) w5 #[.int .u8 (k : Int), .int .u8 ((x.val k).length : Int)] 2 (Nat.zero_le _) (by unfold maxLen; omega) rfl, hw5.below ((Below.refl _ w5).alloc (Nat.le_refl _) _).drew, (hb5b.alloc hb5b.size _).drew⟩)
  have HSz := Lib.hid hb5b.size
  clear hHeld HS6 HW5d hw5 hn5 HS HX3d HX3 HW3 hu1 hu2 hl hm
  generalize hW6 : (w5.alloc (.cells #[.int .u8 (k : Int), .int .u8 ((x.val k).length : Int)] 5)).drew = W6
  obtain ⟨h61, h62, h63⟩ := HS8.out W6 hW6.symm
  clear hW6 HS8
  have H61 := Lib.hid h61
  have H62 := Lib.hid h62
  have H63 := Lib.hid h63
  clear h61 h62 h63
  generalize w5.heap.size = b5 at *
  go_wp2_with (first
    | (go_at_call 25
       refine (woutL g l5 _ _ H62.out).mono ?_
       rintro e w7 ⟨⟨v, rfl, hcp⟩, hb7⟩
       have harr := (Copied.got hcp).arr
       rw [WS.add_out, List.nil_append] at harr
       obtain ⟨A0, c0, rfl⟩ := harr.form
       obtain ⟨A, c, w8, hrun, hown, hgrow, hloc⟩ := run_add w7 _ _ _ (ow_below H61.out hb7) A0 c0 (x.val k) harr (by omega) 34
       have HR := Lib.hid hrun
       have HFin : Hid (∃ b c', (Value.slice A (2 + (x.val k).length) c) = .slice (some ⟨b, 0, none⟩) (enc x).length c' ∧ Row w8 b c' (enc x) ∧ w.heap.size ≤ b ∧ Below w.heap.size w w8) := Lib.hid (enc_end HKn.out HKk.out hb7 H63.out HSz.out hown hgrow hloc)
       clear hrun hown hgrow hloc harr hcp hb7)
    | (at_builtin; refine Lib.wpList_append_run _ rfl _ _ _ _ rfl _ _ rfl rfl _ _ HR.out ?_))
  go_ret2
  obtain ⟨b, c', e1, e2, e3, e4⟩ := HFin.out
  exact ⟨b, c', by rw [← e1]; rfl, e2, e3, e4⟩

end Go.Proofs.Ythhajknmokomjaa
