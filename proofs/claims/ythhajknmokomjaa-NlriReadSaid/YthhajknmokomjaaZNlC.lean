/- Routes: their shapes. -/
import Derived.Test.YthhajknmokomjaaZNlB
import Derived.Deep.DeepCutAuto
namespace Go.Proofs.Ythhajknmokomjaa
open Go.RowKit Go.Maps
set_option linter.unusedVariables false
set_option maxRecDepth 100000

def NL.sh1 (x : NL) : NL := ⟨x.k, x.rd, x.e0, x.e1, x.e2, x.e3, x.e4, x.e5, x.e6, x.e7, x.e8, x.e9, x.tag, 0, 0, false, 0, 0, 0, x.l1, 0⟩
def NL.sh2 (x : NL) : NL := ⟨x.k, x.rd, x.e0, x.e1, x.e2, x.e3, x.e4, x.e5, x.e6, x.e7, x.e8, x.e9, x.tag, x.mac, if x.has then x.ip else 0, x.has, 0, 0, 0, x.l1, x.l2⟩
def NL.sh3 (x : NL) : NL := ⟨x.k, x.rd, 0, 0, 0, 0, 0, 0, 0, 0, 0, 0, x.tag, 0, x.ip, true, 0, 0, 0, 0, 0⟩
def NL.sh4 (x : NL) : NL := ⟨x.k, x.rd, x.e0, x.e1, x.e2, x.e3, x.e4, x.e5, x.e6, x.e7, x.e8, x.e9, 0, 0, x.ip, true, 0, 0, 0, 0, 0⟩
def NL.sh5 (x : NL) : NL := ⟨x.k, x.rd, x.e0, x.e1, x.e2, x.e3, x.e4, x.e5, x.e6, x.e7, x.e8, x.e9, x.tag, 0, 0, false, x.pip, x.pl, x.gw, x.l1, 0⟩
def NL.shA (x : NL) (b : Bool) : NL := ⟨x.k, x.rd, x.e0, x.e1, x.e2, x.e3, x.e4, x.e5, x.e6, x.e7, x.e8, x.e9, x.tag, x.mac, 0, b, 0, 0, 0, x.l1, x.l2⟩
def NL.shB (x : NL) : NL := ⟨x.k, x.rd, x.e0, x.e1, x.e2, x.e3, x.e4, x.e5, x.e6, x.e7, x.e8, x.e9, x.tag, x.mac, x.ip, true, 0, 0, 0, x.l1, x.l2⟩
abbrev zcs : Array Value := #[.int .i64 0, .int .u64 0, .int .u8 0, .int .u8 0, .int .u8 0, .int .u8 0, .int .u8 0, .int .u8 0, .int .u8 0, .int .u8 0, .int .u8 0, .int .u8 0, .int .u32 0, .int .u64 0, .int .u32 0, .bool false, .int .u32 0, .int .i64 0, .int .u32 0, .int .u32 0, .int .u32 0]
/-- The fields that a kind uses. -/
def NL.sh (x : NL) : Nat → NL
  | 1 => x.sh1
  | 2 => x.sh2
  | 3 => x.sh3
  | 4 => x.sh4
  | _ => x.sh5
/-- The function of a kind's shape. -/
def fsh : Nat → FuncId
  | 1 => 94
  | 2 => 111
  | 3 => 119
  | 4 => 122
  | _ => 125

set_option maxHeartbeats 1000000 in
theorem shape1 (x : NL) (w : World) :
    Calls Try.prog 94 #[.agg #[], x.v] w fun e w' => e = .returned x.sh1.v ∧ Below w.heap.size w w' := by
  rw [NL.v_eq]
  have x0 : x.cs[0]? = some (.int .i64 x.k) := rfl
  have x1 : x.cs[1]? = some (.int .u64 x.rd) := rfl
  have x2 : x.cs[2]? = some (.int .u8 x.e0) := rfl
  have x3 : x.cs[3]? = some (.int .u8 x.e1) := rfl
  have x4 : x.cs[4]? = some (.int .u8 x.e2) := rfl
  have x5 : x.cs[5]? = some (.int .u8 x.e3) := rfl
  have x6 : x.cs[6]? = some (.int .u8 x.e4) := rfl
  have x7 : x.cs[7]? = some (.int .u8 x.e5) := rfl
  have x8 : x.cs[8]? = some (.int .u8 x.e6) := rfl
  have x9 : x.cs[9]? = some (.int .u8 x.e7) := rfl
  have x10 : x.cs[10]? = some (.int .u8 x.e8) := rfl
  have x11 : x.cs[11]? = some (.int .u8 x.e9) := rfl
  have x12 : x.cs[12]? = some (.int .u32 x.tag) := rfl
  have x19 : x.cs[19]? = some (.int .u32 x.l1) := rfl
  have HZ : Hid (Has (((w.alloc (.cells #[] 91)).alloc (.cells x.cs 31)).alloc (.cells zcs 31)) (w.heap.size + 1 + 1) 31 zcs) := Lib.hid (by
    have h := Has.new ((w.alloc (.cells #[] 91)).alloc (.cells x.cs 31)) 31 zcs
    simpa using h)
  have HB3 : Hid (Below w.heap.size w (((w.alloc (.cells #[] 91)).alloc (.cells x.cs 31)).alloc (.cells zcs 31))) := Lib.hid ((((Below.refl _ w).alloc (Nat.le_refl _) _).alloc (by simp) _).alloc (by simp; omega) _)
  go_enter Try.func94, Try.ntmps94
  go_wp2_with (refine wpList_store_row rfl 31 (.tmp 4) (.tmp 15) rfl (w.heap.size + 1 + 1) x.sh1.cs rfl rfl 31 zcs HZ.out x.sh1.fit rfl x.sh1.one ?_)
  exact bodyPost_ret (v := x.sh1.v) (results_cell_row rfl _ _ (w.heap.size + 1 + 1) 31 x.sh1.cs (0, 0) _ rfl (setRow_heap _ _ _ _ _ _ HZ.out) Try.underlying31 rfl x.sh1.fit) rfl ⟨rfl, below_only HB3.out (Only.row _) (by omega) HB3.out.size⟩

set_option maxHeartbeats 1000000 in
theorem shape2_false (x : NL) (hb : x.has = false) (w : World) :
    Calls Try.prog 111 #[.agg #[], x.v] w fun e w' => e = .returned x.sh2.v ∧ Below w.heap.size w w' := by
  rw [NL.v_eq]
  have x0 : x.cs[0]? = some (.int .i64 x.k) := rfl
  have x1 : x.cs[1]? = some (.int .u64 x.rd) := rfl
  have x2 : x.cs[2]? = some (.int .u8 x.e0) := rfl
  have x3 : x.cs[3]? = some (.int .u8 x.e1) := rfl
  have x4 : x.cs[4]? = some (.int .u8 x.e2) := rfl
  have x5 : x.cs[5]? = some (.int .u8 x.e3) := rfl
  have x6 : x.cs[6]? = some (.int .u8 x.e4) := rfl
  have x7 : x.cs[7]? = some (.int .u8 x.e5) := rfl
  have x8 : x.cs[8]? = some (.int .u8 x.e6) := rfl
  have x9 : x.cs[9]? = some (.int .u8 x.e7) := rfl
  have x10 : x.cs[10]? = some (.int .u8 x.e8) := rfl
  have x11 : x.cs[11]? = some (.int .u8 x.e9) := rfl
  have x12 : x.cs[12]? = some (.int .u32 x.tag) := rfl
  have x13 : x.cs[13]? = some (.int .u64 x.mac) := rfl
  have x15 : x.cs[15]? = some (.bool false) := by rw [← hb]; rfl
  have x19 : x.cs[19]? = some (.int .u32 x.l1) := rfl
  have x20 : x.cs[20]? = some (.int .u32 x.l2) := rfl
  have x14 : x.cs[14]? = some (.int .u32 x.ip) := rfl
  have HZ : Hid (Has (((w.alloc (.cells #[] 92)).alloc (.cells x.cs 31)).alloc (.cells zcs 31)) (w.heap.size + 1 + 1) 31 zcs) := Lib.hid (by
    have h := Has.new ((w.alloc (.cells #[] 92)).alloc (.cells x.cs 31)) 31 zcs
    simpa using h)
  have HB3 : Hid (Below w.heap.size w (((w.alloc (.cells #[] 92)).alloc (.cells x.cs 31)).alloc (.cells zcs 31))) := Lib.hid ((((Below.refl _ w).alloc (Nat.le_refl _) _).alloc (by simp) _).alloc (by simp; omega) _)
  have HZ5 : Hid (Has ((((w.alloc (.cells #[] 92)).alloc (.cells x.cs 31)).alloc (.cells zcs 31)).alloc (.cells zcs 31)) (w.heap.size + 1 + 1 + 1) 31 zcs) := Lib.hid (by
    have h := Has.new (((w.alloc (.cells #[] 92)).alloc (.cells x.cs 31)).alloc (.cells zcs 31)) 31 zcs
    simpa using h)
  have HB4 : Hid (Below w.heap.size w ((((w.alloc (.cells #[] 92)).alloc (.cells x.cs 31)).alloc (.cells zcs 31)).alloc (.cells zcs 31))) := Lib.hid (HB3.out.alloc HB3.out.size _)
  have HZ4 : Hid (Has (((((w.alloc (.cells #[] 92)).alloc (.cells x.cs 31)).alloc (.cells zcs 31)).alloc (.cells zcs 31)).setRow (w.heap.size + 1 + 1 + 1) (x.shA false).cs) (w.heap.size + 1 + 1) 31 zcs) := Lib.hid ((HZ.out.below ((Below.refl _ _).alloc (Nat.le_refl _) _)).grown (Only.row (h := w.heap.size + 1 + 1 + 1) (x.shA false).cs) (by simp))
  have HA5 : Hid (Has (((((w.alloc (.cells #[] 92)).alloc (.cells x.cs 31)).alloc (.cells zcs 31)).alloc (.cells zcs 31)).setRow (w.heap.size + 1 + 1 + 1) (x.shA false).cs) (w.heap.size + 1 + 1 + 1) 31 (x.shA false).cs) := Lib.hid (setRow_heap _ _ _ _ _ _ HZ5.out)
  have HB5 : Hid (Below w.heap.size w (((((w.alloc (.cells #[] 92)).alloc (.cells x.cs 31)).alloc (.cells zcs 31)).alloc (.cells zcs 31)).setRow (w.heap.size + 1 + 1 + 1) (x.shA false).cs)) := Lib.hid (below_only HB4.out (Only.row _) (by omega) HB4.out.size)
  have HX5 : Hid (Has (((((w.alloc (.cells #[] 92)).alloc (.cells x.cs 31)).alloc (.cells zcs 31)).alloc (.cells zcs 31)).setRow (w.heap.size + 1 + 1 + 1) (x.shA false).cs) (w.heap.size + 1) 31 x.cs) := Lib.hid (by
    have h := (Has.new (w.alloc (.cells #[] 92)) 31 x.cs)
    have h2 := (h.below ((Below.refl _ _).alloc (Nat.le_refl _) (.cells zcs 31))).below ((Below.refl _ _).alloc (Nat.le_refl _) (.cells zcs 31))
    have h3 := h2.grown (Only.row (h := w.heap.size + 1 + 1 + 1) (x.shA false).cs) (by simp)
    simpa using h3)
  have q15 := HX5.out.n15
  rw [hb] at q15
  have e2 : Hid (x.sh2 = (x.shA false)) := Lib.hid (by simp only [NL.sh2, NL.shA]; rw [hb]; rfl)
  have HBb := Lib.hid hb
  clear hb
  rw [e2.out]
  go_enter Try.func111, Try.ntmps111
  go_wp2_with (first
    | (refine wpList_store_row rfl 31 (.tmp 5) (.tmp 22) rfl (w.heap.size + 1 + 1 + 1) (x.shA false).cs rfl rfl 31 zcs HZ5.out (x.shA false).fit rfl (x.shA false).one ?_; obtain ⟨w5, hw5⟩ : ∃ w5, (((((w.alloc (.cells #[] 92)).alloc (.cells x.cs 31)).alloc (.cells zcs 31)).alloc (.cells zcs 31)).setRow (w.heap.size + 1 + 1 + 1) (x.shA false).cs) = w5 := ⟨_, rfl⟩; rw [hw5] at HZ4 HA5 HB5 q15  ⊢; clear hw5 HX5 HZ HZ5 HB3 HB4)
    | (refine wpList_load_row rfl 31 (.tmp 5) rfl (w.heap.size + 1 + 1 + 1) rfl 31 (x.shA false).cs (0, 0) _ HA5.out Try.underlying31 rfl (x.shA false).fit ?_)
    | (refine wpList_store_row rfl 31 (.tmp 4) (.tmp 28) rfl (w.heap.size + 1 + 1) (x.shA false).cs rfl rfl 31 zcs HZ4.out (x.shA false).fit rfl (x.shA false).one ?_))
  exact bodyPost_ret (v := (x.shA false).v) (results_cell_row rfl _ _ (w.heap.size + 1 + 1) 31 (x.shA false).cs (0, 0) _ rfl (setRow_heap _ _ _ _ _ _ HZ4.out) Try.underlying31 rfl (x.shA false).fit) rfl ⟨rfl, below_only HB5.out (Only.row _) (by omega) HB5.out.size⟩

set_option maxHeartbeats 1000000 in
theorem shape2_true (x : NL) (hb : x.has = true) (w : World) :
    Calls Try.prog 111 #[.agg #[], x.v] w fun e w' => e = .returned x.sh2.v ∧ Below w.heap.size w w' := by
  rw [NL.v_eq]
  have x0 : x.cs[0]? = some (.int .i64 x.k) := rfl
  have x1 : x.cs[1]? = some (.int .u64 x.rd) := rfl
  have x2 : x.cs[2]? = some (.int .u8 x.e0) := rfl
  have x3 : x.cs[3]? = some (.int .u8 x.e1) := rfl
  have x4 : x.cs[4]? = some (.int .u8 x.e2) := rfl
  have x5 : x.cs[5]? = some (.int .u8 x.e3) := rfl
  have x6 : x.cs[6]? = some (.int .u8 x.e4) := rfl
  have x7 : x.cs[7]? = some (.int .u8 x.e5) := rfl
  have x8 : x.cs[8]? = some (.int .u8 x.e6) := rfl
  have x9 : x.cs[9]? = some (.int .u8 x.e7) := rfl
  have x10 : x.cs[10]? = some (.int .u8 x.e8) := rfl
  have x11 : x.cs[11]? = some (.int .u8 x.e9) := rfl
  have x12 : x.cs[12]? = some (.int .u32 x.tag) := rfl
  have x13 : x.cs[13]? = some (.int .u64 x.mac) := rfl
  have x15 : x.cs[15]? = some (.bool true) := by rw [← hb]; rfl
  have x19 : x.cs[19]? = some (.int .u32 x.l1) := rfl
  have x20 : x.cs[20]? = some (.int .u32 x.l2) := rfl
  have x14 : x.cs[14]? = some (.int .u32 x.ip) := rfl
  have HZ : Hid (Has (((w.alloc (.cells #[] 92)).alloc (.cells x.cs 31)).alloc (.cells zcs 31)) (w.heap.size + 1 + 1) 31 zcs) := Lib.hid (by
    have h := Has.new ((w.alloc (.cells #[] 92)).alloc (.cells x.cs 31)) 31 zcs
    simpa using h)
  have HB3 : Hid (Below w.heap.size w (((w.alloc (.cells #[] 92)).alloc (.cells x.cs 31)).alloc (.cells zcs 31))) := Lib.hid ((((Below.refl _ w).alloc (Nat.le_refl _) _).alloc (by simp) _).alloc (by simp; omega) _)
  have HZ5 : Hid (Has ((((w.alloc (.cells #[] 92)).alloc (.cells x.cs 31)).alloc (.cells zcs 31)).alloc (.cells zcs 31)) (w.heap.size + 1 + 1 + 1) 31 zcs) := Lib.hid (by
    have h := Has.new (((w.alloc (.cells #[] 92)).alloc (.cells x.cs 31)).alloc (.cells zcs 31)) 31 zcs
    simpa using h)
  have HB4 : Hid (Below w.heap.size w ((((w.alloc (.cells #[] 92)).alloc (.cells x.cs 31)).alloc (.cells zcs 31)).alloc (.cells zcs 31))) := Lib.hid (HB3.out.alloc HB3.out.size _)
  have HZ4 : Hid (Has (((((w.alloc (.cells #[] 92)).alloc (.cells x.cs 31)).alloc (.cells zcs 31)).alloc (.cells zcs 31)).setRow (w.heap.size + 1 + 1 + 1) (x.shA true).cs) (w.heap.size + 1 + 1) 31 zcs) := Lib.hid ((HZ.out.below ((Below.refl _ _).alloc (Nat.le_refl _) _)).grown (Only.row (h := w.heap.size + 1 + 1 + 1) (x.shA true).cs) (by simp))
  have HA5 : Hid (Has (((((w.alloc (.cells #[] 92)).alloc (.cells x.cs 31)).alloc (.cells zcs 31)).alloc (.cells zcs 31)).setRow (w.heap.size + 1 + 1 + 1) (x.shA true).cs) (w.heap.size + 1 + 1 + 1) 31 (x.shA true).cs) := Lib.hid (setRow_heap _ _ _ _ _ _ HZ5.out)
  have HB5 : Hid (Below w.heap.size w (((((w.alloc (.cells #[] 92)).alloc (.cells x.cs 31)).alloc (.cells zcs 31)).alloc (.cells zcs 31)).setRow (w.heap.size + 1 + 1 + 1) (x.shA true).cs)) := Lib.hid (below_only HB4.out (Only.row _) (by omega) HB4.out.size)
  have HX5 : Hid (Has (((((w.alloc (.cells #[] 92)).alloc (.cells x.cs 31)).alloc (.cells zcs 31)).alloc (.cells zcs 31)).setRow (w.heap.size + 1 + 1 + 1) (x.shA true).cs) (w.heap.size + 1) 31 x.cs) := Lib.hid (by
    have h := (Has.new (w.alloc (.cells #[] 92)) 31 x.cs)
    have h2 := (h.below ((Below.refl _ _).alloc (Nat.le_refl _) (.cells zcs 31))).below ((Below.refl _ _).alloc (Nat.le_refl _) (.cells zcs 31))
    have h3 := h2.grown (Only.row (h := w.heap.size + 1 + 1 + 1) (x.shA true).cs) (by simp)
    simpa using h3)
  have q15 := HX5.out.n15
  rw [hb] at q15
  have q14 := HX5.out.n14
  have p14 := HA5.out.n14
  have f14 := HA5.out.free 14
  have HA6 : Hid (Has ((((((w.alloc (.cells #[] 92)).alloc (.cells x.cs 31)).alloc (.cells zcs 31)).alloc (.cells zcs 31)).setRow (w.heap.size + 1 + 1 + 1) (x.shA true).cs).setCell ⟨w.heap.size + 1 + 1 + 1, 14, none⟩ (.int .u32 x.ip)) (w.heap.size + 1 + 1 + 1) 31 x.shB.cs) := Lib.hid (HA5.out.set_ 14 (.int .u32 x.ip))
  have HZ6 : Hid (Has ((((((w.alloc (.cells #[] 92)).alloc (.cells x.cs 31)).alloc (.cells zcs 31)).alloc (.cells zcs 31)).setRow (w.heap.size + 1 + 1 + 1) (x.shA true).cs).setCell ⟨w.heap.size + 1 + 1 + 1, 14, none⟩ (.int .u32 x.ip)) (w.heap.size + 1 + 1) 31 zcs) := Lib.hid (HZ4.out.grown (row := some (w.heap.size + 1 + 1 + 1)) (only_set (only_refl _ _) (.inl rfl) _) (by simp))
  have HB6 : Hid (Below w.heap.size w ((((((w.alloc (.cells #[] 92)).alloc (.cells x.cs 31)).alloc (.cells zcs 31)).alloc (.cells zcs 31)).setRow (w.heap.size + 1 + 1 + 1) (x.shA true).cs).setCell ⟨w.heap.size + 1 + 1 + 1, 14, none⟩ (.int .u32 x.ip))) := Lib.hid (HB5.out.setCell (p := ⟨w.heap.size + 1 + 1 + 1, 14, none⟩) (by simp; omega) _)
  have e2 : Hid (x.sh2 = (x.shB)) := Lib.hid (by simp only [NL.sh2, NL.shB]; rw [hb]; rfl)
  have HBb := Lib.hid hb
  clear hb
  rw [e2.out]
  go_enter Try.func111, Try.ntmps111
  go_upto_region 4 with (refine wpList_store_row rfl 31 (.tmp 5) (.tmp 22) rfl (w.heap.size + 1 + 1 + 1) (x.shA true).cs rfl rfl 31 zcs HZ5.out (x.shA true).fit rfl (x.shA true).one ?_; obtain ⟨w5, hw5⟩ : ∃ w5, (((((w.alloc (.cells #[] 92)).alloc (.cells x.cs 31)).alloc (.cells zcs 31)).alloc (.cells zcs 31)).setRow (w.heap.size + 1 + 1 + 1) (x.shA true).cs) = w5 := ⟨_, rfl⟩; rw [hw5] at HZ4 HA5 HB5 q15 HA6 HZ6 HB6 q14 p14 f14 ⊢; clear hw5 HX5 HZ HZ5 HB3 HB4)
  generalize w5.setCell ⟨w.heap.size + 1 + 1 + 1, 14, none⟩ (.int .u32 x.ip) = w6 at *
  go_wp2_with (first
    | (refine wpList_load_row rfl 31 (.tmp 5) rfl (w.heap.size + 1 + 1 + 1) rfl 31 (x.shB).cs (0, 0) _ HA6.out Try.underlying31 rfl (x.shB).fit ?_)
    | (refine wpList_store_row rfl 31 (.tmp 4) (.tmp 28) rfl (w.heap.size + 1 + 1) (x.shB).cs rfl rfl 31 zcs HZ6.out (x.shB).fit rfl (x.shB).one ?_))
  exact bodyPost_ret (v := (x.shB).v) (results_cell_row rfl _ _ (w.heap.size + 1 + 1) 31 (x.shB).cs (0, 0) _ rfl (setRow_heap _ _ _ _ _ _ HZ6.out) Try.underlying31 rfl (x.shB).fit) rfl ⟨rfl, below_only HB6.out (Only.row _) (by omega) HB6.out.size⟩

theorem shape2 (x : NL) (w : World) :
    Calls Try.prog 111 #[.agg #[], x.v] w fun e w' => e = .returned x.sh2.v ∧ Below w.heap.size w w' := by
  by_cases h : x.has = true
  · exact shape2_true x h w
  · exact shape2_false x (by simpa using h) w

set_option maxHeartbeats 1000000 in
theorem shape3 (x : NL) (w : World) :
    Calls Try.prog 119 #[.agg #[], x.v] w fun e w' => e = .returned x.sh3.v ∧ Below w.heap.size w w' := by
  rw [NL.v_eq]
  have x0 : x.cs[0]? = some (.int .i64 x.k) := rfl
  have x1 : x.cs[1]? = some (.int .u64 x.rd) := rfl
  have x12 : x.cs[12]? = some (.int .u32 x.tag) := rfl
  have x14 : x.cs[14]? = some (.int .u32 x.ip) := rfl
  have HZ : Hid (Has (((w.alloc (.cells #[] 93)).alloc (.cells x.cs 31)).alloc (.cells zcs 31)) (w.heap.size + 1 + 1) 31 zcs) := Lib.hid (by
    have h := Has.new ((w.alloc (.cells #[] 93)).alloc (.cells x.cs 31)) 31 zcs
    simpa using h)
  have HB3 : Hid (Below w.heap.size w (((w.alloc (.cells #[] 93)).alloc (.cells x.cs 31)).alloc (.cells zcs 31))) := Lib.hid ((((Below.refl _ w).alloc (Nat.le_refl _) _).alloc (by simp) _).alloc (by simp; omega) _)
  go_enter Try.func119, Try.ntmps119
  go_wp2_with (refine wpList_store_row rfl 31 (.tmp 4) (.tmp 13) rfl (w.heap.size + 1 + 1) x.sh3.cs rfl rfl 31 zcs HZ.out x.sh3.fit rfl x.sh3.one ?_)
  exact bodyPost_ret (v := x.sh3.v) (results_cell_row rfl _ _ (w.heap.size + 1 + 1) 31 x.sh3.cs (0, 0) _ rfl (setRow_heap _ _ _ _ _ _ HZ.out) Try.underlying31 rfl x.sh3.fit) rfl ⟨rfl, below_only HB3.out (Only.row _) (by omega) HB3.out.size⟩

set_option maxHeartbeats 1000000 in
theorem shape4 (x : NL) (w : World) :
    Calls Try.prog 122 #[.agg #[], x.v] w fun e w' => e = .returned x.sh4.v ∧ Below w.heap.size w w' := by
  rw [NL.v_eq]
  have x0 : x.cs[0]? = some (.int .i64 x.k) := rfl
  have x1 : x.cs[1]? = some (.int .u64 x.rd) := rfl
  have x2 : x.cs[2]? = some (.int .u8 x.e0) := rfl
  have x3 : x.cs[3]? = some (.int .u8 x.e1) := rfl
  have x4 : x.cs[4]? = some (.int .u8 x.e2) := rfl
  have x5 : x.cs[5]? = some (.int .u8 x.e3) := rfl
  have x6 : x.cs[6]? = some (.int .u8 x.e4) := rfl
  have x7 : x.cs[7]? = some (.int .u8 x.e5) := rfl
  have x8 : x.cs[8]? = some (.int .u8 x.e6) := rfl
  have x9 : x.cs[9]? = some (.int .u8 x.e7) := rfl
  have x10 : x.cs[10]? = some (.int .u8 x.e8) := rfl
  have x11 : x.cs[11]? = some (.int .u8 x.e9) := rfl
  have x14 : x.cs[14]? = some (.int .u32 x.ip) := rfl
  have HZ : Hid (Has (((w.alloc (.cells #[] 94)).alloc (.cells x.cs 31)).alloc (.cells zcs 31)) (w.heap.size + 1 + 1) 31 zcs) := Lib.hid (by
    have h := Has.new ((w.alloc (.cells #[] 94)).alloc (.cells x.cs 31)) 31 zcs
    simpa using h)
  have HB3 : Hid (Below w.heap.size w (((w.alloc (.cells #[] 94)).alloc (.cells x.cs 31)).alloc (.cells zcs 31))) := Lib.hid ((((Below.refl _ w).alloc (Nat.le_refl _) _).alloc (by simp) _).alloc (by simp; omega) _)
  go_enter Try.func122, Try.ntmps122
  go_wp2_with (refine wpList_store_row rfl 31 (.tmp 4) (.tmp 13) rfl (w.heap.size + 1 + 1) x.sh4.cs rfl rfl 31 zcs HZ.out x.sh4.fit rfl x.sh4.one ?_)
  exact bodyPost_ret (v := x.sh4.v) (results_cell_row rfl _ _ (w.heap.size + 1 + 1) 31 x.sh4.cs (0, 0) _ rfl (setRow_heap _ _ _ _ _ _ HZ.out) Try.underlying31 rfl x.sh4.fit) rfl ⟨rfl, below_only HB3.out (Only.row _) (by omega) HB3.out.size⟩

set_option maxHeartbeats 1000000 in
theorem shape5 (x : NL) (w : World) :
    Calls Try.prog 125 #[.agg #[], x.v] w fun e w' => e = .returned x.sh5.v ∧ Below w.heap.size w w' := by
  rw [NL.v_eq]
  have x0 : x.cs[0]? = some (.int .i64 x.k) := rfl
  have x1 : x.cs[1]? = some (.int .u64 x.rd) := rfl
  have x2 : x.cs[2]? = some (.int .u8 x.e0) := rfl
  have x3 : x.cs[3]? = some (.int .u8 x.e1) := rfl
  have x4 : x.cs[4]? = some (.int .u8 x.e2) := rfl
  have x5 : x.cs[5]? = some (.int .u8 x.e3) := rfl
  have x6 : x.cs[6]? = some (.int .u8 x.e4) := rfl
  have x7 : x.cs[7]? = some (.int .u8 x.e5) := rfl
  have x8 : x.cs[8]? = some (.int .u8 x.e6) := rfl
  have x9 : x.cs[9]? = some (.int .u8 x.e7) := rfl
  have x10 : x.cs[10]? = some (.int .u8 x.e8) := rfl
  have x11 : x.cs[11]? = some (.int .u8 x.e9) := rfl
  have x12 : x.cs[12]? = some (.int .u32 x.tag) := rfl
  have x16 : x.cs[16]? = some (.int .u32 x.pip) := rfl
  have x17 : x.cs[17]? = some (.int .i64 x.pl) := rfl
  have x18 : x.cs[18]? = some (.int .u32 x.gw) := rfl
  have x19 : x.cs[19]? = some (.int .u32 x.l1) := rfl
  have HZ : Hid (Has (((w.alloc (.cells #[] 95)).alloc (.cells x.cs 31)).alloc (.cells zcs 31)) (w.heap.size + 1 + 1) 31 zcs) := Lib.hid (by
    have h := Has.new ((w.alloc (.cells #[] 95)).alloc (.cells x.cs 31)) 31 zcs
    simpa using h)
  have HB3 : Hid (Below w.heap.size w (((w.alloc (.cells #[] 95)).alloc (.cells x.cs 31)).alloc (.cells zcs 31))) := Lib.hid ((((Below.refl _ w).alloc (Nat.le_refl _) _).alloc (by simp) _).alloc (by simp; omega) _)
  go_enter Try.func125, Try.ntmps125
  go_wp2_with (refine wpList_store_row rfl 31 (.tmp 4) (.tmp 19) rfl (w.heap.size + 1 + 1) x.sh5.cs rfl rfl 31 zcs HZ.out x.sh5.fit rfl x.sh5.one ?_)
  exact bodyPost_ret (v := x.sh5.v) (results_cell_row rfl _ _ (w.heap.size + 1 + 1) 31 x.sh5.cs (0, 0) _ rfl (setRow_heap _ _ _ _ _ _ HZ.out) Try.underlying31 rfl x.sh5.fit) rfl ⟨rfl, below_only HB3.out (Only.row _) (by omega) HB3.out.size⟩

theorem shape_any (k : Nat) (h1 : 1 ≤ k) (h5 : k ≤ 5) (x : NL) (w : World) :
    Calls Try.prog (fsh k) #[.agg #[], .agg x.cs] w fun e w' => e = .returned (.agg (x.sh k).cs) ∧ Below w.heap.size w w' := by
  have h : k = 1 ∨ k = 2 ∨ k = 3 ∨ k = 4 ∨ k = 5 := by omega
  rcases h with rfl | rfl | rfl | rfl | rfl
  · exact shape1 x w
  · exact shape2 x w
  · exact shape3 x w
  · exact shape4 x w
  · exact shape5 x w

end Go.Proofs.Ythhajknmokomjaa
