/- Contracts of the small functions of package addr that compute with numbers alone. -/
import Derived.Test.YtpkdjikcckidgaaRows
import Derived.WalkKit
import Derived.ProofKit
import Derived.OpenShut
import Derived.Lib.Hide
import Derived.BigQuiet
import Derived.Deep.QuietTactic
namespace Go.Proofs.Ytpkdjikcckidgaa
open Go.ChangeShapes Go.WideShapes Go.ChangeAt Go.RowKit

theorem isNode_yes (n : Int) (w : World) (h0 : 0 ≤ n) (h1 : n < 32) :
    Calls Try.prog 27 #[.int .i64 n] w fun e w' => e = .returned (.bool true) ∧ w = w' := by
  go_enter Try.func27, Try.ntmps27
  go_wp2
  go_ret
  exact ⟨rfl, rfl⟩

theorem isNode_no (n : Int) (w : World) (h : n < 0 ∨ 32 ≤ n) :
    Calls Try.prog 27 #[.int .i64 n] w fun e w' => e = .returned (.bool false) ∧ w = w' := by
  rcases h with h | h
  · go_enter Try.func27, Try.ntmps27
    go_wp2
    go_ret
    exact ⟨rfl, rfl⟩
  · have h0 : 0 ≤ n := by omega
    have hd : decide (n < 32) = false := by simp; omega
    go_enter Try.func27, Try.ntmps27
    go_wp2
    go_ret
    exact ⟨rfl, rfl⟩

theorem loopback_yes (n : Int) (w : World) (h0 : 0 ≤ n) (h1 : n < 32) :
    Calls Try.prog 12 #[.int .i64 n] w fun e w' => e = .returned (.tuple #[.int .u32 (184483840 + n + 1), .int .i64 0]) ∧ w = w' := by
  go_enter Try.func12, Try.ntmps12
  go_wp2_with (go_at_call 27; refine (isNode_yes _ _ (by omega) (by omega)).mono ?_; rintro e w' ⟨rfl, rfl⟩)
  go_ret2
  exact ⟨rfl, rfl⟩

theorem loopback_no (n : Int) (w : World) (h : n < 0 ∨ 32 ≤ n) :
    Calls Try.prog 12 #[.int .i64 n] w fun e w' => e = .returned (.tuple #[.int .u32 0, .int .i64 2]) ∧ w = w' := by
  go_enter Try.func12, Try.ntmps12
  go_wp2_with (go_at_call 27; refine (isNode_no _ _ h).mono ?_; rintro e w' ⟨rfl, rfl⟩)
  go_ret2
  exact ⟨rfl, rfl⟩

theorem router_yes (n : Int) (w : World) (h0 : 0 ≤ n) (h1 : n < 32) :
    Calls Try.prog 13 #[.int .i64 n] w fun e w' => e = .returned (.tuple #[.int .u64 (2199023255552 + n), .int .i64 0]) ∧ w = w' := by
  go_enter Try.func13, Try.ntmps13
  go_wp2_with (go_at_call 27; refine (isNode_yes _ _ (by omega) (by omega)).mono ?_; rintro e w' ⟨rfl, rfl⟩)
  go_ret2
  exact ⟨rfl, rfl⟩

theorem router_no (n : Int) (w : World) (h : n < 0 ∨ 32 ≤ n) :
    Calls Try.prog 13 #[.int .i64 n] w fun e w' => e = .returned (.tuple #[.int .u64 0, .int .i64 2]) ∧ w = w' := by
  go_enter Try.func13, Try.ntmps13
  go_wp2_with (go_at_call 27; refine (isNode_no _ _ h).mono ?_; rintro e w' ⟨rfl, rfl⟩)
  go_ret2
  exact ⟨rfl, rfl⟩

theorem node_yes (n : Int) (w : World) (h0 : 0 ≤ n) (h1 : n < 32) :
    Calls Try.prog 15 #[.int .u32 (184483840 + n + 1)] w fun e w' => e = .returned (.tuple #[.int .i64 n, .bool true]) ∧ w = w' := by
  go_enter Try.func15, Try.ntmps15
  go_wp2
  go_ret2
  exact ⟨by simp; omega, rfl⟩

theorem rnode_yes (n : Int) (w : World) (h0 : 0 ≤ n) (h1 : n < 32) :
    Calls Try.prog 16 #[.int .u64 (2199023255552 + n)] w fun e w' => e = .returned (.tuple #[.int .i64 n, .bool true]) ∧ w = w' := by
  go_enter Try.func16, Try.ntmps16
  go_wp2
  go_ret2
  exact ⟨by simp; omega, rfl⟩

theorem multi_no (n : Int) (w : World) (h0 : 0 ≤ n) (h1 : n < 32) :
    Calls Try.prog 17 #[.int .u64 (2199023255552 + n)] w fun e w' => e = .returned (.bool false) ∧ w = w' := by
  have hb : bits BinOp.and .u64 (2199023255552 + n) 1099511627776 = 0 := by
    have h : ∀ k : Fin 32, bits BinOp.and .u64 (2199023255552 + (k.val : Int)) 1099511627776 = 0 := by decide +kernel
    have := h ⟨n.toNat, by omega⟩
    rwa [show (((⟨n.toNat, by omega⟩ : Fin 32).val : Nat) : Int) = n from by simp; omega] at this
  go_enter Try.func17, Try.ntmps17
  go_wp2
  go_ret
  exact ⟨by simp, rfl⟩

theorem lives_any (w : World) :
    Calls Try.prog 6 #[] w fun e w' => e = .returned (.bool true) ∧ w = w' := by
  go_enter Try.func6, Try.ntmps6
  go_wp2
  go_ret
  exact ⟨rfl, rfl⟩

/-- The ten bytes of an identifier, as a value and as a block. -/
abbrev esi (a b c d e f g h i j : Int) : Value := .agg #[.int .u8 a, .int .u8 b, .int .u8 c, .int .u8 d, .int .u8 e, .int .u8 f, .int .u8 g, .int .u8 h, .int .u8 i, .int .u8 j]
abbrev esib (a b c d e f g h i j : Int) : Obj := .cells #[.int .u8 a, .int .u8 b, .int .u8 c, .int .u8 d, .int .u8 e, .int .u8 f, .int .u8 g, .int .u8 h, .int .u8 i, .int .u8 j] 34

theorem seg_no (n : Int) (w : World) (h : n < 0 ∨ 64 ≤ n) :
    Calls Try.prog 14 #[.int .i64 n] w fun e w' => e = .returned (.tuple #[esi 0 0 0 0 0 0 0 0 0 0, .int .i64 2]) ∧ w.alloc (esib 0 0 0 0 0 0 0 0 0 0) = w' := by
  rcases h with h | h
  · go_enter Try.func14, Try.ntmps14
    go_wp2
    exact bodyPost_ret (v := .tuple #[esi 0 0 0 0 0 0 0 0 0 0, .int .i64 2]) (by simp [results, Try.results14, go_sem]) rfl ⟨rfl, rfl⟩
  · have h0 : ¬ n < 0 := by omega
    go_enter Try.func14, Try.ntmps14
    go_wp2
    exact bodyPost_ret (v := .tuple #[esi 0 0 0 0 0 0 0 0 0 0, .int .i64 2]) (by simp [results, Try.results14, go_sem]) rfl ⟨rfl, rfl⟩

theorem seg_yes (n : Int) (w : World) (h : 0 ≤ n) (h1 : n < 64) :
    Calls Try.prog 14 #[.int .i64 n] w fun e w' => e = .returned (.tuple #[esi 3 0 0 0 0 0 0 0 0 (n + 1), .int .i64 0]) ∧ w.alloc (esib 3 0 0 0 0 0 0 0 0 (n + 1)) = w' := by
  go_enter Try.func14, Try.ntmps14
  go_wp2
  exact bodyPost_ret (v := .tuple #[esi 3 0 0 0 0 0 0 0 0 (n + 1), .int .i64 0]) (by simp [results, Try.results14, go_sem]) rfl ⟨rfl, rfl⟩

theorem all_range_ints : ∀ (xs ys : List Int), xs.length = ys.length → ((List.range xs.length).all fun i => xs.getD i 0 == ys.getD i 0) = (xs == ys)
  | [], [], _ => rfl
  | x :: xs, y :: ys, h => by
    have ih := all_range_ints xs ys (by simpa using h)
    rw [List.length_cons, List.range_succ_eq_map, List.all_cons, List.all_map]
    simp only [List.getD_cons_zero, Function.comp_def, List.getD_cons_succ, ih]
    simp [List.cons_beq_cons]
  | [], _ :: _, h => by simp at h
  | _ :: _, [], h => by simp at h

theorem run_equalIn_ints (P : Program) (w : World) (d : Nat) (t e : TypeId) (n : Nat) (k : IntKind) (ht : P.underlying t = some (.array n e)) (he : P.underlying e = some (.int k)) (hsz : ∀ w, (sizeOf e).run P w = .ok 1 w)
    (xs ys : List Int) (hx : xs.length = n) (hy : ys.length = n) :
    (Op.equalIn (d + 2) t (.agg (xs.map (Value.int k)).toArray) (.agg (ys.map (Value.int k)).toArray)).run P w = .ok (xs == ys) w := by
  rw [← all_range_ints xs ys (hx.trans hy.symm), hx, List.range_eq_range', Op.equalIn]
  simp only [Sem.run_bind, run_underlying ht, Result.andThen_ok, hsz, Std.Legacy.Range.forIn_eq_forIn_range', Std.Legacy.Range.size, Nat.sub_zero, Nat.add_sub_cancel, Nat.div_one]
  have hl : ∀ i ∈ List.range' 0 n 1, i < n := fun i hi => by simpa using (List.mem_range'_1.1 hi).2
  generalize List.range' 0 n 1 = l at hl ⊢
  induction l with
  | nil => simp
  | cons i l ih =>
    have hi : i < n := hl i (by simp)
    have px : (part e (xs.map (Value.int k)).toArray (i * 1)).run P w = .ok (.int k (xs.getD i 0)) w := by
      simp [part, isAgg, run_underlying he, List.getD, List.getElem?_eq_getElem (show i < xs.length by omega)]
    have py : (part e (ys.map (Value.int k)).toArray (i * 1)).run P w = .ok (.int k (ys.getD i 0)) w := by
      simp [part, isAgg, run_underlying he, List.getD, List.getElem?_eq_getElem (show i < ys.length by omega)]
    have pe : (Op.equalIn (d + 1) e (.int k (xs.getD i 0)) (.int k (ys.getD i 0))).run P w = .ok (xs.getD i 0 == ys.getD i 0) w :=
      run_equalIn_int w d e k k _ _ he
    simp only [List.forIn_cons, Sem.run_bind, px, py, pe, Result.andThen_ok, List.all_cons]
    cases hb : (xs.getD i 0 == ys.getD i 0)
    · simp
    · simp only [Bool.not_true, Bool.false_eq_true, if_false, Sem.run_pure, Result.andThen_ok, Bool.true_and]
      exact ih fun j hj => hl j (by simp [hj])

theorem size5 (w : World) : (sizeOf 5).run Try.prog w = .ok 1 w := by kernel_rfl

/-- Two identifiers, each ten bytes, compared. -/
theorem esi_eq (w : World) (a b c d e f g h i j a' b' c' d' e' f' g' h' i' j' : Int) :
    (Op.equalIn 10000 34 (esi a b c d e f g h i j) (esi a' b' c' d' e' f' g' h' i' j')).run Try.prog w = .ok ([a, b, c, d, e, f, g, h, i, j] == [a', b', c', d', e', f', g', h', i', j']) w :=
  run_equalIn_ints Try.prog w 9998 34 5 10 .u8 Try.underlying34 Try.underlying5 size5 [a, b, c, d, e, f, g, h, i, j] [a', b', c', d', e', f', g', h', i', j'] rfl rfl

theorem esi_self (w : World) (a b c d e f g h i j : Int) :
    (Op.equalIn 10000 34 (esi a b c d e f g h i j) (esi a b c d e f g h i j)).run Try.prog w = .ok true w := by
  rw [esi_eq]; simp

theorem esiseg_own (n : Int) (w : World) (h : 0 ≤ n) (h1 : n < 64) :
    Calls Try.prog 18 #[esi 3 0 0 0 0 0 0 0 0 (n + 1)] w fun e w' => e = .returned (.tuple #[.int .i64 n, .bool true]) ∧ ((w.alloc (esib 3 0 0 0 0 0 0 0 0 (n + 1))).alloc (esib 3 0 0 0 0 0 0 0 0 (n + 1))).alloc (esib 3 0 0 0 0 0 0 0 0 (n + 1)) = w' := by
  have hq := fun w => esi_self w 3 0 0 0 0 0 0 0 0 (n + 1)
  go_enter Try.func18, Try.ntmps18
  go_wp2_with (go_at_call 14; refine (seg_yes _ _ (by omega) (by omega)).mono ?_; rintro e w' ⟨rfl, rfl⟩)
  go_ret2
  exact ⟨rfl, rfl⟩

theorem esi_eq_last (w : World) (n k : Int) (b : Bool) (h : (n == k) = b) :
    (Op.equalIn 10000 34 (esi 3 0 0 0 0 0 0 0 0 (n + 1)) (esi 3 0 0 0 0 0 0 0 0 (k + 1))).run Try.prog w = .ok b w := by
  rw [esi_eq, ← h]
  congr 1
  rw [Bool.eq_iff_iff]
  simp

end Go.Proofs.Ytpkdjikcckidgaa
