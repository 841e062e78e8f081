/- Routes compared. -/
import Derived.Test.YthhajknmokomjaaZNlA
import Derived.Laws.StructEq
namespace Go.Proofs.Ythhajknmokomjaa
open Go.RowKit Go.Maps
set_option linter.unusedVariables false
set_option maxRecDepth 100000

theorem fld_nil (P : Program) (w : World) (d : Nat) (xs ys : Array Value) : (Op.eqFields d xs ys []).run P w = .ok true w := rfl
theorem fld_step {P : Program} {w : World} {d : Nat} {xs ys : Array Value} {f : Field} {fs : List Field} (a b : Value) {r c : Bool} (hn : f.name ≠ "_") (ha : (part f.type xs f.offset).run P w = .ok a w) (hb : (part f.type ys f.offset).run P w = .ok b w)
    (hr : (Op.equalIn d f.type a b).run P w = .ok r w) (hc : (Op.eqFields d xs ys fs).run P w = .ok c w) : (Op.eqFields d xs ys (f :: fs)).run P w = .ok (r && c) w := by
  simp only [Op.eqFields, Sem.run_bind, Sem.run_ite, ne_eq, hn, not_false_eq_true, if_true, ha, hb, hr, Result.andThen_ok, hc]
  cases r <;> simp

theorem all_range_nums : ∀ (xs ys : List Int), xs.length = ys.length → ((List.range xs.length).all fun i => xs.getD i 0 == ys.getD i 0) = (xs == ys)
  | [], [], _ => rfl
  | x :: xs, y :: ys, h => by
    have ih := all_range_nums xs ys (by simpa using h)
    rw [List.length_cons, List.range_succ_eq_map, List.all_cons, List.all_map]
    simp only [List.getD_cons_zero, Function.comp_def, List.getD_cons_succ, ih]
    simp [List.cons_beq_cons]
  | [], _ :: _, h => by simp at h
  | _ :: _, [], h => by simp at h

theorem run_equal_nums (P : Program) (w : World) (d : Nat) (t e : TypeId) (n : Nat) (k : IntKind) (ht : P.underlying t = some (.array n e)) (he : P.underlying e = some (.int k)) (hsz : ∀ w, (sizeOf e).run P w = .ok 1 w)
    (xs ys : List Int) (hx : xs.length = n) (hy : ys.length = n) :
    (Op.equalIn (d + 2) t (.agg (xs.map (Value.int k)).toArray) (.agg (ys.map (Value.int k)).toArray)).run P w = .ok (xs == ys) w := by
  rw [← all_range_nums xs ys (hx.trans hy.symm), hx, List.range_eq_range', Op.equalIn]
  simp only [Sem.run_bind, run_underlying ht, Result.andThen_ok, hsz, Std.Legacy.Range.forIn_eq_forIn_range', Std.Legacy.Range.size, Nat.sub_zero, Nat.add_sub_cancel, Nat.div_one]
  have hl : ∀ i ∈ List.range' 0 n 1, i < n := fun i hi => by simpa using (List.mem_range'_1.1 hi).2
  generalize List.range' 0 n 1 = l at hl ⊢
  induction l with
  | nil => simp
  | cons i l ih =>
    have hi : i < n := hl i (by simp)
    have px : (part e (xs.map (Value.int k)).toArray (i * 1)).run P w = .ok (.int k (xs.getD i 0)) w := by
      simp [part, isAgg, run_underlying he, List.getD, List.getElem?_eq_getElem (show i < xs.length by omega)]
    have py : (part e (ys.map (Value.int k)).toArray (i * 1)).run P w = .ok (.int k (ys.getD i 0)) w := by
      simp [part, isAgg, run_underlying he, List.getD, List.getElem?_eq_getElem (show i < ys.length by omega)]
    have pe : (Op.equalIn (d + 1) e (.int k (xs.getD i 0)) (.int k (ys.getD i 0))).run P w = .ok (xs.getD i 0 == ys.getD i 0) w :=
      run_equalIn_int w d e k k _ _ he
    simp only [List.forIn_cons, Sem.run_bind, px, py, pe, Result.andThen_ok, List.all_cons]
    cases hb : (xs.getD i 0 == ys.getD i 0)
    · simp
    · simp only [Bool.not_true, Bool.false_eq_true, if_false, Sem.run_pure, Result.andThen_ok, Bool.true_and]
      exact ih fun j hj => hl j (by simp [hj])

theorem size_u8 (w : World) : (sizeOf 5).run Try.prog w = .ok 1 w := by kernel_rfl
theorem nl_stood : Try.prog.stoodInHeld 31 = false := by kernel_rfl
theorem px_stood : Try.prog.stoodInHeld 29 = false := by kernel_rfl

theorem px_eq (d : Nat) (p l q m : Int) (w : World) : (Op.equalIn (d + 2) 29 (pfx p l) (pfx q m)).run Try.prog w = .ok ((p == q) && (l == m)) w := by
  rw [run_equalIn_struct w (d + 1) 29 _ _ Try.underlying29 px_stood]
  have h := fld_step (d := d + 1) (xs := #[.int .u32 p, .int .i64 l]) (ys := #[.int .u32 q, .int .i64 m]) (f := (Try.prog.fieldsOf 29).toList[0]'(by decide)) (fs := [(Try.prog.fieldsOf 29).toList[1]'(by decide)]) (w := w) (.int .u32 p) (.int .u32 q) (by decide) (by kernel_rfl) (by kernel_rfl) (run_equalIn_int w d 27 .u32 .u32 p q Try.underlying27)
    (fld_step (w := w) (.int .i64 l) (.int .i64 m) (by decide) (by kernel_rfl) (by kernel_rfl) (run_equalIn_int w d 3 .i64 .i64 l m Try.underlying3) (fld_nil _ _ _ _ _))
  rw [Bool.and_true] at h
  exact h

set_option maxHeartbeats 1000000 in
theorem nl_eq (x y : NL) (w : World) : (Op.equalIn 10000 31 (.agg x.cs) (.agg y.cs)).run Try.prog w = .ok (x.same y) w := by
  rw [run_equalIn_struct w 9999 31 _ _ Try.underlying31 nl_stood]
  have px0 : (part 3 x.cs 0).run Try.prog w = .ok (.int .i64 x.k) w := by kernel_rfl
  have py0 : (part 3 y.cs 0).run Try.prog w = .ok (.int .i64 y.k) w := by kernel_rfl
  have px1 : (part 22 x.cs 1).run Try.prog w = .ok (.int .u64 x.rd) w := by kernel_rfl
  have py1 : (part 22 y.cs 1).run Try.prog w = .ok (.int .u64 y.rd) w := by kernel_rfl
  have px2 : (part 24 x.cs 2).run Try.prog w = .ok (.agg ([x.e0, x.e1, x.e2, x.e3, x.e4, x.e5, x.e6, x.e7, x.e8, x.e9].map (Value.int .u8)).toArray) w := by kernel_rfl
  have py2 : (part 24 y.cs 2).run Try.prog w = .ok (.agg ([y.e0, y.e1, y.e2, y.e3, y.e4, y.e5, y.e6, y.e7, y.e8, y.e9].map (Value.int .u8)).toArray) w := by kernel_rfl
  have px3 : (part 25 x.cs 12).run Try.prog w = .ok (.int .u32 x.tag) w := by kernel_rfl
  have py3 : (part 25 y.cs 12).run Try.prog w = .ok (.int .u32 y.tag) w := by kernel_rfl
  have px4 : (part 26 x.cs 13).run Try.prog w = .ok (.int .u64 x.mac) w := by kernel_rfl
  have py4 : (part 26 y.cs 13).run Try.prog w = .ok (.int .u64 y.mac) w := by kernel_rfl
  have px5 : (part 27 x.cs 14).run Try.prog w = .ok (.int .u32 x.ip) w := by kernel_rfl
  have py5 : (part 27 y.cs 14).run Try.prog w = .ok (.int .u32 y.ip) w := by kernel_rfl
  have px6 : (part 4 x.cs 15).run Try.prog w = .ok (.bool x.has) w := by kernel_rfl
  have py6 : (part 4 y.cs 15).run Try.prog w = .ok (.bool y.has) w := by kernel_rfl
  have px7 : (part 29 x.cs 16).run Try.prog w = .ok (pfx x.pip x.pl) w := by kernel_rfl
  have py7 : (part 29 y.cs 16).run Try.prog w = .ok (pfx y.pip y.pl) w := by kernel_rfl
  have px8 : (part 27 x.cs 18).run Try.prog w = .ok (.int .u32 x.gw) w := by kernel_rfl
  have py8 : (part 27 y.cs 18).run Try.prog w = .ok (.int .u32 y.gw) w := by kernel_rfl
  have px9 : (part 25 x.cs 19).run Try.prog w = .ok (.int .u32 x.l1) w := by kernel_rfl
  have py9 : (part 25 y.cs 19).run Try.prog w = .ok (.int .u32 y.l1) w := by kernel_rfl
  have px10 : (part 25 x.cs 20).run Try.prog w = .ok (.int .u32 x.l2) w := by kernel_rfl
  have py10 : (part 25 y.cs 20).run Try.prog w = .ok (.int .u32 y.l2) w := by kernel_rfl
  have h := (fld_step (d := 9999) (xs := x.cs) (ys := y.cs) (f := (Try.prog.fieldsOf 31).toList[0]'(by decide)) (fs := [(Try.prog.fieldsOf 31).toList[1]'(by decide), (Try.prog.fieldsOf 31).toList[2]'(by decide), (Try.prog.fieldsOf 31).toList[3]'(by decide), (Try.prog.fieldsOf 31).toList[4]'(by decide), (Try.prog.fieldsOf 31).toList[5]'(by decide), (Try.prog.fieldsOf 31).toList[6]'(by decide), (Try.prog.fieldsOf 31).toList[7]'(by decide), (Try.prog.fieldsOf 31).toList[8]'(by decide), (Try.prog.fieldsOf 31).toList[9]'(by decide), (Try.prog.fieldsOf 31).toList[10]'(by decide)]) (w := w) _ _ (by decide) px0 py0 (run_equalIn_int w 9998 3 .i64 .i64 x.k y.k Try.underlying3)
    (fld_step (d := 9999) (xs := x.cs) (ys := y.cs) (f := (Try.prog.fieldsOf 31).toList[1]'(by decide)) (fs := [(Try.prog.fieldsOf 31).toList[2]'(by decide), (Try.prog.fieldsOf 31).toList[3]'(by decide), (Try.prog.fieldsOf 31).toList[4]'(by decide), (Try.prog.fieldsOf 31).toList[5]'(by decide), (Try.prog.fieldsOf 31).toList[6]'(by decide), (Try.prog.fieldsOf 31).toList[7]'(by decide), (Try.prog.fieldsOf 31).toList[8]'(by decide), (Try.prog.fieldsOf 31).toList[9]'(by decide), (Try.prog.fieldsOf 31).toList[10]'(by decide)]) (w := w) _ _ (by decide) px1 py1 (run_equalIn_int w 9998 22 .u64 .u64 x.rd y.rd Try.underlying22)
    (fld_step (d := 9999) (xs := x.cs) (ys := y.cs) (f := (Try.prog.fieldsOf 31).toList[2]'(by decide)) (fs := [(Try.prog.fieldsOf 31).toList[3]'(by decide), (Try.prog.fieldsOf 31).toList[4]'(by decide), (Try.prog.fieldsOf 31).toList[5]'(by decide), (Try.prog.fieldsOf 31).toList[6]'(by decide), (Try.prog.fieldsOf 31).toList[7]'(by decide), (Try.prog.fieldsOf 31).toList[8]'(by decide), (Try.prog.fieldsOf 31).toList[9]'(by decide), (Try.prog.fieldsOf 31).toList[10]'(by decide)]) (w := w) _ _ (by decide) px2 py2 (run_equal_nums Try.prog w 9997 24 5 10 .u8 Try.underlying24 Try.underlying5 size_u8 [x.e0, x.e1, x.e2, x.e3, x.e4, x.e5, x.e6, x.e7, x.e8, x.e9] [y.e0, y.e1, y.e2, y.e3, y.e4, y.e5, y.e6, y.e7, y.e8, y.e9] rfl rfl)
    (fld_step (d := 9999) (xs := x.cs) (ys := y.cs) (f := (Try.prog.fieldsOf 31).toList[3]'(by decide)) (fs := [(Try.prog.fieldsOf 31).toList[4]'(by decide), (Try.prog.fieldsOf 31).toList[5]'(by decide), (Try.prog.fieldsOf 31).toList[6]'(by decide), (Try.prog.fieldsOf 31).toList[7]'(by decide), (Try.prog.fieldsOf 31).toList[8]'(by decide), (Try.prog.fieldsOf 31).toList[9]'(by decide), (Try.prog.fieldsOf 31).toList[10]'(by decide)]) (w := w) _ _ (by decide) px3 py3 (run_equalIn_int w 9998 25 .u32 .u32 x.tag y.tag Try.underlying25)
    (fld_step (d := 9999) (xs := x.cs) (ys := y.cs) (f := (Try.prog.fieldsOf 31).toList[4]'(by decide)) (fs := [(Try.prog.fieldsOf 31).toList[5]'(by decide), (Try.prog.fieldsOf 31).toList[6]'(by decide), (Try.prog.fieldsOf 31).toList[7]'(by decide), (Try.prog.fieldsOf 31).toList[8]'(by decide), (Try.prog.fieldsOf 31).toList[9]'(by decide), (Try.prog.fieldsOf 31).toList[10]'(by decide)]) (w := w) _ _ (by decide) px4 py4 (run_equalIn_int w 9998 26 .u64 .u64 x.mac y.mac Try.underlying26)
    (fld_step (d := 9999) (xs := x.cs) (ys := y.cs) (f := (Try.prog.fieldsOf 31).toList[5]'(by decide)) (fs := [(Try.prog.fieldsOf 31).toList[6]'(by decide), (Try.prog.fieldsOf 31).toList[7]'(by decide), (Try.prog.fieldsOf 31).toList[8]'(by decide), (Try.prog.fieldsOf 31).toList[9]'(by decide), (Try.prog.fieldsOf 31).toList[10]'(by decide)]) (w := w) _ _ (by decide) px5 py5 (run_equalIn_int w 9998 27 .u32 .u32 x.ip y.ip Try.underlying27)
    (fld_step (d := 9999) (xs := x.cs) (ys := y.cs) (f := (Try.prog.fieldsOf 31).toList[6]'(by decide)) (fs := [(Try.prog.fieldsOf 31).toList[7]'(by decide), (Try.prog.fieldsOf 31).toList[8]'(by decide), (Try.prog.fieldsOf 31).toList[9]'(by decide), (Try.prog.fieldsOf 31).toList[10]'(by decide)]) (w := w) _ _ (by decide) px6 py6 (run_equalIn_bool' w 9998 4 x.has y.has Try.underlying4)
    (fld_step (d := 9999) (xs := x.cs) (ys := y.cs) (f := (Try.prog.fieldsOf 31).toList[7]'(by decide)) (fs := [(Try.prog.fieldsOf 31).toList[8]'(by decide), (Try.prog.fieldsOf 31).toList[9]'(by decide), (Try.prog.fieldsOf 31).toList[10]'(by decide)]) (w := w) _ _ (by decide) px7 py7 (px_eq 9997 x.pip x.pl y.pip y.pl w)
    (fld_step (d := 9999) (xs := x.cs) (ys := y.cs) (f := (Try.prog.fieldsOf 31).toList[8]'(by decide)) (fs := [(Try.prog.fieldsOf 31).toList[9]'(by decide), (Try.prog.fieldsOf 31).toList[10]'(by decide)]) (w := w) _ _ (by decide) px8 py8 (run_equalIn_int w 9998 27 .u32 .u32 x.gw y.gw Try.underlying27)
    (fld_step (d := 9999) (xs := x.cs) (ys := y.cs) (f := (Try.prog.fieldsOf 31).toList[9]'(by decide)) (fs := [(Try.prog.fieldsOf 31).toList[10]'(by decide)]) (w := w) _ _ (by decide) px9 py9 (run_equalIn_int w 9998 25 .u32 .u32 x.l1 y.l1 Try.underlying25)
    (fld_step (d := 9999) (xs := x.cs) (ys := y.cs) (f := (Try.prog.fieldsOf 31).toList[10]'(by decide)) (fs := []) (w := w) _ _ (by decide) px10 py10 (run_equalIn_int w 9998 25 .u32 .u32 x.l2 y.l2 Try.underlying25)
    (fld_nil _ _ _ _ _))))))))))))
  have hs : x.same y = ((x.k == y.k) && ((x.rd == y.rd) && (([x.e0, x.e1, x.e2, x.e3, x.e4, x.e5, x.e6, x.e7, x.e8, x.e9] == [y.e0, y.e1, y.e2, y.e3, y.e4, y.e5, y.e6, y.e7, y.e8, y.e9]) && ((x.tag == y.tag) && ((x.mac == y.mac) && ((x.ip == y.ip) && ((x.has == y.has) && (((x.pip == y.pip) && (x.pl == y.pl)) && ((x.gw == y.gw) && ((x.l1 == y.l1) && ((x.l2 == y.l2) && true))))))))))) := by
    simp [NL.same, Bool.and_assoc]
  rw [hs]
  exact h

theorem neq_nl (x y : NL) (w : World) : (binOp .neq 31 (.agg x.cs) (.agg y.cs)).run Try.prog w = .ok (.bool (!x.same y)) w := by
  rw [run_neq_struct, nl_eq]; rfl
theorem eql_nl (x y : NL) (w : World) : (binOp .eql 31 (.agg x.cs) (.agg y.cs)).run Try.prog w = .ok (.bool (x.same y)) w := by
  rw [run_eql_struct, nl_eq]; rfl

end Go.Proofs.Ythhajknmokomjaa
