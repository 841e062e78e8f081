/- Communities: the first of a kind, read as a number, as an address, as two numbers; the getters. -/
import Derived.Test.YtofbgpgngplgpaaDoorCmI
namespace Go.Proofs.YtofbgpgngplgpaaDoor
open Go.RowKit
set_option linter.unusedVariables false
set_option linter.unusedSimpArgs false
set_option maxRecDepth 100000

theorem encF (x : Int) (x0 : 0 ≤ x) (x1 : x < 18446744073709551616) (w : World) :
    Calls Tryd.prog 61 #[.int .u64 x] w fun e w' => e = .returned (.int .i64 (x % 65536)) ∧ w = w' := by
  have h1 : bits BinOp.and .u64 x 65535 = x % 65536 := and_mask 16 x x0 x1
  have h2 : 0 ≤ x % 65536 := by omega
  have h3 : x % 65536 < 65536 := by omega
  obtain ⟨y, hy⟩ : ∃ y, x % 65536 = y := ⟨_, rfl⟩
  rw [hy] at h1 h2 h3 ⊢
  clear hy
  go_enter Tryd.func61, Tryd.ntmps61
  go_wp2_with fail
  go_ret
  exact ⟨rfl, rfl⟩
theorem macF (x : Int) (w : World) :
    Calls Tryd.prog 64 #[.int .u64 x] w fun e w' => e = .returned (.int .u64 x) ∧ w = w' := by
  go_enter Tryd.func64, Tryd.ntmps64
  go_wp2_with fail
  go_ret
  exact ⟨rfl, rfl⟩
theorem eleF (x : Int) (x0 : 0 ≤ x) (x1 : x < 18446744073709551616) (p q : Int) (hp : x / 1099511627776 % 32 = p) (hq : x % 65536 = q) (w : World) :
    Calls Tryd.prog 66 #[.int .u64 x] w fun e w' => e = .returned (.agg #[.int .i64 p, .int .i64 q]) ∧ Below w.heap.size w w' := by
  have h1 : bits BinOp.and .u64 x 65535 = x % 65536 := and_mask 16 x x0 x1
  have h4 : bits BinOp.and .u64 (x / 1099511627776) 31 = x / 1099511627776 % 32 := and_mask 5 (x / 1099511627776) (by omega) (by omega)
  have h2 : 0 ≤ q := by omega
  have h3 : q < 65536 := by omega
  have h5 : 0 ≤ p := by omega
  have h6 : p < 32 := by omega
  rw [hq] at h1
  rw [hp] at h4
  clear hp hq
  go_enter Tryd.func66, Tryd.ntmps66
  go_wp2_with fail
  refine bodyPost_ret (v := .agg #[.int .i64 p, .int .i64 q]) (by simp [results, Tryd.results66, go_sem]) rfl ⟨rfl, ?_⟩
  exact (Below.refl _ w).alloc (Nat.le_refl _) _

/-- The number of the first of a kind. -/
def resN (k : Nat) (f : Int → Int) (L : List C8) : Int × Bool := match L.find? (fun x => decide (kindOf x = k)) with
  | none => (0, false)
  | some x => (f x.n, true)
def resP (k : Nat) (L : List C8) : Int × Int × Bool := match L.find? (fun x => decide (kindOf x = k)) with
  | none => (0, 0, false)
  | some x => (x.n / 1099511627776 % 32, x.n % 65536, true)

set_option maxHeartbeats 2000000 in
theorem firstI_any (L : List C8) (hL : L.length ≤ 1000) (hok : ∀ x ∈ L, x.ok) (k : Nat) (v : Value) (w : World) (hv : Cms w v L) (hw : GK w) :
    Calls Tryd.prog 60 #[v, .int .i64 (k : Int), .func (.func 61) #[] #[]] w fun e w' => e = .returned (.tuple #[.int .i64 (resN k (fun n => n % 65536) L).1, .bool (resN k (fun n => n % 65536) L).2]) ∧ Below w.heap.size w w' := by
  obtain ⟨A, c, rfl⟩ := hv.form
  have HV := Lib.hid hv
  have HW := Lib.hid hw
  have HO := Lib.hid hok
  clear hv hw hok
  go_enter Tryd.func60, Tryd.ntmps60
  go_wp2_with fail
  go_loopw [13] (fun i wr => ∃ n : Nat, n ≤ L.length ∧ i = .int .i64 n ∧ Below w.heap.size w wr ∧ L.find? (fun x => decide (kindOf x = k)) = (L.drop n).find? (fun x => decide (kindOf x = k))) (fun i _ => L.length - (intOf i).toNat)
  case atStart => exact ⟨0, Nat.zero_le _, rfl, Below.refl _ _, rfl⟩
  case round =>
    obtain ⟨n, hn, rfl, hb, hfd⟩ := hrel
    by_cases hlt : n < L.length
    · obtain ⟨bb, oo, rfl, hbl, hat⟩ := HV.out.at_ n hlt
      have hx := HO.out L[n] (List.getElem_mem hlt)
      have hdr : L.drop n = L[n] :: L.drop (n + 1) := by rw [List.getElem_cons_drop]
      rw [hdr] at hfd
      obtain ⟨x, hxe⟩ : ∃ x, L[n] = x := ⟨_, rfl⟩
      rw [hxe] at hat hx hfd
      have hxn := x.n_bd hx
      obtain ⟨a0, b0, c0, d0, e0, f0, g0, h0⟩ := x
      obtain ⟨y1, y2, y3, y4, y5, y6⟩ := hx
      simp only at hat y1 y2 y3 y4 y5 y6
      have hq := hat _ hb
      obtain ⟨q0, q1, q2, q3, q4, q5, q6, q7⟩ := hq
      have hlw : bb < wr.heap.size := Nat.lt_of_lt_of_le hbl hb.size
      have HB := Lib.hid hb
      have HF := Lib.hid hfd
      have HX := Lib.hid hxn
      have HA := Lib.hid hat
      have HG : Hid (GK (wr.alloc (.cells #[.int .u8 a0, .int .u8 b0, .int .u8 c0, .int .u8 d0, .int .u8 e0, .int .u8 f0, .int .u8 g0, .int .u8 h0] 24))) := Lib.hid (HW.out.keep (hb.alloc hb.size _))
      clear hb hfd hxn hxe hat hbl hdr
      go_wp2_with fail
      refine (kind_of ⟨a0, b0, c0, d0, e0, f0, g0, h0⟩ _ HG.out).mono ?_
      rintro en w2 ⟨rfl, hb2⟩
      have hb1 := (Below.refl _ wr).alloc (Nat.le_refl _) (.cells #[.int .u8 a0, .int .u8 b0, .int .u8 c0, .int .u8 d0, .int .u8 e0, .int .u8 f0, .int .u8 g0, .int .u8 h0] 24)
      have HB2 : Hid (Below w.heap.size w w2) := Lib.hid ((HB.out.alloc HB.out.size _).trans (hb2.mono (by have := HB.out.size; simp; omega)))
      have hnew := (Has.new wr 24 #[.int .u8 a0, .int .u8 b0, .int .u8 c0, .int .u8 d0, .int .u8 e0, .int .u8 f0, .int .u8 g0, .int .u8 h0]).below hb2
      have p0 := hnew.cell 0
      have p1 := hnew.cell 1
      have p2 := hnew.cell 2
      have p3 := hnew.cell 3
      have p4 := hnew.cell 4
      have p5 := hnew.cell 5
      have p6 := hnew.cell 6
      have p7 := hnew.cell 7
      simp only [List.getElem?_toArray, List.getElem?_cons_zero, List.getElem?_cons_succ] at p0 p1 p2 p3 p4 p5 p6 p7
      clear hb1 hb2 hnew HB HG
      obtain ⟨kk, hkk⟩ : ∃ kk, kindOf ⟨a0, b0, c0, d0, e0, f0, g0, h0⟩ = kk := ⟨_, rfl⟩
      rw [hkk]
      by_cases hke : kk = k
      · have hq : ((kk : Int) == (k : Int)) = true := by simp; omega
        have HR : Hid (resN k (fun n => n % 65536) L = ((fun n => n % 65536) (n6 c0 d0 e0 f0 g0 h0), true)) := Lib.hid (by
          unfold resN
          rw [HF.out, List.find?_cons_of_pos (by simp [hkk, hke])]
          rfl)
        clear hke hkk
        go_wp2_with fail
        refine (content_any a0 b0 c0 d0 e0 f0 g0 h0 y1 y2 y3 y4 y5 y6 _).mono ?_
        rintro en w3 ⟨rfl, hb3⟩
        have HB3 : Hid (Below w.heap.size w w3) := Lib.hid (HB2.out.trans (hb3.mono HB2.out.size))
        clear hb3 p0 p1 p2 p3 p4 p5 p6 p7 HB2
        have hr := HR.out
        obtain ⟨N, hN⟩ : ∃ N, n6 c0 d0 e0 f0 g0 h0 = N := ⟨_, rfl⟩
        rw [hN] at hr
        have HXN : Hid (0 ≤ N ∧ N < 281474976710656) := Lib.hid (by rw [← hN]; exact HX.out)
        have HR2 := Lib.hid hr
        rw [hN]
        clear hN hr HR
        go_wp2_with fail
        refine (encF N HXN.out.1 (by have := HXN.out.2; omega) _).mono ?_
        rintro en w4 ⟨rfl, rfl⟩
        go_wp2_with fail
        go_ret2
        exact ⟨by rw [HR2.out]; rfl, HB3.out⟩
      · have hq : ((kk : Int) == (k : Int)) = false := by simp; omega
        have HF2 : Hid (L.find? (fun x => decide (kindOf x = k)) = (L.drop (n + 1)).find? (fun x => decide (kindOf x = k))) := Lib.hid (by rw [HF.out, List.find?_cons_of_neg (by simp [hkk, hke])])
        clear hke hkk
        go_wp2_with fail
        go_roundw
        case rel => exact ⟨n + 1, by omega, by go_num, HB2.out, HF2.out⟩
        case measure => simp [intOf]; omega
    · have hne : n = L.length := by omega
      subst hne
      rw [List.drop_length] at hfd
      have HR : Hid (resN k (fun n => n % 65536) L = (0, false)) := Lib.hid (by unfold resN; rw [hfd]; rfl)
      have HB := Lib.hid hb
      clear hb hfd
      go_wp2_with fail
      go_ret2
      exact ⟨by rw [HR.out]; rfl, HB.out⟩

set_option maxHeartbeats 2000000 in
theorem firstA_any (L : List C8) (hL : L.length ≤ 1000) (hok : ∀ x ∈ L, x.ok) (k : Nat) (v : Value) (w : World) (hv : Cms w v L) (hw : GK w) :
    Calls Tryd.prog 63 #[v, .int .i64 (k : Int), .func (.func 64) #[] #[]] w fun e w' => e = .returned (.tuple #[.int .u64 (resN k (fun n => n) L).1, .bool (resN k (fun n => n) L).2]) ∧ Below w.heap.size w w' := by
  obtain ⟨A, c, rfl⟩ := hv.form
  have HV := Lib.hid hv
  have HW := Lib.hid hw
  have HO := Lib.hid hok
  clear hv hw hok
  go_enter Tryd.func63, Tryd.ntmps63
  go_wp2_with fail
  go_loopw [13] (fun i wr => ∃ n : Nat, n ≤ L.length ∧ i = .int .i64 n ∧ Below w.heap.size w wr ∧ L.find? (fun x => decide (kindOf x = k)) = (L.drop n).find? (fun x => decide (kindOf x = k))) (fun i _ => L.length - (intOf i).toNat)
  case atStart => exact ⟨0, Nat.zero_le _, rfl, Below.refl _ _, rfl⟩
  case round =>
    obtain ⟨n, hn, rfl, hb, hfd⟩ := hrel
    by_cases hlt : n < L.length
    · obtain ⟨bb, oo, rfl, hbl, hat⟩ := HV.out.at_ n hlt
      have hx := HO.out L[n] (List.getElem_mem hlt)
      have hdr : L.drop n = L[n] :: L.drop (n + 1) := by rw [List.getElem_cons_drop]
      rw [hdr] at hfd
      obtain ⟨x, hxe⟩ : ∃ x, L[n] = x := ⟨_, rfl⟩
      rw [hxe] at hat hx hfd
      have hxn := x.n_bd hx
      obtain ⟨a0, b0, c0, d0, e0, f0, g0, h0⟩ := x
      obtain ⟨y1, y2, y3, y4, y5, y6⟩ := hx
      simp only at hat y1 y2 y3 y4 y5 y6
      have hq := hat _ hb
      obtain ⟨q0, q1, q2, q3, q4, q5, q6, q7⟩ := hq
      have hlw : bb < wr.heap.size := Nat.lt_of_lt_of_le hbl hb.size
      have HB := Lib.hid hb
      have HF := Lib.hid hfd
      have HX := Lib.hid hxn
      have HA := Lib.hid hat
      have HG : Hid (GK (wr.alloc (.cells #[.int .u8 a0, .int .u8 b0, .int .u8 c0, .int .u8 d0, .int .u8 e0, .int .u8 f0, .int .u8 g0, .int .u8 h0] 24))) := Lib.hid (HW.out.keep (hb.alloc hb.size _))
      clear hb hfd hxn hxe hat hbl hdr
      go_wp2_with fail
      refine (kind_of ⟨a0, b0, c0, d0, e0, f0, g0, h0⟩ _ HG.out).mono ?_
      rintro en w2 ⟨rfl, hb2⟩
      have hb1 := (Below.refl _ wr).alloc (Nat.le_refl _) (.cells #[.int .u8 a0, .int .u8 b0, .int .u8 c0, .int .u8 d0, .int .u8 e0, .int .u8 f0, .int .u8 g0, .int .u8 h0] 24)
      have HB2 : Hid (Below w.heap.size w w2) := Lib.hid ((HB.out.alloc HB.out.size _).trans (hb2.mono (by have := HB.out.size; simp; omega)))
      have hnew := (Has.new wr 24 #[.int .u8 a0, .int .u8 b0, .int .u8 c0, .int .u8 d0, .int .u8 e0, .int .u8 f0, .int .u8 g0, .int .u8 h0]).below hb2
      have p0 := hnew.cell 0
      have p1 := hnew.cell 1
      have p2 := hnew.cell 2
      have p3 := hnew.cell 3
      have p4 := hnew.cell 4
      have p5 := hnew.cell 5
      have p6 := hnew.cell 6
      have p7 := hnew.cell 7
      simp only [List.getElem?_toArray, List.getElem?_cons_zero, List.getElem?_cons_succ] at p0 p1 p2 p3 p4 p5 p6 p7
      clear hb1 hb2 hnew HB HG
      obtain ⟨kk, hkk⟩ : ∃ kk, kindOf ⟨a0, b0, c0, d0, e0, f0, g0, h0⟩ = kk := ⟨_, rfl⟩
      rw [hkk]
      by_cases hke : kk = k
      · have hq : ((kk : Int) == (k : Int)) = true := by simp; omega
        have HR : Hid (resN k (fun n => n) L = ((fun n => n) (n6 c0 d0 e0 f0 g0 h0), true)) := Lib.hid (by
          unfold resN
          rw [HF.out, List.find?_cons_of_pos (by simp [hkk, hke])]
          rfl)
        clear hke hkk
        go_wp2_with fail
        refine (content_any a0 b0 c0 d0 e0 f0 g0 h0 y1 y2 y3 y4 y5 y6 _).mono ?_
        rintro en w3 ⟨rfl, hb3⟩
        have HB3 : Hid (Below w.heap.size w w3) := Lib.hid (HB2.out.trans (hb3.mono HB2.out.size))
        clear hb3 p0 p1 p2 p3 p4 p5 p6 p7 HB2
        have hr := HR.out
        obtain ⟨N, hN⟩ : ∃ N, n6 c0 d0 e0 f0 g0 h0 = N := ⟨_, rfl⟩
        rw [hN] at hr
        have HXN : Hid (0 ≤ N ∧ N < 281474976710656) := Lib.hid (by rw [← hN]; exact HX.out)
        have HR2 := Lib.hid hr
        rw [hN]
        clear hN hr HR
        go_wp2_with fail
        refine (macF N _).mono ?_
        rintro en w4 ⟨rfl, rfl⟩
        go_wp2_with fail
        go_ret2
        exact ⟨by rw [HR2.out]; rfl, HB3.out⟩
      · have hq : ((kk : Int) == (k : Int)) = false := by simp; omega
        have HF2 : Hid (L.find? (fun x => decide (kindOf x = k)) = (L.drop (n + 1)).find? (fun x => decide (kindOf x = k))) := Lib.hid (by rw [HF.out, List.find?_cons_of_neg (by simp [hkk, hke])])
        clear hke hkk
        go_wp2_with fail
        go_roundw
        case rel => exact ⟨n + 1, by omega, by go_num, HB2.out, HF2.out⟩
        case measure => simp [intOf]; omega
    · have hne : n = L.length := by omega
      subst hne
      rw [List.drop_length] at hfd
      have HR : Hid (resN k (fun n => n) L = (0, false)) := Lib.hid (by unfold resN; rw [hfd]; rfl)
      have HB := Lib.hid hb
      clear hb hfd
      go_wp2_with fail
      go_ret2
      exact ⟨by rw [HR.out]; rfl, HB.out⟩

set_option maxHeartbeats 2000000 in
theorem firstP_any (L : List C8) (hL : L.length ≤ 1000) (hok : ∀ x ∈ L, x.ok) (k : Nat) (v : Value) (w : World) (hv : Cms w v L) (hw : GK w) :
    Calls Tryd.prog 65 #[v, .int .i64 (k : Int), .func (.func 66) #[] #[]] w fun e w' => e = .returned (.tuple #[.agg #[.int .i64 (resP k L).1, .int .i64 (resP k L).2.1], .bool (resP k L).2.2]) ∧ Below w.heap.size w w' := by
  obtain ⟨A, c, rfl⟩ := hv.form
  have HV := Lib.hid hv
  have HW := Lib.hid hw
  have HO := Lib.hid hok
  clear hv hw hok
  have hz0 : Below w.heap.size w (w.alloc (.cells #[.int .i64 0, .int .i64 0] 86)) := (Below.refl _ w).alloc (Nat.le_refl _) _
  have HZ := Lib.hid hz0
  clear hz0
  go_enter Tryd.func65, Tryd.ntmps65
  go_wp2_with fail
  go_loopw [13] (fun i wr => ∃ n : Nat, n ≤ L.length ∧ i = .int .i64 n ∧ Has wr w.heap.size 86 #[.int .i64 0, .int .i64 0] ∧ Below w.heap.size w wr ∧ L.find? (fun x => decide (kindOf x = k)) = (L.drop n).find? (fun x => decide (kindOf x = k))) (fun i _ => L.length - (intOf i).toNat)
  case atStart => exact ⟨0, Nat.zero_le _, rfl, Has.new _ _ _, HZ.out, rfl⟩
  case round =>
    obtain ⟨n, hn, rfl, hh, hb, hfd⟩ := hrel
    by_cases hlt : n < L.length
    · obtain ⟨bb, oo, rfl, hbl, hat⟩ := HV.out.at_ n hlt
      have hx := HO.out L[n] (List.getElem_mem hlt)
      have hdr : L.drop n = L[n] :: L.drop (n + 1) := by rw [List.getElem_cons_drop]
      rw [hdr] at hfd
      obtain ⟨x, hxe⟩ : ∃ x, L[n] = x := ⟨_, rfl⟩
      rw [hxe] at hat hx hfd
      have hxn := x.n_bd hx
      obtain ⟨a0, b0, c0, d0, e0, f0, g0, h0⟩ := x
      obtain ⟨y1, y2, y3, y4, y5, y6⟩ := hx
      simp only at hat y1 y2 y3 y4 y5 y6
      have hq := hat _ hb
      obtain ⟨q0, q1, q2, q3, q4, q5, q6, q7⟩ := hq
      have hlw : bb < wr.heap.size := Nat.lt_of_lt_of_le hbl hb.size
      have hzl := hh.lt
      have HB := Lib.hid hb
      have HH := Lib.hid hh
      have HF := Lib.hid hfd
      have HX := Lib.hid hxn
      have HA := Lib.hid hat
      have HG : Hid (GK (wr.alloc (.cells #[.int .u8 a0, .int .u8 b0, .int .u8 c0, .int .u8 d0, .int .u8 e0, .int .u8 f0, .int .u8 g0, .int .u8 h0] 24))) := Lib.hid (HW.out.keep (hb.alloc hb.size _))
      clear hb hh hfd hxn hxe hat hbl hdr
      go_wp2_with fail
      refine (kind_of ⟨a0, b0, c0, d0, e0, f0, g0, h0⟩ _ HG.out).mono ?_
      rintro en w2 ⟨rfl, hb2⟩
      have hb1 := (Below.refl _ wr).alloc (Nat.le_refl _) (.cells #[.int .u8 a0, .int .u8 b0, .int .u8 c0, .int .u8 d0, .int .u8 e0, .int .u8 f0, .int .u8 g0, .int .u8 h0] 24)
      have HB2 : Hid (Below w.heap.size w w2) := Lib.hid ((HB.out.alloc HB.out.size _).trans (hb2.mono (by have := HB.out.size; simp; omega)))
      have HH2 : Hid (Has w2 w.heap.size 86 #[.int .i64 0, .int .i64 0]) := Lib.hid ((HH.out.below hb1).below hb2)
      have hnew := (Has.new wr 24 #[.int .u8 a0, .int .u8 b0, .int .u8 c0, .int .u8 d0, .int .u8 e0, .int .u8 f0, .int .u8 g0, .int .u8 h0]).below hb2
      have p0 := hnew.cell 0
      have p1 := hnew.cell 1
      have p2 := hnew.cell 2
      have p3 := hnew.cell 3
      have p4 := hnew.cell 4
      have p5 := hnew.cell 5
      have p6 := hnew.cell 6
      have p7 := hnew.cell 7
      simp only [List.getElem?_toArray, List.getElem?_cons_zero, List.getElem?_cons_succ] at p0 p1 p2 p3 p4 p5 p6 p7
      clear hb1 hb2 hnew HB HH HG
      obtain ⟨kk, hkk⟩ : ∃ kk, kindOf ⟨a0, b0, c0, d0, e0, f0, g0, h0⟩ = kk := ⟨_, rfl⟩
      rw [hkk]
      by_cases hke : kk = k
      · have hq : ((kk : Int) == (k : Int)) = true := by simp; omega
        have HR : Hid (resP k L = (n6 c0 d0 e0 f0 g0 h0 / 1099511627776 % 32, n6 c0 d0 e0 f0 g0 h0 % 65536, true)) := Lib.hid (by
          unfold resP
          rw [HF.out, List.find?_cons_of_pos (by simp [hkk, hke])]
          rfl)
        clear hke hkk
        go_wp2_with fail
        refine (content_any a0 b0 c0 d0 e0 f0 g0 h0 y1 y2 y3 y4 y5 y6 _).mono ?_
        rintro en w3 ⟨rfl, hb3⟩
        have HB3 : Hid (Below w.heap.size w w3) := Lib.hid (HB2.out.trans (hb3.mono HB2.out.size))
        have HH3 : Hid (Has w3 w.heap.size 86 #[.int .i64 0, .int .i64 0]) := Lib.hid (HH2.out.below hb3)
        clear hb3 p0 p1 p2 p3 p4 p5 p6 p7 HB2 HH2
        have hr := HR.out
        obtain ⟨N, hN⟩ : ∃ N, n6 c0 d0 e0 f0 g0 h0 = N := ⟨_, rfl⟩
        rw [hN] at hr
        have HXN : Hid (0 ≤ N ∧ N < 281474976710656) := Lib.hid (by rw [← hN]; exact HX.out)
        rw [hN]
        clear hN
        obtain ⟨y, hy⟩ : ∃ y, N % 65536 = y := ⟨_, rfl⟩
        obtain ⟨bf, hbf⟩ : ∃ bf, N / 1099511627776 % 32 = bf := ⟨_, rfl⟩
        rw [hy, hbf] at hr
        have HR2 := Lib.hid hr
        clear hr HR
        have HY := Lib.hid (And.intro hy hbf)
        clear hy hbf
        go_wp2_with fail
        refine (eleF N HXN.out.1 (by have := HXN.out.2; omega) bf y HY.out.2 HY.out.1 _).mono ?_
        rintro en w4 ⟨rfl, hb4⟩
        have hh4 := HH3.out.below hb4
        have r0 := hh4.cell 0
        have r1 := hh4.cell 1
        have z0 := hh4.free 0
        have z1 := hh4.free 1
        simp only [List.getElem?_toArray, List.getElem?_cons_zero, List.getElem?_cons_succ] at r0 r1
        have HB4 : Hid (Below w.heap.size w w4) := Lib.hid (HB3.out.trans (hb4.mono HB3.out.size))
        clear hb4 hh4 HB3 HH3
        go_wp2_with fail
        refine bodyPost_ret (v := .tuple #[.agg #[.int .i64 bf, .int .i64 y], .bool true]) (by simp [results, Tryd.results65, go_sem, *]) rfl ⟨by rw [HR2.out], ?_⟩
        exact (HB4.out.setCell (by simp) _).setCell (by simp) _
      · have hq : ((kk : Int) == (k : Int)) = false := by simp; omega
        have HF2 : Hid (L.find? (fun x => decide (kindOf x = k)) = (L.drop (n + 1)).find? (fun x => decide (kindOf x = k))) := Lib.hid (by rw [HF.out, List.find?_cons_of_neg (by simp [hkk, hke])])
        clear hke hkk
        go_wp2_with fail
        go_roundw
        case rel => exact ⟨n + 1, by omega, by go_num, HH2.out, HB2.out, HF2.out⟩
        case measure => simp [intOf]; omega
    · have hne : n = L.length := by omega
      subst hne
      rw [List.drop_length] at hfd
      have HR : Hid (resP k L = (0, 0, false)) := Lib.hid (by unfold resP; rw [hfd]; rfl)
      have hzl := hh.lt
      have r0 := hh.cell 0
      have r1 := hh.cell 1
      have z0 := hh.free 0
      have z1 := hh.free 1
      simp only [List.getElem?_toArray, List.getElem?_cons_zero, List.getElem?_cons_succ] at r0 r1
      have HB := Lib.hid hb
      clear hh hb hfd
      go_wp2_with fail
      refine bodyPost_ret (v := .tuple #[.agg #[.int .i64 0, .int .i64 0], .bool false]) (by simp [results, Tryd.results65, go_sem, *]) rfl ⟨by rw [HR.out], ?_⟩
      exact ((HB.out.setCell (by simp) _).setCell (by simp) _).alloc (by simpa [World.setCell] using HB.out.size) _

theorem encapOf_any (L : List C8) (hL : L.length ≤ 1000) (hok : ∀ x ∈ L, x.ok) (v : Value) (w : World) (hv : Cms w v L) (hw : GK w) :
    Calls Tryd.prog 30 #[v] w fun e w' => e = .returned (.tuple #[.int .i64 (resN 2 (fun n => n % 65536) L).1, .bool (resN 2 (fun n => n % 65536) L).2]) ∧ Below w.heap.size w w' := by
  obtain ⟨f1, hf1⟩ : ∃ f, (resN 2 (fun n => n % 65536) L).1 = f := ⟨_, rfl⟩
  obtain ⟨f2, hf2⟩ : ∃ f, (resN 2 (fun n => n % 65536) L).2 = f := ⟨_, rfl⟩
  have hf := firstI_any L hL hok 2 v _ hv hw
  rw [hf1, hf2] at hf
  rw [hf1, hf2]
  have HF := Lib.hid hf
  clear hf hf1 hf2 hv hw hok
  go_enter Tryd.func30, Tryd.ntmps30
  go_wp2_with fail
  refine HF.out.mono ?_
  rintro e w1 ⟨rfl, hb1⟩
  have H1 := Lib.hid hb1
  clear hb1 HF
  go_wp2_with fail
  go_ret2
  exact ⟨rfl, H1.out⟩

theorem importOf_any (L : List C8) (hL : L.length ≤ 1000) (hok : ∀ x ∈ L, x.ok) (v : Value) (w : World) (hv : Cms w v L) (hw : GK w) :
    Calls Tryd.prog 34 #[v] w fun e w' => e = .returned (.tuple #[.int .u64 (resN 5 (fun n => n) L).1, .bool (resN 5 (fun n => n) L).2]) ∧ Below w.heap.size w w' := by
  obtain ⟨f1, hf1⟩ : ∃ f, (resN 5 (fun n => n) L).1 = f := ⟨_, rfl⟩
  obtain ⟨f2, hf2⟩ : ∃ f, (resN 5 (fun n => n) L).2 = f := ⟨_, rfl⟩
  have hf := firstA_any L hL hok 5 v _ hv hw
  rw [hf1, hf2] at hf
  rw [hf1, hf2]
  have HF := Lib.hid hf
  clear hf hf1 hf2 hv hw hok
  go_enter Tryd.func34, Tryd.ntmps34
  go_wp2_with fail
  refine HF.out.mono ?_
  rintro e w1 ⟨rfl, hb1⟩
  have H1 := Lib.hid hb1
  clear hb1 HF
  go_wp2_with fail
  go_ret2
  exact ⟨rfl, H1.out⟩

theorem routerOf_any (L : List C8) (hL : L.length ≤ 1000) (hok : ∀ x ∈ L, x.ok) (v : Value) (w : World) (hv : Cms w v L) (hw : GK w) :
    Calls Tryd.prog 36 #[v] w fun e w' => e = .returned (.tuple #[.int .u64 (resN 6 (fun n => n) L).1, .bool (resN 6 (fun n => n) L).2]) ∧ Below w.heap.size w w' := by
  obtain ⟨f1, hf1⟩ : ∃ f, (resN 6 (fun n => n) L).1 = f := ⟨_, rfl⟩
  obtain ⟨f2, hf2⟩ : ∃ f, (resN 6 (fun n => n) L).2 = f := ⟨_, rfl⟩
  have hf := firstA_any L hL hok 6 v _ hv hw
  rw [hf1, hf2] at hf
  rw [hf1, hf2]
  have HF := Lib.hid hf
  clear hf hf1 hf2 hv hw hok
  go_enter Tryd.func36, Tryd.ntmps36
  go_wp2_with fail
  refine HF.out.mono ?_
  rintro e w1 ⟨rfl, hb1⟩
  have H1 := Lib.hid hb1
  clear hb1 HF
  go_wp2_with fail
  go_ret2
  exact ⟨rfl, H1.out⟩

theorem electionOf_any (L : List C8) (hL : L.length ≤ 1000) (hok : ∀ x ∈ L, x.ok) (v : Value) (w : World) (hv : Cms w v L) (hw : GK w) :
    Calls Tryd.prog 38 #[v] w fun e w' => e = .returned (.tuple #[.int .i64 (resP 7 L).1, .int .i64 (resP 7 L).2.1, .bool (resP 7 L).2.2]) ∧ Below w.heap.size w w' := by
  obtain ⟨f1, hf1⟩ : ∃ f, (resP 7 L).1 = f := ⟨_, rfl⟩
  obtain ⟨f2, hf2⟩ : ∃ f, (resP 7 L).2.1 = f := ⟨_, rfl⟩
  obtain ⟨f3, hf3⟩ : ∃ f, (resP 7 L).2.2 = f := ⟨_, rfl⟩
  have hf := firstP_any L hL hok 7 v _ hv hw
  rw [hf1, hf2, hf3] at hf
  rw [hf1, hf2, hf3]
  have HF := Lib.hid hf
  clear hf hf1 hf2 hf3 hv hw hok
  go_enter Tryd.func38, Tryd.ntmps38
  go_wp2_with fail
  refine HF.out.mono ?_
  rintro e w1 ⟨rfl, hb1⟩
  have H1 := Lib.hid hb1
  clear hb1 HF
  go_wp2_with fail
  go_quiet (fail)
  go_wp2_with fail
  refine bodyPost_ret (v := .tuple #[.int .i64 f1, .int .i64 f2, .bool f3]) (by simp [results, Tryd.results38, go_sem]) rfl ⟨rfl, ?_⟩
  have h2 := H1.out.alloc H1.out.size (.cells #[.int .i64 f1, .int .i64 f2] 86)
  exact ⟨h2.os, h2.tape, h2.output, h2.size, h2.block⟩

end Go.Proofs.YtofbgpgngplgpaaDoor
