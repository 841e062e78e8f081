/- Communities: the first of a kind, read as a number with a flag. -/
import Derived.Test.YtofbgpgngplgpaaDoorCmF
namespace Go.Proofs.YtofbgpgngplgpaaDoor
open Go.RowKit
set_option linter.unusedVariables false
set_option maxRecDepth 100000

/-- The kind of a community. -/
def kindOf (x : C8) : Nat := if x.a = 0 ∧ x.b = 2 then 1 else if x.a = 3 ∧ x.b = 12 then 2 else if x.a = 6 ∧ x.b = 0 then 3 else if x.a = 6 ∧ x.b = 1 then 4 else if x.a = 6 ∧ x.b = 2 then 5 else if x.a = 6 ∧ x.b = 3 then 6 else if x.a = 6 ∧ x.b = 6 then 7 else 0

theorem kind_of (x : C8) (w : World) (hw : GK w) : Calls Tryd.prog 18 #[x.v] w fun en w' => en = .returned (.int .i64 (kindOf x : Int)) ∧ Below w.heap.size w w' :=
  kind_any x.a x.b x.c x.d x.e x.f x.g x.h w hw (kindOf x) rfl

theorem and_mask (s : Nat) (n : Int) (h0 : 0 ≤ n) (h1 : n < 18446744073709551616) (hs : s ≤ 64 := by decide) : bits BinOp.and .u64 n (2 ^ s - 1) = n % 2 ^ s := by
  obtain ⟨m, rfl⟩ := Int.eq_ofNat_of_zero_le h0
  have hm64 : m < 2 ^ 64 := by
    have : ((m : Nat) : Int) < ((2 ^ 64 : Nat) : Int) := h1
    omega
  have hp : 0 < 2 ^ s := Nat.pow_pos (by omega)
  have e0 : ((2 : Int) ^ s - 1) = ((2 ^ s - 1 : Nat) : Int) := by
    rw [Int.natCast_sub (by omega)]
    simp
  have hq : 2 ^ s - 1 < 2 ^ 64 := by
    have := Nat.pow_le_pow_right (n := 2) (by omega) hs
    omega
  rw [e0]
  have e1 : BitVec.ofInt 64 (m : Int) = BitVec.ofNat 64 m := BitVec.ofInt_natCast _ _
  have e2 : BitVec.ofInt 64 ((2 ^ s - 1 : Nat) : Int) = BitVec.ofNat 64 (2 ^ s - 1) := BitVec.ofInt_natCast _ _
  show IntKind.u64.wrap ((BitVec.ofInt 64 (m : Int) &&& BitVec.ofInt 64 ((2 ^ s - 1 : Nat) : Int)).toNat : Int) = _
  rw [e1, e2, BitVec.toNat_and, BitVec.toNat_ofNat, BitVec.toNat_ofNat, Nat.mod_eq_of_lt hm64, Nat.mod_eq_of_lt hq, Nat.and_two_pow_sub_one_eq_mod]
  have e4 : IntKind.u64.wrap ((m % 2 ^ s : Nat) : Int) = ((m % 2 ^ s : Nat) : Int) % 18446744073709551616 := by rfl
  have hlt : m % 2 ^ s < 2 ^ 64 := Nat.lt_of_le_of_lt (Nat.mod_le _ _) hm64
  rw [e4, Int.emod_eq_of_lt (by omega) (by
    have : ((m % 2 ^ s : Nat) : Int) < ((2 ^ 64 : Nat) : Int) := by omega
    exact this)]
  simp

set_option maxHeartbeats 1000000 in
/-- What readMarked's function answers. -/
theorem marked_any (s : Nat) (mask : Int) (hmask : (2 : Int) ^ s - 1 = mask) (hs : s ≤ 32) (x : Int) (x0 : 0 ≤ x) (x1 : x < 18446744073709551616) (cb : Nat) (w : World) (hm : w.cell? ⟨cb, 0, none⟩ = some (.int .u64 mask)) (hc : cb < w.heap.size) (y : Int) (hy : x % 2 ^ s = y) (b : Bool) (hb : (x / 1099511627776 % 2 == 1) = b) :
    Calls Tryd.prog 72 #[.int .u64 x, .pointer (some ⟨cb, 0, none⟩)] w fun e w' => e = .returned (.agg #[.bool b, .int .u32 y]) ∧ Below w.heap.size w w' := by
  have h1 := and_mask s x x0 x1 (by omega)
  rw [hmask, hy] at h1
  have h2 : bits BinOp.and .u64 (x / 1099511627776) 1 = x / 1099511627776 % 2 := and_mask 1 (x / 1099511627776) (by omega) (by omega)
  have hy0 : 0 ≤ y := by rw [← hy]; exact Int.emod_nonneg _ (by have : (0 : Int) < 2 ^ s := Int.pow_pos (by omega); omega)
  have hy1 : y < 4294967296 := by
    have h3 : x % 2 ^ s < 2 ^ s := Int.emod_lt_of_pos _ (Int.pow_pos (by omega))
    have h4 : (2 : Nat) ^ s ≤ 2 ^ 32 := Nat.pow_le_pow_right (by omega) hs
    have h5 : ((2 : Int) ^ s) = ((2 ^ s : Nat) : Int) := by simp
    rw [hy, h5] at h3
    omega
  clear hy hmask
  go_enter Tryd.func72, Tryd.ntmps72
  go_wp2_with fail
  refine bodyPost_ret (v := .agg #[.bool b, .int .u32 y]) (by simp [results, Tryd.results72, go_sem]) rfl ⟨rfl, ?_⟩
  exact (Below.refl _ w).alloc (Nat.le_refl _) _

theorem readMarked_any (mask : Int) (w : World) :
    Calls Tryd.prog 52 #[.int .u64 mask] w fun e w' => e = .returned (.func (.func 72) #[] #[.pointer (some ⟨w.heap.size, 0, none⟩)]) ∧ w.alloc (.cells #[.int .u64 mask] 31) = w' := by
  go_enter Tryd.func52, Tryd.ntmps52
  go_wp2_with fail
  go_ret
  exact ⟨rfl, rfl⟩

/-- The first of a kind: its flag, its number in the bits of a mask. -/
def resM (k s : Nat) (L : List C8) : Bool × Int × Bool := match L.find? (fun x => decide (kindOf x = k)) with
  | none => (false, 0, false)
  | some x => (x.n / 1099511627776 % 2 == 1, x.n % 2 ^ s, true)

set_option maxHeartbeats 2000000 in
theorem firstM_any (L : List C8) (hL : L.length ≤ 1000) (hok : ∀ x ∈ L, x.ok) (k s : Nat) (mask : Int) (hmask : (2 : Int) ^ s - 1 = mask) (hs : s ≤ 32) (v : Value) (w : World) (hv : Cms w v L) (hw : GK w) (cb : Nat) (hm : w.cell? ⟨cb, 0, none⟩ = some (.int .u64 mask)) (hcb : cb < w.heap.size) :
    Calls Tryd.prog 51 #[v, .int .i64 (k : Int), .func (.func 72) #[] #[.pointer (some ⟨cb, 0, none⟩)]] w fun e w' => e = .returned (.tuple #[.agg #[.bool (resM k s L).1, .int .u32 (resM k s L).2.1], .bool (resM k s L).2.2]) ∧ Below w.heap.size w w' := by
  obtain ⟨A, c, rfl⟩ := hv.form
  have HV := Lib.hid hv
  have HW := Lib.hid hw
  have HO := Lib.hid hok
  have HM := Lib.hid (And.intro hm hcb)
  have HMK := Lib.hid hmask
  clear hv hw hok hm hcb hmask
  have hz0 : Below w.heap.size w (w.alloc (.cells #[.bool false, .int .u32 0] 66)) := (Below.refl _ w).alloc (Nat.le_refl _) _
  have HZ := Lib.hid hz0
  clear hz0
  go_enter Tryd.func51, Tryd.ntmps51
  go_wp2_with fail
  go_loopw [13] (fun i wr => ∃ n : Nat, n ≤ L.length ∧ i = .int .i64 n ∧ Has wr w.heap.size 66 #[.bool false, .int .u32 0] ∧ Below w.heap.size w wr ∧ L.find? (fun x => decide (kindOf x = k)) = (L.drop n).find? (fun x => decide (kindOf x = k))) (fun i _ => L.length - (intOf i).toNat)
  case atStart => exact ⟨0, Nat.zero_le _, rfl, Has.new _ _ _, HZ.out, rfl⟩
  case round =>
    obtain ⟨n, hn, rfl, hh, hb, hfd⟩ := hrel
    by_cases hlt : n < L.length
    · obtain ⟨bb, oo, rfl, hbl, hat⟩ := HV.out.at_ n hlt
      have hx := HO.out L[n] (List.getElem_mem hlt)
      have hdr : L.drop n = L[n] :: L.drop (n + 1) := by rw [List.getElem_cons_drop]
      rw [hdr] at hfd
      obtain ⟨x, hxe⟩ : ∃ x, L[n] = x := ⟨_, rfl⟩
      rw [hxe] at hat hx hfd
      have hxn := x.n_bd hx
      obtain ⟨a0, b0, c0, d0, e0, f0, g0, h0⟩ := x
      obtain ⟨y1, y2, y3, y4, y5, y6⟩ := hx
      simp only at hat y1 y2 y3 y4 y5 y6
      have hq := hat _ hb
      obtain ⟨q0, q1, q2, q3, q4, q5, q6, q7⟩ := hq
      have hlw : bb < wr.heap.size := Nat.lt_of_lt_of_le hbl hb.size
      have hzl := hh.lt
      have HB := Lib.hid hb
      have HH := Lib.hid hh
      have HF := Lib.hid hfd
      have HX := Lib.hid hxn
      have HA := Lib.hid hat
      have HG : Hid (GK (wr.alloc (.cells #[.int .u8 a0, .int .u8 b0, .int .u8 c0, .int .u8 d0, .int .u8 e0, .int .u8 f0, .int .u8 g0, .int .u8 h0] 24))) := Lib.hid (HW.out.keep (hb.alloc hb.size _))
      clear hb hh hfd hxn hxe hat hbl hdr
      go_wp2_with fail
      refine (kind_of ⟨a0, b0, c0, d0, e0, f0, g0, h0⟩ _ HG.out).mono ?_
      rintro en w2 ⟨rfl, hb2⟩
      have hb1 := (Below.refl _ wr).alloc (Nat.le_refl _) (.cells #[.int .u8 a0, .int .u8 b0, .int .u8 c0, .int .u8 d0, .int .u8 e0, .int .u8 f0, .int .u8 g0, .int .u8 h0] 24)
      have HB2 : Hid (Below w.heap.size w w2) := Lib.hid ((HB.out.alloc HB.out.size _).trans (hb2.mono (by have := HB.out.size; simp; omega)))
      have HH2 : Hid (Has w2 w.heap.size 66 #[.bool false, .int .u32 0]) := Lib.hid ((HH.out.below hb1).below hb2)
      have hnew := (Has.new wr 24 #[.int .u8 a0, .int .u8 b0, .int .u8 c0, .int .u8 d0, .int .u8 e0, .int .u8 f0, .int .u8 g0, .int .u8 h0]).below hb2
      have p0 := hnew.cell 0
      have p1 := hnew.cell 1
      have p2 := hnew.cell 2
      have p3 := hnew.cell 3
      have p4 := hnew.cell 4
      have p5 := hnew.cell 5
      have p6 := hnew.cell 6
      have p7 := hnew.cell 7
      simp only [List.getElem?_toArray, List.getElem?_cons_zero, List.getElem?_cons_succ] at p0 p1 p2 p3 p4 p5 p6 p7
      clear hb1 hb2 hnew HB HH HG
      obtain ⟨kk, hkk⟩ : ∃ kk, kindOf ⟨a0, b0, c0, d0, e0, f0, g0, h0⟩ = kk := ⟨_, rfl⟩
      rw [hkk]
      by_cases hke : kk = k
      · have hq : ((kk : Int) == (k : Int)) = true := by simp; omega
        have HR : Hid (resM k s L = (n6 c0 d0 e0 f0 g0 h0 / 1099511627776 % 2 == 1, n6 c0 d0 e0 f0 g0 h0 % 2 ^ s, true)) := Lib.hid (by
          unfold resM
          rw [HF.out, List.find?_cons_of_pos (by simp [hkk, hke])]
          rfl)
        clear hke hkk
        go_wp2_with fail
        refine (content_any a0 b0 c0 d0 e0 f0 g0 h0 y1 y2 y3 y4 y5 y6 _).mono ?_
        rintro en w3 ⟨rfl, hb3⟩
        have HB3 : Hid (Below w.heap.size w w3) := Lib.hid (HB2.out.trans (hb3.mono HB2.out.size))
        have HH3 : Hid (Has w3 w.heap.size 66 #[.bool false, .int .u32 0]) := Lib.hid (HH2.out.below hb3)
        clear hb3 p0 p1 p2 p3 p4 p5 p6 p7 HB2 HH2
        have hr := HR.out
        obtain ⟨N, hN⟩ : ∃ N, n6 c0 d0 e0 f0 g0 h0 = N := ⟨_, rfl⟩
        rw [hN] at hr
        have HXN : Hid (0 ≤ N ∧ N < 281474976710656) := Lib.hid (by rw [← hN]; exact HX.out)
        rw [hN]
        clear hN
        obtain ⟨y, hy⟩ : ∃ y, N % 2 ^ s = y := ⟨_, rfl⟩
        obtain ⟨bf, hbf⟩ : ∃ bf, (N / 1099511627776 % 2 == 1) = bf := ⟨_, rfl⟩
        rw [hy, hbf] at hr
        have HR2 := Lib.hid hr
        clear hr HR
        have HY := Lib.hid (And.intro hy hbf)
        clear hy hbf
        go_wp2_with fail
        refine (marked_any s mask HMK.out hs N HXN.out.1 (by have := HXN.out.2; omega) cb _ ((HB3.out.cell (p := ⟨cb, 0, none⟩) HM.out.2).trans HM.out.1) (Nat.lt_of_lt_of_le HM.out.2 HB3.out.size) y HY.out.1 bf HY.out.2).mono ?_
        rintro en w4 ⟨rfl, hb4⟩
        have hh4 := HH3.out.below hb4
        have r0 := hh4.cell 0
        have r1 := hh4.cell 1
        have z0 := hh4.free 0
        have z1 := hh4.free 1
        simp only [List.getElem?_toArray, List.getElem?_cons_zero, List.getElem?_cons_succ] at r0 r1
        have HB4 : Hid (Below w.heap.size w w4) := Lib.hid (HB3.out.trans (hb4.mono HB3.out.size))
        clear hb4 hh4 HB3 HH3
        go_wp2_with fail
        refine bodyPost_ret (v := .tuple #[.agg #[.bool bf, .int .u32 y], .bool true]) (by simp [results, Tryd.results51, go_sem, *]) rfl ⟨by rw [HR2.out], ?_⟩
        exact (HB4.out.setCell (by simp) _).setCell (by simp) _
      · have hq : ((kk : Int) == (k : Int)) = false := by simp; omega
        have HF2 : Hid (L.find? (fun x => decide (kindOf x = k)) = (L.drop (n + 1)).find? (fun x => decide (kindOf x = k))) := Lib.hid (by rw [HF.out, List.find?_cons_of_neg (by simp [hkk, hke])])
        clear hke hkk
        go_wp2_with fail
        go_roundw
        case rel => exact ⟨n + 1, by omega, by go_num, HH2.out, HB2.out, HF2.out⟩
        case measure => simp [intOf]; omega
    · have hne : n = L.length := by omega
      subst hne
      rw [List.drop_length] at hfd
      have HR : Hid (resM k s L = (false, 0, false)) := Lib.hid (by unfold resM; rw [hfd]; rfl)
      have hzl := hh.lt
      have r0 := hh.cell 0
      have r1 := hh.cell 1
      have z0 := hh.free 0
      have z1 := hh.free 1
      simp only [List.getElem?_toArray, List.getElem?_cons_zero, List.getElem?_cons_succ] at r0 r1
      have HB := Lib.hid hb
      clear hh hb hfd
      go_wp2_with fail
      refine bodyPost_ret (v := .tuple #[.agg #[.bool false, .int .u32 0], .bool false]) (by simp [results, Tryd.results51, go_sem, *]) rfl ⟨by rw [HR.out], ?_⟩
      exact ((HB.out.setCell (by simp) _).setCell (by simp) _).alloc (by simpa [World.setCell] using HB.out.size) _

end Go.Proofs.YtofbgpgngplgpaaDoor
