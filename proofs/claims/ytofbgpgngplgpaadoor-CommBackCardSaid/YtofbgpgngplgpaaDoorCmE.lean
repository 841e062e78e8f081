/- Communities: contents; the numbers of the fabric's targets in any list, but for the sort behind. -/
import Derived.Test.YtofbgpgngplgpaaDoorCmD
namespace Go.Proofs.YtofbgpgngplgpaaDoor
open Go.RowKit
set_option linter.unusedVariables false
set_option linter.unusedSimpArgs false
set_option maxRecDepth 100000

/-- A community: its eight bytes. -/
structure C8 where
  a : Int
  b : Int
  c : Int
  d : Int
  e : Int
  f : Int
  g : Int
  h : Int

abbrev C8.v (x : C8) : Value := cm x.a x.b x.c x.d x.e x.f x.g x.h
def C8.ok (x : C8) : Prop := (0 ≤ x.c ∧ x.c ≤ 255) ∧ (0 ≤ x.d ∧ x.d ≤ 255) ∧ (0 ≤ x.e ∧ x.e ≤ 255) ∧ (0 ≤ x.f ∧ x.f ≤ 255) ∧ (0 ≤ x.g ∧ x.g ≤ 255) ∧ (0 ≤ x.h ∧ x.h ≤ 255)
/-- The number in its last six bytes. -/
def n6 (c d e f g h : Int) : Int := ((((c * 256 + d) * 256 + e) * 256 + f) * 256 + g) * 256 + h
def C8.n (x : C8) : Int := n6 x.c x.d x.e x.f x.g x.h
/-- The number when j of the bytes are read. -/
def nj (c d e f g h : Int) : Nat → Int
  | 0 => 0
  | 1 => c
  | 2 => c * 256 + d
  | 3 => (c * 256 + d) * 256 + e
  | 4 => ((c * 256 + d) * 256 + e) * 256 + f
  | 5 => (((c * 256 + d) * 256 + e) * 256 + f) * 256 + g
  | _ => n6 c d e f g h

theorem C8.n_bd (x : C8) (hx : x.ok) : 0 ≤ x.n ∧ x.n < 281474976710656 := by
  obtain ⟨h1, h2, h3, h4, h5, h6⟩ := hx
  unfold C8.n n6
  omega

set_option maxHeartbeats 1000000 in
theorem content_any (a b c d e f g h : Int) (hc : 0 ≤ c ∧ c ≤ 255) (hd : 0 ≤ d ∧ d ≤ 255) (he : 0 ≤ e ∧ e ≤ 255) (hf : 0 ≤ f ∧ f ≤ 255) (hg : 0 ≤ g ∧ g ≤ 255) (hh : 0 ≤ h ∧ h ≤ 255) (w : World) :
    Calls Tryd.prog 67 #[cm a b c d e f g h] w fun en w' => en = .returned (.int .u64 (n6 c d e f g h)) ∧ Below w.heap.size w w' := by
  obtain ⟨hc0, hc1⟩ := hc
  obtain ⟨hd0, hd1⟩ := hd
  obtain ⟨he0, he1⟩ := he
  obtain ⟨hf0, hf1⟩ := hf
  obtain ⟨hg0, hg1⟩ := hg
  obtain ⟨hh0, hh1⟩ := hh
  go_enter Tryd.func67, Tryd.ntmps67
  go_wp2_with fail
  go_loop [3, 8] (fun x i => ∃ j : Nat, j ≤ 6 ∧ i = .int .i64 j ∧ x = .int .u64 (nj c d e f g h j)) (fun _ i => 6 - (intOf i).toNat)
  case atStart => exact ⟨0, by omega, rfl, rfl⟩
  case round =>
    obtain ⟨j, hj, rfl, rfl⟩ := hrel
    have hj7 : j = 0 ∨ j = 1 ∨ j = 2 ∨ j = 3 ∨ j = 4 ∨ j = 5 ∨ j = 6 := by omega
    clear hj
    rcases hj7 with rfl | rfl | rfl | rfl | rfl | rfl | rfl
    · obtain ⟨n, hn⟩ : ∃ n, nj c d e f g h 0 = n := ⟨_, rfl⟩
      have hn0 : 0 ≤ n := by rw [← hn]; simp only [nj]; omega
      have hn1 : n < 72057594037927936 := by rw [← hn]; simp only [nj]; omega
      have hor := or_shift 8 n c hn0 (by omega) hc0 (by omega)
      simp only [show (2 : Int) ^ 8 = 256 from rfl] at hor
      have HS : Hid (nj c d e f g h 1 = n * 256 + c) := Lib.hid (by rw [← hn]; simp only [nj, n6]; try omega)
      rw [hn]
      clear hn
      go_wp2_with fail
      go_round
      case rel => exact ⟨1, by omega, by go_num, by rw [HS.out]⟩
      case measure => simp [intOf]
    · obtain ⟨n, hn⟩ : ∃ n, nj c d e f g h 1 = n := ⟨_, rfl⟩
      have hn0 : 0 ≤ n := by rw [← hn]; simp only [nj]; omega
      have hn1 : n < 72057594037927936 := by rw [← hn]; simp only [nj]; omega
      have hor := or_shift 8 n d hn0 (by omega) hd0 (by omega)
      simp only [show (2 : Int) ^ 8 = 256 from rfl] at hor
      have HS : Hid (nj c d e f g h 2 = n * 256 + d) := Lib.hid (by rw [← hn]; simp only [nj, n6]; try omega)
      rw [hn]
      clear hn
      go_wp2_with fail
      go_round
      case rel => exact ⟨2, by omega, by go_num, by rw [HS.out]⟩
      case measure => simp [intOf]
    · obtain ⟨n, hn⟩ : ∃ n, nj c d e f g h 2 = n := ⟨_, rfl⟩
      have hn0 : 0 ≤ n := by rw [← hn]; simp only [nj]; omega
      have hn1 : n < 72057594037927936 := by rw [← hn]; simp only [nj]; omega
      have hor := or_shift 8 n e hn0 (by omega) he0 (by omega)
      simp only [show (2 : Int) ^ 8 = 256 from rfl] at hor
      have HS : Hid (nj c d e f g h 3 = n * 256 + e) := Lib.hid (by rw [← hn]; simp only [nj, n6]; try omega)
      rw [hn]
      clear hn
      go_wp2_with fail
      go_round
      case rel => exact ⟨3, by omega, by go_num, by rw [HS.out]⟩
      case measure => simp [intOf]
    · obtain ⟨n, hn⟩ : ∃ n, nj c d e f g h 3 = n := ⟨_, rfl⟩
      have hn0 : 0 ≤ n := by rw [← hn]; simp only [nj]; omega
      have hn1 : n < 72057594037927936 := by rw [← hn]; simp only [nj]; omega
      have hor := or_shift 8 n f hn0 (by omega) hf0 (by omega)
      simp only [show (2 : Int) ^ 8 = 256 from rfl] at hor
      have HS : Hid (nj c d e f g h 4 = n * 256 + f) := Lib.hid (by rw [← hn]; simp only [nj, n6]; try omega)
      rw [hn]
      clear hn
      go_wp2_with fail
      go_round
      case rel => exact ⟨4, by omega, by go_num, by rw [HS.out]⟩
      case measure => simp [intOf]
    · obtain ⟨n, hn⟩ : ∃ n, nj c d e f g h 4 = n := ⟨_, rfl⟩
      have hn0 : 0 ≤ n := by rw [← hn]; simp only [nj]; omega
      have hn1 : n < 72057594037927936 := by rw [← hn]; simp only [nj]; omega
      have hor := or_shift 8 n g hn0 (by omega) hg0 (by omega)
      simp only [show (2 : Int) ^ 8 = 256 from rfl] at hor
      have HS : Hid (nj c d e f g h 5 = n * 256 + g) := Lib.hid (by rw [← hn]; simp only [nj, n6]; try omega)
      rw [hn]
      clear hn
      go_wp2_with fail
      go_round
      case rel => exact ⟨5, by omega, by go_num, by rw [HS.out]⟩
      case measure => simp [intOf]
    · obtain ⟨n, hn⟩ : ∃ n, nj c d e f g h 5 = n := ⟨_, rfl⟩
      have hn0 : 0 ≤ n := by rw [← hn]; simp only [nj]; omega
      have hn1 : n < 72057594037927936 := by rw [← hn]; simp only [nj]; omega
      have hor := or_shift 8 n h hn0 (by omega) hh0 (by omega)
      simp only [show (2 : Int) ^ 8 = 256 from rfl] at hor
      have HS : Hid (nj c d e f g h 6 = n * 256 + h) := Lib.hid (by rw [← hn]; simp only [nj, n6]; try omega)
      rw [hn]
      clear hn
      go_wp2_with fail
      go_round
      case rel => exact ⟨6, by omega, by go_num, by rw [HS.out]⟩
      case measure => simp [intOf]
    · go_wp2_with fail
      go_ret
      exact ⟨rfl, (Below.refl _ w).alloc (Nat.le_refl _) _⟩

theorem keep_cell {w w' : World} (hb : Below w.heap.size w w') {b o : Nat} {u : Value} (hl : b < w.heap.size) (h : w.cell? ⟨b, o, none⟩ = some u) : w'.cell? ⟨b, o, none⟩ = some u := (hb.cell (p := ⟨b, o, none⟩) hl).trans h

/-- A slice of communities. -/
def Cms (w : World) (v : Value) (L : List C8) : Prop := (v = .slice none 0 0 ∧ L = []) ∨ ∃ b o c, v = .slice (some ⟨b, o, none⟩) L.length c ∧ ∀ i (hi : i < L.length),
  w.cell? ⟨b, o + i * 8, none⟩ = some (.int .u8 L[i].a) ∧ w.cell? ⟨b, o + i * 8 + 1, none⟩ = some (.int .u8 L[i].b) ∧ w.cell? ⟨b, o + i * 8 + 2, none⟩ = some (.int .u8 L[i].c) ∧ w.cell? ⟨b, o + i * 8 + 3, none⟩ = some (.int .u8 L[i].d) ∧ w.cell? ⟨b, o + i * 8 + 4, none⟩ = some (.int .u8 L[i].e) ∧ w.cell? ⟨b, o + i * 8 + 5, none⟩ = some (.int .u8 L[i].f) ∧ w.cell? ⟨b, o + i * 8 + 6, none⟩ = some (.int .u8 L[i].g) ∧ w.cell? ⟨b, o + i * 8 + 7, none⟩ = some (.int .u8 L[i].h)

theorem Cms.form {w : World} {v : Value} {L : List C8} (h : Cms w v L) : ∃ A c, v = .slice A L.length c := by
  rcases h with ⟨rfl, rfl⟩ | ⟨b, o, c, h, _⟩
  · exact ⟨none, 0, rfl⟩
  · exact ⟨_, c, h⟩
/-- The i-th of them, in a later world. -/
theorem Cms.at_ {w : World} {A : Option Addr} {n c : Nat} {L : List C8} (h : Cms w (.slice A n c) L) (i : Nat) (hi : i < L.length) : ∃ b o, A = some ⟨b, o, none⟩ ∧ b < w.heap.size ∧ ∀ w', Below w.heap.size w w' →
    w'.cell? ⟨b, o + i * 8, none⟩ = some (.int .u8 L[i].a) ∧ w'.cell? ⟨b, o + i * 8 + 1, none⟩ = some (.int .u8 L[i].b) ∧ w'.cell? ⟨b, o + i * 8 + 2, none⟩ = some (.int .u8 L[i].c) ∧ w'.cell? ⟨b, o + i * 8 + 3, none⟩ = some (.int .u8 L[i].d) ∧ w'.cell? ⟨b, o + i * 8 + 4, none⟩ = some (.int .u8 L[i].e) ∧ w'.cell? ⟨b, o + i * 8 + 5, none⟩ = some (.int .u8 L[i].f) ∧ w'.cell? ⟨b, o + i * 8 + 6, none⟩ = some (.int .u8 L[i].g) ∧ w'.cell? ⟨b, o + i * 8 + 7, none⟩ = some (.int .u8 L[i].h) := by
  rcases h with ⟨_, rfl⟩ | ⟨b, o, c', h1, h2⟩
  · simp at hi
  · injection h1 with h1 _ _
    obtain ⟨d0, d1, d2, d3, d4, d5, d6, d7⟩ := h2 i hi
    have hl := World.block_lt_of_cell? w _ d0
    refine ⟨b, o, h1, hl, fun w' hb => ?_⟩
    exact ⟨keep_cell hb hl d0, keep_cell hb hl d1, keep_cell hb hl d2, keep_cell hb hl d3, keep_cell hb hl d4, keep_cell hb hl d5, keep_cell hb hl d6, keep_cell hb hl d7⟩
theorem Cms.below {w w' : World} {v : Value} {L : List C8} (h : Cms w v L) (hb : Below w.heap.size w w') : Cms w' v L := by
  rcases h with h0 | ⟨b, o, c', h1, h2⟩
  · exact .inl h0
  · refine .inr ⟨b, o, c', h1, fun i hi => ?_⟩
    obtain ⟨d0, d1, d2, d3, d4, d5, d6, d7⟩ := h2 i hi
    have hl := World.block_lt_of_cell? w _ d0
    exact ⟨keep_cell hb hl d0, keep_cell hb hl d1, keep_cell hb hl d2, keep_cell hb hl d3, keep_cell hb hl d4, keep_cell hb hl d5, keep_cell hb hl d6, keep_cell hb hl d7⟩

/-- The number of a target of the fabric. -/
def tgt (x : C8) : Option Int := if (x.a = 0 ∧ x.b = 2) ∧ x.n / 4294967296 = 65000 then some (x.n % 4294967296) else none
def tgts (L : List C8) : List Int := L.filterMap tgt
theorem tgts_snoc (L : List C8) (i : Nat) (hi : i < L.length) : tgts (L.take (i + 1)) = tgts (L.take i) ++ (tgt L[i]).toList := by
  rw [List.take_succ_eq_append_getElem hi]
  unfold tgts
  rw [List.filterMap_append]
  cases h : tgt L[i] <;> simp [h]

/-- A slice that reads as these numbers. -/
def ArrU (w : World) (v : Value) (xs : List Int) : Prop := (v = .slice none 0 0 ∧ xs = []) ∨ ∃ b c, v = .slice (some ⟨b, 0, none⟩) xs.length c ∧ ∀ i (hi : i < xs.length), w.cell? ⟨b, i, none⟩ = some (.int .u32 xs[i])

theorem info_u32 : (Tryd.prog.info? 28).map (fun i => (i.zero, i.size, i.bytes)) = some (some (.int .u32 0), 1, 4) := by kernel_rfl

theorem own_rowU {w : World} {base n : Nat} {v : Value} {bs : List Int} (h : w.ownsRow base 28 1 v n (bs.map (Value.int .u32))) (hl : bs.length = n) (hn : 0 < n) : ∃ g cap, v = .slice (some ⟨g, 0, none⟩) n cap ∧ base ≤ g ∧ RowU w g cap bs := by
  rcases h.2 with ⟨h1, h0⟩ | ⟨g, cap, cur, h1, h2, h3, h4, h5, h6, h7⟩
  · omega
  · exact ⟨g, cap, h1, h2, cur, h3, by simpa using h6, by rw [hl]; simpa using h7, by omega, h5⟩

theorem ins0 (w : World) :
    Calls Tryd.prog 87 #[.slice none 0 0, .int .i64 0, .int .i64 0] w fun e w' => e = .returned (.tuple #[]) ∧ w = w' := by
  go_enter Tryd.func87, Tryd.ntmps87
  go_wp2_with fail
  go_loop [6] (fun i => i = .int .i64 1) (fun i => 0)
  case atStart => rfl
  case round =>
    subst hrel
    go_wp2_with fail
    go_end0
    exact ⟨rfl, rfl⟩
theorem len64_0 (w : World) : Calls Tryd.prog 86 #[.int .u64 0] w fun e w' => e = .returned (.int .i64 0) ∧ w = w' := by
  go_enter Tryd.func86, Tryd.ntmps86
  go_wp2_with fail
  go_ret
  exact ⟨by kernel_rfl, rfl⟩
theorem len_0 (w : World) : Calls Tryd.prog 74 #[.int .u64 0] w fun e w' => e = .returned (.int .i64 0) ∧ w = w' := by
  go_enter Tryd.func74, Tryd.ntmps74
  go_wp2_with (go_at_call 86; refine (len64_0 _).mono ?_; rintro e w' ⟨rfl, rfl⟩)
  go_ret
  exact ⟨rfl, rfl⟩
theorem pdq0 (w : World) :
    Calls Tryd.prog 76 #[.slice none 0 0, .int .i64 0, .int .i64 0, .int .i64 0] w fun e w' => e = .returned (.tuple #[]) ∧ w = w' := by
  go_enter Tryd.func76, Tryd.ntmps76
  go_wp2_with fail
  go_loopw [1, 2, 3, 8, 9] (fun a b l p q wr => a = .int .i64 0 ∧ b = .int .i64 0 ∧ l = .int .i64 0 ∧ p = .bool true ∧ q = .bool true ∧ w = wr) (fun _ _ _ _ _ _ => 0)
  case atStart => exact ⟨rfl, rfl, rfl, rfl, rfl, rfl⟩
  case round =>
    obtain ⟨rfl, rfl, rfl, rfl, rfl, rfl⟩ := hrel
    go_wp2_with fail
    refine (ins0 _).mono ?_
    rintro e w1 ⟨rfl, rfl⟩
    go_wp2_with fail
    exact bodyPost_ret (v := .tuple #[]) (by simp [results, Tryd.results76, go_sem]) rfl ⟨rfl, rfl⟩
theorem sort0 (w : World) :
    Calls Tryd.prog 68 #[.slice none 0 0] w fun e w' => e = .returned (.tuple #[]) ∧ w = w' := by
  go_enter Tryd.func68, Tryd.ntmps68
  go_wp2_with (first | (go_at_call 74; refine (len_0 _).mono ?_; rintro e w' ⟨rfl, rfl⟩) | (go_at_call 76; refine (pdq0 _).mono ?_; rintro e w' ⟨rfl, rfl⟩))
  go_end0
  exact ⟨rfl, rfl⟩

/-- What the loop has collected. -/
structure TI (w : World) (xs : List Int) (v : Value) (W : World) : Prop where
  own : W.ownsRow w.heap.size 28 1 v xs.length (xs.map (Value.int .u32))
  bel : Below w.heap.size w W
  nil : xs = [] → v = .slice none 0 0

theorem TI.below {w W W' : World} {xs : List Int} {v : Value} (H : TI w xs v W) (hb : Below W.heap.size W W') : TI w xs v W' := by
  refine ⟨⟨H.own.1, ?_⟩, H.bel.trans (hb.mono H.bel.size), H.nil⟩
  rcases H.own.2 with h0 | ⟨g, cap, cur, hv, hb', hg, r⟩
  · exact .inl h0
  · subst hv
    have hh : Has W g 28 cur := hg
    exact .inr ⟨g, cap, cur, rfl, hb', hh.below hb, r⟩

set_option maxHeartbeats 2000000 in
theorem targets_any (L : List C8) (hL : L.length ≤ 1000) (hok : ∀ x ∈ L, x.ok) (v : Value) (w : World) (hv : Cms w v L) (hw : GK w) (S R : List Int) (hS : S.length = (tgts L).length)
    (hR0 : tgts L = [] → R = [])
    (hsrt : ∀ h cap W, RowU W h cap (tgts L) → Calls Tryd.prog 68 #[.slice (some ⟨h, 0, none⟩) (tgts L).length cap] W fun e W' => e = .returned (.tuple #[]) ∧ RowU W' h cap S ∧ Only W h W')
    (hcmp : ∀ h cap W, RowU W h cap S → Calls Tryd.prog 69 #[.slice (some ⟨h, 0, none⟩) (tgts L).length cap] W fun e W' => ∃ v', e = .returned v' ∧ ArrU W' v' R ∧ Only W h W') :
    Calls Tryd.prog 41 #[v] w fun e w' => ∃ v', e = .returned v' ∧ ArrU w' v' R ∧ Below w.heap.size w w' := by
  obtain ⟨A, c, rfl⟩ := hv.form
  have HV := Lib.hid hv
  have HW := Lib.hid hw
  have HO := Lib.hid hok
  have HSR := Lib.hid hsrt
  have HCM := Lib.hid hcmp
  have HR0 := Lib.hid hR0
  have HS := Lib.hid hS
  clear hv hw hok hsrt hcmp hR0 hS
  obtain ⟨i0, hi0, hz0, hz1, hz2⟩ := info_parts info_u32
  go_enter Tryd.func41, Tryd.ntmps41
  go_wp2_with fail
  go_loopw [3, 9] (fun v3 i wr => ∃ k : Nat, k ≤ L.length ∧ i = .int .i64 k ∧ TI w (tgts (L.take k)) v3 wr) (fun _ i _ => L.length - (intOf i).toNat)
  case atStart => exact ⟨0, Nat.zero_le _, rfl, ⟨⟨rfl, .inl ⟨rfl, rfl⟩⟩, Below.refl _ _, fun _ => rfl⟩⟩
  case round =>
    obtain ⟨k, hk, rfl, hti⟩ := hrel
    by_cases hlt : k < L.length
    · obtain ⟨b, o, rfl, hbl, hat⟩ := HV.out.at_ k hlt
      have hx := HO.out L[k] (List.getElem_mem hlt)
      have hsn := tgts_snoc L k hlt
      obtain ⟨x, hxe⟩ : ∃ x, L[k] = x := ⟨_, rfl⟩
      rw [hxe] at hat hx hsn
      have hxn := x.n_bd hx
      obtain ⟨a0, b0, c0, d0, e0, f0, g0, h0⟩ := x
      obtain ⟨y1, y2, y3, y4, y5, y6⟩ := hx
      simp only at hat y1 y2 y3 y4 y5 y6
      have hq := hat _ hti.bel
      obtain ⟨q0, q1, q2, q3, q4, q5, q6, q7⟩ := hq
      have hlw : b < wr.heap.size := Nat.lt_of_lt_of_le hbl hti.bel.size
      have HT := Lib.hid hti
      have HN := Lib.hid hsn
      have HX : Hid ((0 ≤ n6 c0 d0 e0 f0 g0 h0 ∧ n6 c0 d0 e0 f0 g0 h0 < 281474976710656)) := Lib.hid hxn
      have HA := Lib.hid hat
      have HGw : Hid (GK (wr.alloc (.cells #[.int .u8 a0, .int .u8 b0, .int .u8 c0, .int .u8 d0, .int .u8 e0, .int .u8 f0, .int .u8 g0, .int .u8 h0] 24))) := Lib.hid (HW.out.keep (hti.bel.alloc hti.bel.size _))
      clear hti hsn hxn hxe hat hbl
      go_wp2_with fail
      refine (content_any a0 b0 c0 d0 e0 f0 g0 h0 y1 y2 y3 y4 y5 y6 _).mono ?_
      rintro en w2 ⟨rfl, hb2⟩
      have hnew := (Has.new wr 24 #[.int .u8 a0, .int .u8 b0, .int .u8 c0, .int .u8 d0, .int .u8 e0, .int .u8 f0, .int .u8 g0, .int .u8 h0]).below hb2
      have p0 := hnew.cell 0
      have p1 := hnew.cell 1
      have p2 := hnew.cell 2
      have p3 := hnew.cell 3
      have p4 := hnew.cell 4
      have p5 := hnew.cell 5
      have p6 := hnew.cell 6
      have p7 := hnew.cell 7
      simp only [List.getElem?_toArray, List.getElem?_cons_zero, List.getElem?_cons_succ] at p0 p1 p2 p3 p4 p5 p6 p7
      have HT2 : Hid (TI w (tgts (L.take k)) u3 w2) := Lib.hid ((HT.out.below ((Below.refl _ wr).alloc (Nat.le_refl _) _)).below hb2)
      have HG2 : Hid (GK w2) := Lib.hid (HGw.out.keep hb2)
      obtain ⟨n, hn⟩ : ∃ n, n6 c0 d0 e0 f0 g0 h0 = n := ⟨_, rfl⟩
      have hn0 : 0 ≤ n := by rw [← hn]; exact HX.out.1
      have hn1 : n < 281474976710656 := by rw [← hn]; exact HX.out.2
      rw [hn]
      have HNN : Hid (tgt ⟨a0, b0, c0, d0, e0, f0, g0, h0⟩ = if (a0 = 0 ∧ b0 = 2) ∧ n / 4294967296 = 65000 then some (n % 4294967296) else none) := Lib.hid (by rw [← hn]; rfl)
      clear hn hb2 hnew HT HGw
      go_wp2_with fail
      obtain ⟨kk, hkk⟩ : ∃ kk : Nat, kk = if a0 = 0 ∧ b0 = 2 then 1 else if a0 = 3 ∧ b0 = 12 then 2 else if a0 = 6 ∧ b0 = 0 then 3 else if a0 = 6 ∧ b0 = 1 then 4 else if a0 = 6 ∧ b0 = 2 then 5 else if a0 = 6 ∧ b0 = 3 then 6 else if a0 = 6 ∧ b0 = 6 then 7 else 0 := ⟨_, rfl⟩
      refine (kind_any a0 b0 c0 d0 e0 f0 g0 h0 _ HG2.out kk hkk).mono ?_
      rintro en w3 ⟨rfl, hb3⟩
      have HT3 : Hid (TI w (tgts (L.take k)) u3 w3) := Lib.hid (HT2.out.below hb3)
      clear hb3 HT2 HG2 p0 p1 p2 p3 p4 p5 p6 p7
      by_cases hab : a0 = 0 ∧ b0 = 2
      · rw [if_pos hab] at hkk
        subst hkk
        by_cases hnn : n / 4294967296 = 65000
        · have HNT : Hid (tgts (L.take (k + 1)) = tgts (L.take k) ++ [n % 4294967296]) := Lib.hid (by rw [HN.out, HNN.out, if_pos ⟨hab, hnn⟩]; rfl)
          have hq : (n / 4294967296 == 65000) = true := by simpa using hnn
          have hlen : (tgts (L.take k)).length ≤ 1000 := by
            have h1 := List.length_filterMap_le tgt (L.take k)
            have h2 : (L.take k).length ≤ L.length := by simp; omega
            unfold tgts
            omega
          have hown := HT3.out.own
          have HL := Lib.hid hlen
          have hbsz := HT3.out.bel.size
          clear hab hnn hlen
          go_wp2_with (at_builtin; refine wpList_append_own _ rfl _ _ 50 rfl w.heap.size 28 i0 (.int .u32 0) 1 4 Tryd.underlying50 hi0 hz0 hz1 hz2 rfl (by decide) _ _ _ rfl (hown.alloc _) ⟨w3.heap.size, 0, none⟩ 1 1 [.int .u32 (n % 4294967296)] rfl rfl ?c1 ?c2 ?c3 ?c4 ?c5 ?_)
          case c1 =>
            intro j u hu
            obtain ⟨hj, rfl⟩ := List.getElem?_eq_some_iff.1 hu
            simp only [List.length_singleton] at hj
            obtain rfl : j = 0 := by omega
            simp [Addr.add, go_sem]
          case c2 => simp [Value.oneCell']
          case c3 => have := HL.out; unfold maxLen; omega
          case c4 => have := HL.out; omega
          case c5 => simp; omega
          intro v' w4 hown' hgrow hnil
          have HT4 : Hid (TI w (tgts (L.take (k + 1))) v' w4) := Lib.hid (by
            rw [HNT.out]
            refine ⟨by simpa using hown', ?_, fun h9 => by simp at h9⟩
            exact (HT3.out.bel.alloc hbsz _).grown hgrow (by simp; omega) (fun g hg => by
              rcases hown.2 with ⟨h9, _⟩ | ⟨g', cap', cur', h9, h10, _⟩
              · rw [h9] at hg; cases hg
              · rw [h9] at hg
                injection hg with hg
                subst hg
                exact h10))
          clear hown hown' hgrow hnil hbsz
          go_wp2_with fail
          go_roundw
          case rel => exact ⟨k + 1, by omega, by go_num, HT4.out⟩
          case measure => simp [intOf]; omega
        · have HNT : Hid (tgts (L.take (k + 1)) = tgts (L.take k)) := Lib.hid (by rw [HN.out, HNN.out, if_neg (fun h9 => hnn h9.2)]; simp)
          have hq : (n / 4294967296 == 65000) = false := by simpa using hnn
          clear hab hnn
          go_wp2_with fail
          go_roundw
          case rel => exact ⟨k + 1, by omega, by go_num, by rw [HNT.out]; exact HT3.out⟩
          case measure => simp [intOf]; omega
      · have HNT : Hid (tgts (L.take (k + 1)) = tgts (L.take k)) := Lib.hid (by rw [HN.out, HNN.out, if_neg (fun h9 => hab h9.1)]; simp)
        rw [if_neg hab] at hkk
        have hq : ((kk : Int) == 1) = false := by
          have : kk ≠ 1 := by rw [hkk]; repeat' split
                              all_goals omega
          simp; omega
        clear hkk hab
        go_wp2_with fail
        go_roundw
        case rel => exact ⟨k + 1, by omega, by go_num, by rw [HNT.out]; exact HT3.out⟩
        case measure => simp [intOf]; omega
    · have hke : k = L.length := by omega
      subst hke
      rw [List.take_length] at hti
      have HT := Lib.hid hti
      clear hti
      by_cases he : tgts L = []
      · have hu : u3 = .slice none 0 0 := HT.out.nil he
        subst hu
        go_wp2_with (first | (go_at_call 68; refine (sort0 _).mono ?_; rintro e w' ⟨rfl, rfl⟩) | (go_at_call 69; refine (compact0 _).mono ?_; rintro e w' ⟨rfl, rfl⟩))
        go_ret
        exact ⟨_, rfl, .inl ⟨rfl, HR0.out he⟩, HT.out.bel⟩
      · obtain ⟨g, cap, rfl, hg, hrow⟩ := own_rowU HT.out.own rfl (by
          cases hh : tgts L with
          | nil => exact absurd hh he
          | cons _ _ => simp)
        have HR := Lib.hid hrow
        clear hrow
        go_wp2_with fail
        refine (HSR.out g cap _ HR.out).mono ?_
        rintro en w5 ⟨rfl, hr5, ho5⟩
        have H5 : Hid (RowU w5 g cap S ∧ Below w.heap.size w w5) := Lib.hid ⟨hr5, below_only HT.out.bel ho5 hg HT.out.bel.size⟩
        clear hr5 ho5
        go_wp2_with fail
        refine (HCM.out g cap _ H5.out.1).mono ?_
        rintro en w6 ⟨v6, rfl, hv6, ho6⟩
        have H6 : Hid (ArrU w6 v6 R ∧ Below w.heap.size w w6) := Lib.hid ⟨hv6, below_only H5.out.2 ho6 hg H5.out.2.size⟩
        clear hv6 ho6
        go_wp2_with fail
        go_ret
        exact ⟨_, rfl, H6.out.1, H6.out.2⟩

end Go.Proofs.YtofbgpgngplgpaaDoor
