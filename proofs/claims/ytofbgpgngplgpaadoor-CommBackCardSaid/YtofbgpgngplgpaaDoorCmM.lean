/- CommBack: the walk. -/
import Derived.Test.YtofbgpgngplgpaaDoorCmL
import Derived.Laws.AppendOwnNone
namespace Go.Proofs.YtofbgpgngplgpaaDoor
open Go.RowKit
set_option linter.unusedVariables false
set_option linter.unusedSimpArgs false
set_option maxRecDepth 100000

theorem pick_eq (i n : Int) (hn : 0 < n) : (if i.tmod n < 0 then i.tmod n + n else i.tmod n) = i % n := by
  have h1 := Int.emod_nonneg i (show n ≠ 0 by omega)
  have h2 := Int.emod_lt_of_pos i hn
  have h3 := Int.tmod_eq_emod (a := i) (b := n)
  rw [h3]
  have h4 : (n.natAbs : Int) = n := by omega
  by_cases hc : 0 ≤ i ∨ n ∣ i
  · rw [if_pos hc, if_neg (by omega)]
    omega
  · rw [if_neg hc, h4, if_pos (by omega)]
    omega

theorem tmod_bd (i n : Int) (hn : 0 < n) : -n < i.tmod n ∧ i.tmod n < n := by
  have h1 := Int.emod_nonneg i (show n ≠ 0 by omega)
  have h2 := Int.emod_lt_of_pos i hn
  rw [Int.tmod_eq_emod]
  have h4 : (n.natAbs : Int) = n := by omega
  by_cases hc : 0 ≤ i ∨ n ∣ i
  · rw [if_pos hc]; omega
  · rw [if_neg hc, h4]
    have h5 : i % n ≠ 0 := fun h => hc (.inr (Int.dvd_of_emod_eq_zero h))
    omega

theorem pick_any (i n : Int) (hn : 0 < n) (hn2 : n ≤ 1000000000) (w : World) :
    Calls Tryd.prog 45 #[.int .i64 i, .int .i64 n] w fun e w' => e = .returned (.int .i64 (i % n)) ∧ w = w' := by
  have hp := pick_eq i n hn
  have hb := tmod_bd i n hn
  obtain ⟨b0, b1⟩ := hb
  have hn0 : (n == 0) = false := by simp; omega
  by_cases hc : i.tmod n < 0
  · rw [if_pos hc] at hp
    have HP := Lib.hid hp
    clear hp
    go_enter Tryd.func45, Tryd.ntmps45
    go_wp2
    go_ret
    exact ⟨by rw [← HP.out]; rfl, rfl⟩
  · rw [if_neg hc] at hp
    have HP := Lib.hid hp
    have hc0 : 0 ≤ i.tmod n := by omega
    clear hp hc
    go_enter Tryd.func45, Tryd.ntmps45
    go_wp2
    go_ret
    exact ⟨by rw [← HP.out]; rfl, rfl⟩


/-- The others collected. -/
structure OI (w : World) (O : List C8) (v : Value) (W : World) : Prop where
  own : W.ownsRow w.heap.size 24 8 v O.length (flatC O)
  bel : Below w.heap.size w W
  nil : O = [] → v = .slice none 0 0
theorem OI.below {w W W' : World} {O : List C8} {v : Value} (H : OI w O v W) (hb : Below W.heap.size W W') : OI w O v W' := ⟨own_keep H.own hb, H.bel.trans (hb.mono H.bel.size), H.nil⟩

theorem below_step {W a b : World} (h : Below W.heap.size W a) (k : Below a.heap.size a b) : Below W.heap.size W b := h.trans (k.mono h.size)
theorem own_base {w : World} {base base' size n : Nat} {e : TypeId} {v : Value} {xs : List Value} (h : w.ownsRow base e size v n xs) (hb : base' ≤ base) : w.ownsRow base' e size v n xs := by
  refine ⟨h.1, ?_⟩
  rcases h.2 with h0 | ⟨g, cap, cur, hv, hg, r⟩
  · exact .inl h0
  · exact .inr ⟨g, cap, cur, hv, Nat.le_trans hb hg, r⟩
theorem own_some {w : World} {base n : Nat} {e : TypeId} {v : Value} {xs : List Value} (h : w.ownsRow base e 8 v n xs) (hn : 0 < n) : ∃ g cap, v = .slice (some ⟨g, 0, none⟩) n cap ∧ base ≤ g ∧ n ≤ cap := by
  rcases h.2 with ⟨_, h0⟩ | ⟨g, cap, cur, hv, hg, h1, h2, h3, _⟩
  · omega
  · exact ⟨g, cap, hv, hg, by omega⟩
theorem ownC' (v : Value) (L : List C8) (p : Nat) (w : World) (h : Cms w v L) (hp : L.length = p) (hm : L.length ≤ 1000) :
    Calls Tryd.prog 29 #[v] w fun e w' => (∃ v', e = .returned v' ∧ w'.ownsRow w.heap.size 24 8 v' p (flatC L)) ∧ Below w.heap.size w w' := by
  subst hp
  exact ownC v L w h hm
theorem cms_take {w : World} {ad : Addr} {n p c : Nat} {L : List C8} (h : Cms w (.slice (some ad) n c) L) (hp : p ≤ L.length) : Cms w (.slice (some ad) p c) (L.take p) := by
  rcases h with ⟨h0, _⟩ | ⟨b, o, c', h1, h2⟩
  · cases h0
  · injection h1 with h1 _ h3
    injection h1 with h1
    subst h1
    subst h3
    refine .inr ⟨b, o, c, by rw [List.length_take, Nat.min_eq_left hp], fun i hi => ?_⟩
    have hi' : i < L.length := by rw [List.length_take] at hi; omega
    rw [List.getElem_take]
    exact h2 i hi'

theorem amid_own {w : World} {base p : Nat} {v : Value} {O X : List C8} (h : w.ownsRow base 24 8 v (p + 7 + (O.length - p)) (flatC (O.take p ++ X) ++ flatC (O.drop p))) (hp : p ≤ O.length) : w.ownsRow base 24 8 v (O.length + 7) (flatC (amid O p X)) := by
  rw [show p + 7 + (O.length - p) = O.length + 7 by omega, ← flatC_app] at h
  exact h
theorem cms_drop {w : World} {b n c p : Nat} {L : List C8} (h : Cms w (.slice (some ⟨b, 0, none⟩) n c) L) (hp : p ≤ L.length) : ∀ j u, (flatC (L.drop p))[j]? = some u → w.cell? ⟨b, p * 8 + j, none⟩ = some u := by
  intro j u hu
  have h1 := h.news.2 (p * 8 + j) u (by
    rw [show flatC L = flatC (L.take p) ++ flatC (L.drop p) by rw [← flatC_app, List.take_append_drop], List.getElem?_append_right (by rw [flatC_len, List.length_take, Nat.min_eq_left hp]; omega), flatC_len, List.length_take, Nat.min_eq_left hp, show p * 8 + j - p * 8 = j by omega]
    exact hu)
  have e1 : ∀ o k : Nat, (⟨b, o, none⟩ : Addr).add k = ⟨b, o + k, none⟩ := by
    intro o k
    unfold Addr.add
    split
    · rename_i h0; simp_all
    · rfl
  rw [e1, Nat.zero_add] at h1
  exact h1

theorem targets_one (L : List C8) (hL : L.length ≤ 1000) (hok : ∀ x ∈ L, x.ok) (v : Value) (w : World) (hv : Cms w v L) (hw : GK w) (x : Int) (hx : tgts L = [x]) :
    Calls Tryd.prog 41 #[v] w fun e w' => ∃ v', e = .returned v' ∧ ArrU w' v' [x] ∧ Below w.heap.size w w' := by
  refine targets_any L hL hok v w hv hw [x] [x] (by rw [hx]) (by rw [hx]; simp) ?_ ?_
  · intro h cap W hr
    rw [hx] at hr ⊢
    refine (sort1 h cap W).mono ?_
    rintro e W' ⟨rfl, rfl⟩
    exact ⟨rfl, hr, only_refl _ _⟩
  · intro h cap W hr
    rw [hx]
    refine (compact1 h cap W).mono ?_
    rintro e W' ⟨rfl, rfl⟩
    exact ⟨_, rfl, .inr ⟨h, cap, rfl, fun i hi => hr.cell i hi⟩, only_refl _ _⟩

theorem ins0x (h cap : Nat) (w : World) :
    Calls Tryd.prog 87 #[.slice (some ⟨h, 0, none⟩) 0 cap, .int .i64 0, .int .i64 0] w fun e w' => e = .returned (.tuple #[]) ∧ w = w' := by
  go_enter Tryd.func87, Tryd.ntmps87
  go_wp2_with fail
  go_loop [6] (fun i => i = .int .i64 1) (fun i => 0)
  case atStart => rfl
  case round =>
    subst hrel
    go_wp2_with fail
    go_end0
    exact ⟨rfl, rfl⟩
theorem pdq0x (h cap : Nat) (w : World) :
    Calls Tryd.prog 76 #[.slice (some ⟨h, 0, none⟩) 0 cap, .int .i64 0, .int .i64 0, .int .i64 0] w fun e w' => e = .returned (.tuple #[]) ∧ w = w' := by
  go_enter Tryd.func76, Tryd.ntmps76
  go_wp2_with fail
  go_loopw [1, 2, 3, 8, 9] (fun a b l p q wr => a = .int .i64 0 ∧ b = .int .i64 0 ∧ l = .int .i64 0 ∧ p = .bool true ∧ q = .bool true ∧ w = wr) (fun _ _ _ _ _ _ => 0)
  case atStart => exact ⟨rfl, rfl, rfl, rfl, rfl, rfl⟩
  case round =>
    obtain ⟨rfl, rfl, rfl, rfl, rfl, rfl⟩ := hrel
    go_wp2_with fail
    refine (ins0x h cap _).mono ?_
    rintro e w1 ⟨rfl, rfl⟩
    go_wp2_with fail
    exact bodyPost_ret (v := .tuple #[]) (by simp [results, Tryd.results76, go_sem]) rfl ⟨rfl, rfl⟩
theorem sort0x (h cap : Nat) (w : World) :
    Calls Tryd.prog 68 #[.slice (some ⟨h, 0, none⟩) 0 cap] w fun e w' => e = .returned (.tuple #[]) ∧ w = w' := by
  go_enter Tryd.func68, Tryd.ntmps68
  go_wp2_with (first | (go_at_call 74; refine (len_0 _).mono ?_; rintro e w' ⟨rfl, rfl⟩) | (go_at_call 76; refine (pdq0x h cap _).mono ?_; rintro e w' ⟨rfl, rfl⟩))
  go_end0
  exact ⟨rfl, rfl⟩
theorem compact0x (h cap : Nat) (w : World) :
    Calls Tryd.prog 69 #[.slice (some ⟨h, 0, none⟩) 0 cap] w fun e w' => e = .returned (.slice (some ⟨h, 0, none⟩) 0 cap) ∧ w = w' := by
  go_enter Tryd.func69, Tryd.ntmps69
  go_wp2_with fail
  go_ret
  exact ⟨rfl, rfl⟩
theorem targets_none (L : List C8) (hL : L.length ≤ 1000) (hok : ∀ x ∈ L, x.ok) (v : Value) (w : World) (hv : Cms w v L) (hw : GK w) (hx : tgts L = []) :
    Calls Tryd.prog 41 #[v] w fun e w' => ∃ v', e = .returned v' ∧ (∃ A c, v' = .slice A 0 c) ∧ Below w.heap.size w w' := by
  refine Calls.mono (targets_any L hL hok v w hv hw [] [] (by rw [hx]) (fun _ => rfl) ?_ ?_) ?_
  · intro h cap W hr
    rw [hx] at hr ⊢
    refine (sort0x h cap W).mono ?_
    rintro e W' ⟨rfl, rfl⟩
    exact ⟨rfl, hr, only_refl _ _⟩
  · intro h cap W hr
    rw [hx]
    refine (compact0x h cap W).mono ?_
    rintro e W' ⟨rfl, rfl⟩
    exact ⟨_, rfl, .inr ⟨h, cap, rfl, fun i hi => by cases hi⟩, only_refl _ _⟩
  · rintro e W' ⟨v', rfl, ha, hb⟩
    refine ⟨v', rfl, ?_, hb⟩
    rcases ha with ⟨rfl, _⟩ | ⟨b, c, rfl, _⟩
    · exact ⟨none, 0, rfl⟩
    · exact ⟨_, c, rfl⟩

theorem back3_long (A : Option Addr) (n c : Nat) (at_ n' a b m : Int) (is : Bool) (h : 60 < n) (hb : n ≤ 9223372036854775807) (w : World) (hw : GK w) :
    Calls Tryd.prog 6 #[.slice A n c, .int .i64 at_, .int .u32 n', .int .i64 a, .int .i64 b, .int .u64 m, .bool is] w fun e w' => e = .returned (.bool true) ∧ Below w.heap.size w w' := by
  have HW := Lib.hid hw
  clear hw
  go_enter Tryd.func6, Tryd.ntmps6
  go_wp2_with fail
  refine (lives_any _ HW.out).mono ?_
  rintro en w1 ⟨rfl, hb1⟩
  have H1 := Lib.hid hb1
  clear hb1
  go_wp2_with fail
  go_ret
  exact ⟨rfl, H1.out⟩

set_option maxHeartbeats 10000000 in
theorem back3_walk (L : List C8) (hL : L.length ≤ 60) (hok : ∀ x ∈ L, x.ok) (A : Option Addr) (c : Nat) (at_ n a b m : Int) (is : Bool) (n0 : 0 ≤ n) (n1 : n < 4294967296) (m0 : 0 ≤ m) (m1 : m < 18446744073709551616) (w : World) (hv : 0 < L.length → Cms w (.slice A L.length c) L) (hw : GK w) :
    Calls Tryd.prog 6 #[.slice A L.length c, .int .i64 at_, .int .u32 n, .int .i64 a, .int .i64 b, .int .u64 m, .bool is] w fun e w' => e = .returned (.bool true) ∧ Below w.heap.size w w' := by
  have HV := Lib.hid hv
  have HW := Lib.hid hw
  have HO := Lib.hid hok
  have hd1 : decide ((60 : Int) < (L.length : Int)) = false := by simp; omega
  obtain ⟨i0, hi0, hz0, hz1, hz2⟩ := info_parts info_comm
  clear hv hw hok
  go_enter Tryd.func6, Tryd.ntmps6
  go_wp2_with fail
  refine (lives_any _ HW.out).mono ?_
  rintro en w1 ⟨rfl, hb1⟩
  have HB1 := Lib.hid hb1
  clear hb1
  go_wp2_with fail
  go_loopw [15, 16] (fun v15 i wr => ∃ k : Nat, k ≤ L.length ∧ i = .int .i64 k ∧ OI w (oth (L.take k)) v15 wr) (fun _ i _ => L.length - (intOf i).toNat)
  case atStart => exact ⟨0, Nat.zero_le _, rfl, ⟨rfl, .inl ⟨rfl, rfl⟩⟩, HB1.out, fun _ => rfl⟩
  case round =>
    obtain ⟨k, hk, rfl, hoi⟩ := hrel
    clear HB1
    by_cases hlt : k < L.length
    · obtain ⟨bb, oo, rfl, hbl, hat⟩ := (HV.out (by omega)).at_ k hlt
      have hx := HO.out L[k] (List.getElem_mem hlt)
      have hsn := oth_snoc L k hlt
      obtain ⟨x, hxe⟩ : ∃ x, L[k] = x := ⟨_, rfl⟩
      rw [hxe] at hat hx hsn
      obtain ⟨a0, b0, c0, d0, e0, f0, g0, h0⟩ := x
      simp only at hat
      have hq := hat _ hoi.bel
      obtain ⟨q0, q1, q2, q3, q4, q5, q6, q7⟩ := hq
      have hlw : bb < wr.heap.size := Nat.lt_of_lt_of_le hbl hoi.bel.size
      have HT := Lib.hid hoi
      have HN := Lib.hid hsn
      have HA := Lib.hid hat
      have HG : Hid (GK wr) := Lib.hid (HW.out.keep hoi.bel)
      clear hoi hsn hx hxe hat hbl
      go_wp2_with fail
      refine (kind_of ⟨a0, b0, c0, d0, e0, f0, g0, h0⟩ _ HG.out).mono ?_
      rintro en w2 ⟨rfl, hb2⟩
      have HT2 : Hid (OI w (oth (L.take k)) u15 w2) := Lib.hid (HT.out.below hb2)
      clear hb2 HT HG q0 q1 q2 q3 q4 q5 q6 q7 hlw
      obtain ⟨kk, hkk⟩ : ∃ kk, kindOf ⟨a0, b0, c0, d0, e0, f0, g0, h0⟩ = kk := ⟨_, rfl⟩
      rw [hkk]
      by_cases hke : kk = 0
      · have hq : ((kk : Int) == 0) = true := by simp; omega
        have HNT : Hid (oth (L.take (k + 1)) = oth (L.take k) ++ [⟨a0, b0, c0, d0, e0, f0, g0, h0⟩]) := Lib.hid (by rw [HN.out, if_pos (by rw [hkk]; exact hke)])
        have hq2 := HA.out _ HT2.out.bel
        obtain ⟨q0, q1, q2, q3, q4, q5, q6, q7⟩ := hq2
        have hlen : (oth (L.take k)).length ≤ 60 := by
          have h1 := oth_len (L.take k)
          have h2 : (L.take k).length ≤ L.length := by simp; omega
          omega
        have hown := HT2.out.own
        have HLn := Lib.hid hlen
        have hbsz := HT2.out.bel.size
        clear hke hkk hlen
        go_wp2_with (at_builtin; refine wpList_append_own _ rfl _ _ 35 rfl w.heap.size 24 i0 (cm 0 0 0 0 0 0 0 0) 8 8 Tryd.underlying35 hi0 hz0 hz1 hz2 rfl (by decide) _ _ _ rfl (hown.alloc _) ⟨w2.heap.size, 0, none⟩ 1 1 (c8s ⟨a0, b0, c0, d0, e0, f0, g0, h0⟩) rfl rfl ?c1 ?c2 ?c3 ?c4 ?c5 ?_)
        case c1 =>
          intro j u hu
          have hh := Has.new w2 24 #[.int .u8 a0, .int .u8 b0, .int .u8 c0, .int .u8 d0, .int .u8 e0, .int .u8 f0, .int .u8 g0, .int .u8 h0]
          have e : (⟨w2.heap.size, 0, none⟩ : Addr).add j = ⟨w2.heap.size, j, none⟩ := by
            unfold Addr.add
            split
            · rename_i h9; simp_all
            · simp
          rw [e, hh.cell j, ← Array.getElem?_toList]
          exact hu
        case c2 => intro u hu; exact flatC_one [⟨a0, b0, c0, d0, e0, f0, g0, h0⟩] u (by simpa [flatC] using hu)
        case c3 => have := HLn.out; unfold maxLen; omega
        case c4 => have := HLn.out; omega
        case c5 => simp; omega
        intro v' w4 hown' hgrow hnil
        have HT4 : Hid (OI w (oth (L.take (k + 1))) v' w4) := Lib.hid (by
          rw [HNT.out]
          refine ⟨by rw [flatC_app]; simpa [flatC] using hown', ?_, fun h9 => by simp at h9⟩
          exact own_bel (hown.alloc _) (HT2.out.bel.alloc hbsz _) hgrow (by simp; omega) (Nat.le_refl _))
        clear hown hown' hgrow hnil hbsz q0 q1 q2 q3 q4 q5 q6 q7 HT2
        go_wp2_with fail
        go_roundw
        case rel => exact ⟨k + 1, by omega, by go_num, HT4.out⟩
        case measure => simp [intOf]; omega
      · have hq : ((kk : Int) == 0) = false := by simp; omega
        have HNT : Hid (oth (L.take (k + 1)) = oth (L.take k)) := Lib.hid (by rw [HN.out, if_neg (by rw [hkk]; exact hke)]; simp)
        clear hke hkk
        go_wp2_with fail
        go_roundw
        case rel => exact ⟨k + 1, by omega, by go_num, by rw [HNT.out]; exact HT2.out⟩
        case measure => simp [intOf]; omega
    · have hke : k = L.length := by omega
      subst hke
      rw [List.take_length] at hoi
      have HT := Lib.hid hoi
      clear hoi hlt hk
      obtain ⟨O, hO⟩ : ∃ O, oth L = O := ⟨_, rfl⟩
      have HK : Hid ((∀ x ∈ O, kindOf x = 0) ∧ (∀ x ∈ O, x.ok)) := Lib.hid (by
        rw [← hO]
        exact ⟨fun x hx => (oth_kind L x hx).1, fun x hx => HO.out x (oth_kind L x hx).2⟩)
      have hOl : O.length ≤ 60 := by
        have := oth_len L
        rw [hO] at this
        omega
      rw [hO] at HT
      clear hO
      obtain ⟨OA, oc, hu15⟩ : ∃ A c, u15 = .slice A O.length c := by
        rcases HT.out.own.2 with ⟨h9, h8⟩ | ⟨g, cap, cur, h9, _⟩
        · exact ⟨none, 0, by rw [h9, h8]⟩
        · exact ⟨_, cap, h9⟩
      subst hu15
      go_wp2_with fail
      refine (pick_any at_ ((O.length : Int) + 1) (by omega) (by omega) _).mono ?_
      rintro en w3 ⟨rfl, rfl⟩
      have hp0 := Int.emod_nonneg at_ (show ((O.length : Int) + 1) ≠ 0 by omega)
      have hp1 := Int.emod_lt_of_pos at_ (show (0 : Int) < (O.length : Int) + 1 by omega)
      obtain ⟨p, hp⟩ : ∃ p : Nat, at_ % ((O.length : Int) + 1) = p := ⟨(at_ % ((O.length : Int) + 1)).toNat, by omega⟩
      rw [hp] at hp0 hp1 ⊢
      have hpl : p ≤ O.length := by omega
      clear hp hp0 hp1
      have hA := Int.emod_nonneg a (show (32 : Int) ≠ 0 by omega)
      have hA1 := Int.emod_lt_of_pos a (show (0 : Int) < 32 by omega)
      have hB := Int.emod_nonneg b (show (65536 : Int) ≠ 0 by omega)
      have hB1 := Int.emod_lt_of_pos b (show (0 : Int) < 65536 by omega)
      have hM := Int.emod_nonneg m (show (281474976710656 : Int) ≠ 0 by omega)
      have hM1 := Int.emod_lt_of_pos m (show (0 : Int) < 281474976710656 by omega)
      have hN := Int.emod_nonneg n (show (16777216 : Int) ≠ 0 by omega)
      have hN1 := Int.emod_lt_of_pos n (show (0 : Int) < 16777216 by omega)
      have ham : bits BinOp.and .u64 m 281474976710655 = m % 281474976710656 := and_mask 48 m m0 m1
      have han := and_mask32 n n0 n1
      obtain ⟨aa, haa⟩ : ∃ y, a % 32 = y := ⟨_, rfl⟩
      obtain ⟨bb, hbb⟩ : ∃ y, b % 65536 = y := ⟨_, rfl⟩
      obtain ⟨mm, hmm⟩ : ∃ y, m % 281474976710656 = y := ⟨_, rfl⟩
      obtain ⟨nn, hnn⟩ : ∃ y, n % 16777216 = y := ⟨_, rfl⟩
      rw [haa] at hA hA1
      rw [hbb] at hB hB1
      rw [hmm] at hM hM1 ham
      rw [hnn] at hN hN1 han
      have HAA := Lib.hid haa
      have HBB := Lib.hid hbb
      clear haa hbb hmm hnn
      go_wp2_with fail
      refine (pick_any a 32 (by omega) (by omega) _).mono ?_
      rw [HAA.out]
      rintro en w3 ⟨rfl, rfl⟩
      go_wp2_with fail
      refine (pick_any b 65536 (by omega) (by omega) _).mono ?_
      rw [HBB.out]
      rintro en w3 ⟨rfl, rfl⟩
      go_wp2_with fail
      clear ham han
      have K0 : Hid (KS w [] wr) := Lib.hid ⟨HW.out.keep HT.out.bel, HT.out.bel, fun p hp => by cases hp⟩
      obtain ⟨y00, y01, y02, y03, y04, y05, hL0⟩ : ∃ c0 c1 c2 c3 c4 c5, mkx 3 12 bb = ⟨3, 12, c0, c1, c2, c3, c4, c5⟩ := ⟨_, _, _, _, _, _, rfl⟩
      have HL0 : Hid (mkx 3 12 bb = ⟨3, 12, y00, y01, y02, y03, y04, y05⟩) := Lib.hid hL0
      clear hL0
      have HM0 : Hid (mk 3 12 bb = cm 3 12 y00 y01 y02 y03 y04 y05) := Lib.hid (by rw [← mkx_v, HL0.out])
      obtain ⟨y10, y11, y12, y13, y14, y15, hL1⟩ : ∃ c0 c1 c2 c3 c4 c5, mkx 6 1 (fl is + nn) = ⟨6, 1, c0, c1, c2, c3, c4, c5⟩ := ⟨_, _, _, _, _, _, rfl⟩
      have HL1 : Hid (mkx 6 1 (fl is + nn) = ⟨6, 1, y10, y11, y12, y13, y14, y15⟩) := Lib.hid hL1
      clear hL1
      have HM1 : Hid (mk 6 1 (fl is + nn) = cm 6 1 y10 y11 y12 y13 y14 y15) := Lib.hid (by rw [← mkx_v, HL1.out])
      obtain ⟨y20, y21, y22, y23, y24, y25, hL2⟩ : ∃ c0 c1 c2 c3 c4 c5, mkx 6 2 mm = ⟨6, 2, c0, c1, c2, c3, c4, c5⟩ := ⟨_, _, _, _, _, _, rfl⟩
      have HL2 : Hid (mkx 6 2 mm = ⟨6, 2, y20, y21, y22, y23, y24, y25⟩) := Lib.hid hL2
      clear hL2
      have HM2 : Hid (mk 6 2 mm = cm 6 2 y20 y21 y22 y23 y24 y25) := Lib.hid (by rw [← mkx_v, HL2.out])
      obtain ⟨y30, y31, y32, y33, y34, y35, hL3⟩ : ∃ c0 c1 c2 c3 c4 c5, mkx 6 3 mm = ⟨6, 3, c0, c1, c2, c3, c4, c5⟩ := ⟨_, _, _, _, _, _, rfl⟩
      have HL3 : Hid (mkx 6 3 mm = ⟨6, 3, y30, y31, y32, y33, y34, y35⟩) := Lib.hid hL3
      clear hL3
      have HM3 : Hid (mk 6 3 mm = cm 6 3 y30 y31 y32 y33 y34 y35) := Lib.hid (by rw [← mkx_v, HL3.out])
      obtain ⟨y40, y41, y42, y43, y44, y45, hL4⟩ : ∃ c0 c1 c2 c3 c4 c5, mkx 6 6 (aa * 1099511627776 + bb) = ⟨6, 6, c0, c1, c2, c3, c4, c5⟩ := ⟨_, _, _, _, _, _, rfl⟩
      have HL4 : Hid (mkx 6 6 (aa * 1099511627776 + bb) = ⟨6, 6, y40, y41, y42, y43, y44, y45⟩) := Lib.hid hL4
      clear hL4
      have HM4 : Hid (mk 6 6 (aa * 1099511627776 + bb) = cm 6 6 y40 y41 y42 y43 y44 y45) := Lib.hid (by rw [← mkx_v, HL4.out])
      obtain ⟨y50, y51, y52, y53, y54, y55, hL5⟩ : ∃ c0 c1 c2 c3 c4 c5, mkx 6 0 (fl is + nn) = ⟨6, 0, c0, c1, c2, c3, c4, c5⟩ := ⟨_, _, _, _, _, _, rfl⟩
      have HL5 : Hid (mkx 6 0 (fl is + nn) = ⟨6, 0, y50, y51, y52, y53, y54, y55⟩) := Lib.hid hL5
      clear hL5
      have HM5 : Hid (mk 6 0 (fl is + nn) = cm 6 0 y50 y51 y52 y53 y54 y55) := Lib.hid (by rw [← mkx_v, HL5.out])
      obtain ⟨y60, y61, y62, y63, y64, y65, hL6⟩ : ∃ c0 c1 c2 c3 c4 c5, mkx 0 2 (65000 * 4294967296 + nn) = ⟨0, 2, c0, c1, c2, c3, c4, c5⟩ := ⟨_, _, _, _, _, _, rfl⟩
      have HL6 : Hid (mkx 0 2 (65000 * 4294967296 + nn) = ⟨0, 2, y60, y61, y62, y63, y64, y65⟩) := Lib.hid hL6
      clear hL6
      have HM6 : Hid (mk 0 2 (65000 * 4294967296 + nn) = cm 0 2 y60 y61 y62 y63 y64 y65) := Lib.hid (by rw [← mkx_v, HL6.out])
      refine (encap_any bb (by omega) (by omega) _ K0.out.gk).mono ?_
      rw [show encC bb = mk 3 12 bb from if_pos ⟨hB, by omega⟩, show encE bb = 0 from if_pos ⟨hB, by omega⟩, HM0.out]
      rintro en w11 ⟨rfl, hb⟩
      have K1 := Lib.hid ((K0.out.below hb).push #[.int .u8 3, .int .u8 12, .int .u8 y00, .int .u8 y01, .int .u8 y02, .int .u8 y03, .int .u8 y04, .int .u8 y05])
      have HT11 := Lib.hid ((HT.out.below hb).below ((Below.refl _ w11).alloc (Nat.le_refl _) (.cells #[.int .u8 3, .int .u8 12, .int .u8 y00, .int .u8 y01, .int .u8 y02, .int .u8 y03, .int .u8 y04, .int .u8 y05] 24)))
      clear hb K0 HT
      go_wp2_with fail
      refine (label_any is nn hN (by omega) _ K1.out.gk).mono ?_
      rw [show labC is nn = mk 6 1 (fl is + nn) from if_pos (by omega), show labE nn = 0 from if_pos (by omega), HM1.out]
      rintro en w12 ⟨rfl, hb⟩
      have K2 := Lib.hid ((K1.out.below hb).push #[.int .u8 6, .int .u8 1, .int .u8 y10, .int .u8 y11, .int .u8 y12, .int .u8 y13, .int .u8 y14, .int .u8 y15])
      have HT12 := Lib.hid ((HT11.out.below hb).below ((Below.refl _ w12).alloc (Nat.le_refl _) (.cells #[.int .u8 6, .int .u8 1, .int .u8 y10, .int .u8 y11, .int .u8 y12, .int .u8 y13, .int .u8 y14, .int .u8 y15] 24)))
      clear hb K1 HT11
      go_wp2_with fail
      refine (import_any mm hM (by omega) _ K2.out.gk).mono ?_
      rw [show macC 2 mm = mk 6 2 mm from if_pos (by omega), show macE mm = 0 from if_pos (by omega), HM2.out]
      rintro en w13 ⟨rfl, hb⟩
      have K3 := Lib.hid ((K2.out.below hb).push #[.int .u8 6, .int .u8 2, .int .u8 y20, .int .u8 y21, .int .u8 y22, .int .u8 y23, .int .u8 y24, .int .u8 y25])
      have HT13 := Lib.hid ((HT12.out.below hb).below ((Below.refl _ w13).alloc (Nat.le_refl _) (.cells #[.int .u8 6, .int .u8 2, .int .u8 y20, .int .u8 y21, .int .u8 y22, .int .u8 y23, .int .u8 y24, .int .u8 y25] 24)))
      clear hb K2 HT12
      go_wp2_with fail
      refine (router_any mm hM (by omega) _ K3.out.gk).mono ?_
      rw [show macC 3 mm = mk 6 3 mm from if_pos (by omega), show macE mm = 0 from if_pos (by omega), HM3.out]
      rintro en w14 ⟨rfl, hb⟩
      have K4 := Lib.hid ((K3.out.below hb).push #[.int .u8 6, .int .u8 3, .int .u8 y30, .int .u8 y31, .int .u8 y32, .int .u8 y33, .int .u8 y34, .int .u8 y35])
      have HT14 := Lib.hid ((HT13.out.below hb).below ((Below.refl _ w14).alloc (Nat.le_refl _) (.cells #[.int .u8 6, .int .u8 3, .int .u8 y30, .int .u8 y31, .int .u8 y32, .int .u8 y33, .int .u8 y34, .int .u8 y35] 24)))
      clear hb K3 HT13
      go_wp2_with fail
      refine (election_any aa bb (by omega) (by omega) (by omega) (by omega) _ K4.out.gk).mono ?_
      rw [show eleC aa bb = mk 6 6 (aa * 1099511627776 + bb) from if_pos ⟨hA, by omega, hB, by omega⟩, show eleE aa bb = 0 from if_pos ⟨hA, by omega, hB, by omega⟩, HM4.out]
      rintro en w15 ⟨rfl, hb⟩
      have K5 := Lib.hid ((K4.out.below hb).push #[.int .u8 6, .int .u8 6, .int .u8 y40, .int .u8 y41, .int .u8 y42, .int .u8 y43, .int .u8 y44, .int .u8 y45])
      have HT15 := Lib.hid ((HT14.out.below hb).below ((Below.refl _ w15).alloc (Nat.le_refl _) (.cells #[.int .u8 6, .int .u8 6, .int .u8 y40, .int .u8 y41, .int .u8 y42, .int .u8 y43, .int .u8 y44, .int .u8 y45] 24)))
      clear hb K4 HT14
      go_wp2_with fail
      obtain ⟨W, hW⟩ : ∃ W, w15.alloc (.cells #[.int .u8 6, .int .u8 6, .int .u8 y40, .int .u8 y41, .int .u8 y42, .int .u8 y43, .int .u8 y44, .int .u8 y45] 24) = W := ⟨_, rfl⟩
      rw [hW] at K5 HT15 ⊢
      have hlow : w15.heap.size < W.heap.size := by rw [← hW]; simp
      clear hW
      have hall : ∀ w', Below W.heap.size W w' → (Below W.heap.size W w' ∧ w'.cell? ⟨w11.heap.size, 0, none⟩ = some (.int .u8 3) ∧ w'.cell? ⟨w11.heap.size, 1, none⟩ = some (.int .u8 12) ∧ w'.cell? ⟨w11.heap.size, 2, none⟩ = some (.int .u8 y00) ∧ w'.cell? ⟨w11.heap.size, 3, none⟩ = some (.int .u8 y01) ∧ w'.cell? ⟨w11.heap.size, 4, none⟩ = some (.int .u8 y02) ∧ w'.cell? ⟨w11.heap.size, 5, none⟩ = some (.int .u8 y03) ∧ w'.cell? ⟨w11.heap.size, 6, none⟩ = some (.int .u8 y04) ∧ w'.cell? ⟨w11.heap.size, 7, none⟩ = some (.int .u8 y05) ∧ w'.cell? ⟨w12.heap.size, 0, none⟩ = some (.int .u8 6) ∧ w'.cell? ⟨w12.heap.size, 1, none⟩ = some (.int .u8 1) ∧ w'.cell? ⟨w12.heap.size, 2, none⟩ = some (.int .u8 y10) ∧ w'.cell? ⟨w12.heap.size, 3, none⟩ = some (.int .u8 y11) ∧ w'.cell? ⟨w12.heap.size, 4, none⟩ = some (.int .u8 y12) ∧ w'.cell? ⟨w12.heap.size, 5, none⟩ = some (.int .u8 y13) ∧ w'.cell? ⟨w12.heap.size, 6, none⟩ = some (.int .u8 y14) ∧ w'.cell? ⟨w12.heap.size, 7, none⟩ = some (.int .u8 y15) ∧ w'.cell? ⟨w13.heap.size, 0, none⟩ = some (.int .u8 6) ∧ w'.cell? ⟨w13.heap.size, 1, none⟩ = some (.int .u8 2) ∧ w'.cell? ⟨w13.heap.size, 2, none⟩ = some (.int .u8 y20) ∧ w'.cell? ⟨w13.heap.size, 3, none⟩ = some (.int .u8 y21) ∧ w'.cell? ⟨w13.heap.size, 4, none⟩ = some (.int .u8 y22) ∧ w'.cell? ⟨w13.heap.size, 5, none⟩ = some (.int .u8 y23) ∧ w'.cell? ⟨w13.heap.size, 6, none⟩ = some (.int .u8 y24) ∧ w'.cell? ⟨w13.heap.size, 7, none⟩ = some (.int .u8 y25) ∧ w'.cell? ⟨w14.heap.size, 0, none⟩ = some (.int .u8 6) ∧ w'.cell? ⟨w14.heap.size, 1, none⟩ = some (.int .u8 3) ∧ w'.cell? ⟨w14.heap.size, 2, none⟩ = some (.int .u8 y30) ∧ w'.cell? ⟨w14.heap.size, 3, none⟩ = some (.int .u8 y31) ∧ w'.cell? ⟨w14.heap.size, 4, none⟩ = some (.int .u8 y32) ∧ w'.cell? ⟨w14.heap.size, 5, none⟩ = some (.int .u8 y33) ∧ w'.cell? ⟨w14.heap.size, 6, none⟩ = some (.int .u8 y34) ∧ w'.cell? ⟨w14.heap.size, 7, none⟩ = some (.int .u8 y35) ∧ w'.cell? ⟨w15.heap.size, 0, none⟩ = some (.int .u8 6) ∧ w'.cell? ⟨w15.heap.size, 1, none⟩ = some (.int .u8 6) ∧ w'.cell? ⟨w15.heap.size, 2, none⟩ = some (.int .u8 y40) ∧ w'.cell? ⟨w15.heap.size, 3, none⟩ = some (.int .u8 y41) ∧ w'.cell? ⟨w15.heap.size, 4, none⟩ = some (.int .u8 y42) ∧ w'.cell? ⟨w15.heap.size, 5, none⟩ = some (.int .u8 y43) ∧ w'.cell? ⟨w15.heap.size, 6, none⟩ = some (.int .u8 y44) ∧ w'.cell? ⟨w15.heap.size, 7, none⟩ = some (.int .u8 y45)) := by
        intro w' H
        have HK := K5.out.below H
        have h0 := HK.has (w11.heap.size, #[.int .u8 3, .int .u8 12, .int .u8 y00, .int .u8 y01, .int .u8 y02, .int .u8 y03, .int .u8 y04, .int .u8 y05]) (.tail _ (.tail _ (.tail _ (.tail _ (.head _)))))
        have h1 := HK.has (w12.heap.size, #[.int .u8 6, .int .u8 1, .int .u8 y10, .int .u8 y11, .int .u8 y12, .int .u8 y13, .int .u8 y14, .int .u8 y15]) (.tail _ (.tail _ (.tail _ (.head _))))
        have h2 := HK.has (w13.heap.size, #[.int .u8 6, .int .u8 2, .int .u8 y20, .int .u8 y21, .int .u8 y22, .int .u8 y23, .int .u8 y24, .int .u8 y25]) (.tail _ (.tail _ (.head _)))
        have h3 := HK.has (w14.heap.size, #[.int .u8 6, .int .u8 3, .int .u8 y30, .int .u8 y31, .int .u8 y32, .int .u8 y33, .int .u8 y34, .int .u8 y35]) (.tail _ (.head _))
        have h4 := HK.has (w15.heap.size, #[.int .u8 6, .int .u8 6, .int .u8 y40, .int .u8 y41, .int .u8 y42, .int .u8 y43, .int .u8 y44, .int .u8 y45]) (.head _)
        exact ⟨H, h0.cell 0, h0.cell 1, h0.cell 2, h0.cell 3, h0.cell 4, h0.cell 5, h0.cell 6, h0.cell 7, h1.cell 0, h1.cell 1, h1.cell 2, h1.cell 3, h1.cell 4, h1.cell 5, h1.cell 6, h1.cell 7, h2.cell 0, h2.cell 1, h2.cell 2, h2.cell 3, h2.cell 4, h2.cell 5, h2.cell 6, h2.cell 7, h3.cell 0, h3.cell 1, h3.cell 2, h3.cell 3, h3.cell 4, h3.cell 5, h3.cell 6, h3.cell 7, h4.cell 0, h4.cell 1, h4.cell 2, h4.cell 3, h4.cell 4, h4.cell 5, h4.cell 6, h4.cell 7⟩
      have HALL := Lib.hid hall
      clear hall hlow
      have hX7 : ∃ X : List C8, X = [⟨3, 12, y00, y01, y02, y03, y04, y05⟩, ⟨6, 1, y10, y11, y12, y13, y14, y15⟩, ⟨6, 2, y20, y21, y22, y23, y24, y25⟩, ⟨6, 3, y30, y31, y32, y33, y34, y35⟩, ⟨6, 6, y40, y41, y42, y43, y44, y45⟩, ⟨6, 0, y50, y51, y52, y53, y54, y55⟩, ⟨0, 2, y60, y61, y62, y63, y64, y65⟩] := ⟨_, rfl⟩
      obtain ⟨X7, hX7⟩ := hX7
      have HX := Lib.hid hX7
      clear hX7
      have HP := Lib.hid hpl
      go_upto_region 18 with fail
      go_cut [27] (fun v27 wx => ∃ g c, v27 = .slice (some ⟨g, 0, none⟩) (p + 7) c ∧ wx.ownsRow W.heap.size 24 8 v27 (p + 7) (flatC (O.take p ++ X7)) ∧ Below W.heap.size W wx)
      case first =>
        by_cases h0 : O = []
        · subst h0
          obtain rfl : p = 0 := by simpa using hpl
          have hv9 := HT15.out.nil rfl
          injection hv9 with hv1 _ hv2
          subst hv1
          subst hv2
          have HCM : Hid (∀ w', Below W.heap.size W w' → Cms w' (.slice none 0 0) (([] : List C8).take 0)) := Lib.hid (fun w' _ => .inl ⟨rfl, rfl⟩)
          have HTP : Hid ((([] : List C8).take 0).length = 0 ∧ (([] : List C8).take 0).length ≤ 1000) := Lib.hid ⟨rfl, by simp⟩
          clear hpl
          go_region_held3 (fun w' => Below W.heap.size W w' ∧ w'.cell? ⟨w11.heap.size, 0, none⟩ = some (.int .u8 3) ∧ w'.cell? ⟨w11.heap.size, 1, none⟩ = some (.int .u8 12) ∧ w'.cell? ⟨w11.heap.size, 2, none⟩ = some (.int .u8 y00) ∧ w'.cell? ⟨w11.heap.size, 3, none⟩ = some (.int .u8 y01) ∧ w'.cell? ⟨w11.heap.size, 4, none⟩ = some (.int .u8 y02) ∧ w'.cell? ⟨w11.heap.size, 5, none⟩ = some (.int .u8 y03) ∧ w'.cell? ⟨w11.heap.size, 6, none⟩ = some (.int .u8 y04) ∧ w'.cell? ⟨w11.heap.size, 7, none⟩ = some (.int .u8 y05) ∧ w'.cell? ⟨w12.heap.size, 0, none⟩ = some (.int .u8 6) ∧ w'.cell? ⟨w12.heap.size, 1, none⟩ = some (.int .u8 1) ∧ w'.cell? ⟨w12.heap.size, 2, none⟩ = some (.int .u8 y10) ∧ w'.cell? ⟨w12.heap.size, 3, none⟩ = some (.int .u8 y11) ∧ w'.cell? ⟨w12.heap.size, 4, none⟩ = some (.int .u8 y12) ∧ w'.cell? ⟨w12.heap.size, 5, none⟩ = some (.int .u8 y13) ∧ w'.cell? ⟨w12.heap.size, 6, none⟩ = some (.int .u8 y14) ∧ w'.cell? ⟨w12.heap.size, 7, none⟩ = some (.int .u8 y15) ∧ w'.cell? ⟨w13.heap.size, 0, none⟩ = some (.int .u8 6) ∧ w'.cell? ⟨w13.heap.size, 1, none⟩ = some (.int .u8 2) ∧ w'.cell? ⟨w13.heap.size, 2, none⟩ = some (.int .u8 y20) ∧ w'.cell? ⟨w13.heap.size, 3, none⟩ = some (.int .u8 y21) ∧ w'.cell? ⟨w13.heap.size, 4, none⟩ = some (.int .u8 y22) ∧ w'.cell? ⟨w13.heap.size, 5, none⟩ = some (.int .u8 y23) ∧ w'.cell? ⟨w13.heap.size, 6, none⟩ = some (.int .u8 y24) ∧ w'.cell? ⟨w13.heap.size, 7, none⟩ = some (.int .u8 y25) ∧ w'.cell? ⟨w14.heap.size, 0, none⟩ = some (.int .u8 6) ∧ w'.cell? ⟨w14.heap.size, 1, none⟩ = some (.int .u8 3) ∧ w'.cell? ⟨w14.heap.size, 2, none⟩ = some (.int .u8 y30) ∧ w'.cell? ⟨w14.heap.size, 3, none⟩ = some (.int .u8 y31) ∧ w'.cell? ⟨w14.heap.size, 4, none⟩ = some (.int .u8 y32) ∧ w'.cell? ⟨w14.heap.size, 5, none⟩ = some (.int .u8 y33) ∧ w'.cell? ⟨w14.heap.size, 6, none⟩ = some (.int .u8 y34) ∧ w'.cell? ⟨w14.heap.size, 7, none⟩ = some (.int .u8 y35) ∧ w'.cell? ⟨w15.heap.size, 0, none⟩ = some (.int .u8 6) ∧ w'.cell? ⟨w15.heap.size, 1, none⟩ = some (.int .u8 6) ∧ w'.cell? ⟨w15.heap.size, 2, none⟩ = some (.int .u8 y40) ∧ w'.cell? ⟨w15.heap.size, 3, none⟩ = some (.int .u8 y41) ∧ w'.cell? ⟨w15.heap.size, 4, none⟩ = some (.int .u8 y42) ∧ w'.cell? ⟨w15.heap.size, 5, none⟩ = some (.int .u8 y43) ∧ w'.cell? ⟨w15.heap.size, 6, none⟩ = some (.int .u8 y44) ∧ w'.cell? ⟨w15.heap.size, 7, none⟩ = some (.int .u8 y45))
            (first | exact HALL.out _ ⟨rfl, rfl, rfl, Nat.le_refl _, fun _ _ => rfl⟩ | exact HALL.out _ B1 | exact HALL.out _ HBX.out | exact HALL.out _ (HBX.out.alloc HBX.out.size _))
            (first
              | (go_at_call 29; refine (ownC' _ (([] : List C8).take 0) 0 _ (HCM.out _ (And.left (a := Below W.heap.size W _) (by assumption))) HTP.out.1 HTP.out.2).mono ?_; rintro en wx ⟨⟨vO, rfl, hown⟩, hbx⟩; have HOwn : Hid (wx.ownsRow W.heap.size 24 8 vO 0 (flatC (([] : List C8).take 0))) := Lib.hid (own_base hown (Below.size (And.left (a := Below W.heap.size W _) (by assumption)))); have HBX : Hid (Below W.heap.size W wx) := Lib.hid (below_step (And.left (a := Below W.heap.size W _) (by assumption)) hbx); clear hown hbx)
              | (go_at_call 15; refine (mobility_any is nn hN (by omega) _ (KS.gk (K5.out.below (And.left (a := Below W.heap.size W _) (by assumption))))).mono ?_; rw [HM5.out]; rintro en wx ⟨rfl, hbx⟩; have HBX : Hid (Below W.heap.size W wx) := Lib.hid (below_step (And.left (a := Below W.heap.size W _) (by assumption)) hbx); try (have HOwn := Lib.hid (own_keep HOwn.out hbx)); clear hbx)
              | (go_at_call 25; refine (target_any 65000 nn (by omega) (by omega) hN (by omega) _ (KS.gk (K5.out.below (And.left (a := Below W.heap.size W _) (by assumption))))).mono ?_; rw [HM6.out]; rintro en wx ⟨rfl, hbx⟩; have HBX : Hid (Below W.heap.size W wx) := Lib.hid (below_step (And.left (a := Below W.heap.size W _) (by assumption)) hbx); try (have HOwn := Lib.hid (own_keep HOwn.out hbx)); clear hbx)
              | (refine step_append_lies _ rfl (.tmp 110) (.tmp 121) 35 rfl W.heap.size 24 i0 (cm 0 0 0 0 0 0 0 0) 8 8 Tryd.underlying35 hi0 hz0 hz1 hz2 rfl (by decide) vO 0 (flatC (([] : List C8).take 0)) rfl ?_ ⟨wx.heap.size, 0, none⟩ 7 7 (flatC [⟨3, 12, y00, y01, y02, y03, y04, y05⟩, ⟨6, 1, y10, y11, y12, y13, y14, y15⟩, ⟨6, 2, y20, y21, y22, y23, y24, y25⟩, ⟨6, 3, y30, y31, y32, y33, y34, y35⟩, ⟨6, 6, y40, y41, y42, y43, y44, y45⟩, ⟨6, 0, y50, y51, y52, y53, y54, y55⟩, ⟨0, 2, y60, y61, y62, y63, y64, y65⟩]) rfl rfl ?_ ?_ ?_ ?_ ?_ ?_ _ rfl ?_
                 · exact own_keep HOwn.out ((Below.refl _ wx).alloc (Nat.le_refl _) _)
                 · exact World.news_of_block (heap_alloc_new wx _)
                 · exact flatC_one _
                 · omega
                 · have := HP.out; unfold maxLen; omega
                 · have := HP.out; omega
                 · exact (HBX.out.alloc HBX.out.size _).size
                 intro g1 c1 wz own1 grow1 at1 lt1
                 have B1 := own_bel (own_keep HOwn.out ((Below.refl _ wx).alloc (Nat.le_refl _) _)) (HBX.out.alloc HBX.out.size _) grow1 (HBX.out.alloc HBX.out.size _).size (Nat.le_refl _)))
          all_goals
            go_wp2_with fail
            go_meet
            refine ⟨g1, c1, rfl, ?_, B1⟩
            rw [flatC_app, HX.out]
            exact own1
        · obtain ⟨go, co, hvo, hgo, hlo⟩ := own_some (n := O.length) HT15.out.own (by have := List.length_pos_iff.2 h0; omega)
          injection hvo with hv1 _ hv2
          subst hv1
          subst hv2
          have hcap := hlo
          have HCM : Hid (∀ w', Below W.heap.size W w' → Cms w' (.slice (some ⟨go, 0, none⟩) p oc) (O.take p)) := Lib.hid (fun w' hb => cms_take (own_cms (own_keep HT15.out.own hb)) hpl)
          have HTP : Hid ((O.take p).length = p ∧ (O.take p).length ≤ 1000) := Lib.hid ⟨by simp; omega, by simp; omega⟩
          have hle1 : p ≤ oc := Nat.le_trans hpl hcap
          clear hgo hlo h0
          go_region_held3 (fun w' => Below W.heap.size W w' ∧ w'.cell? ⟨w11.heap.size, 0, none⟩ = some (.int .u8 3) ∧ w'.cell? ⟨w11.heap.size, 1, none⟩ = some (.int .u8 12) ∧ w'.cell? ⟨w11.heap.size, 2, none⟩ = some (.int .u8 y00) ∧ w'.cell? ⟨w11.heap.size, 3, none⟩ = some (.int .u8 y01) ∧ w'.cell? ⟨w11.heap.size, 4, none⟩ = some (.int .u8 y02) ∧ w'.cell? ⟨w11.heap.size, 5, none⟩ = some (.int .u8 y03) ∧ w'.cell? ⟨w11.heap.size, 6, none⟩ = some (.int .u8 y04) ∧ w'.cell? ⟨w11.heap.size, 7, none⟩ = some (.int .u8 y05) ∧ w'.cell? ⟨w12.heap.size, 0, none⟩ = some (.int .u8 6) ∧ w'.cell? ⟨w12.heap.size, 1, none⟩ = some (.int .u8 1) ∧ w'.cell? ⟨w12.heap.size, 2, none⟩ = some (.int .u8 y10) ∧ w'.cell? ⟨w12.heap.size, 3, none⟩ = some (.int .u8 y11) ∧ w'.cell? ⟨w12.heap.size, 4, none⟩ = some (.int .u8 y12) ∧ w'.cell? ⟨w12.heap.size, 5, none⟩ = some (.int .u8 y13) ∧ w'.cell? ⟨w12.heap.size, 6, none⟩ = some (.int .u8 y14) ∧ w'.cell? ⟨w12.heap.size, 7, none⟩ = some (.int .u8 y15) ∧ w'.cell? ⟨w13.heap.size, 0, none⟩ = some (.int .u8 6) ∧ w'.cell? ⟨w13.heap.size, 1, none⟩ = some (.int .u8 2) ∧ w'.cell? ⟨w13.heap.size, 2, none⟩ = some (.int .u8 y20) ∧ w'.cell? ⟨w13.heap.size, 3, none⟩ = some (.int .u8 y21) ∧ w'.cell? ⟨w13.heap.size, 4, none⟩ = some (.int .u8 y22) ∧ w'.cell? ⟨w13.heap.size, 5, none⟩ = some (.int .u8 y23) ∧ w'.cell? ⟨w13.heap.size, 6, none⟩ = some (.int .u8 y24) ∧ w'.cell? ⟨w13.heap.size, 7, none⟩ = some (.int .u8 y25) ∧ w'.cell? ⟨w14.heap.size, 0, none⟩ = some (.int .u8 6) ∧ w'.cell? ⟨w14.heap.size, 1, none⟩ = some (.int .u8 3) ∧ w'.cell? ⟨w14.heap.size, 2, none⟩ = some (.int .u8 y30) ∧ w'.cell? ⟨w14.heap.size, 3, none⟩ = some (.int .u8 y31) ∧ w'.cell? ⟨w14.heap.size, 4, none⟩ = some (.int .u8 y32) ∧ w'.cell? ⟨w14.heap.size, 5, none⟩ = some (.int .u8 y33) ∧ w'.cell? ⟨w14.heap.size, 6, none⟩ = some (.int .u8 y34) ∧ w'.cell? ⟨w14.heap.size, 7, none⟩ = some (.int .u8 y35) ∧ w'.cell? ⟨w15.heap.size, 0, none⟩ = some (.int .u8 6) ∧ w'.cell? ⟨w15.heap.size, 1, none⟩ = some (.int .u8 6) ∧ w'.cell? ⟨w15.heap.size, 2, none⟩ = some (.int .u8 y40) ∧ w'.cell? ⟨w15.heap.size, 3, none⟩ = some (.int .u8 y41) ∧ w'.cell? ⟨w15.heap.size, 4, none⟩ = some (.int .u8 y42) ∧ w'.cell? ⟨w15.heap.size, 5, none⟩ = some (.int .u8 y43) ∧ w'.cell? ⟨w15.heap.size, 6, none⟩ = some (.int .u8 y44) ∧ w'.cell? ⟨w15.heap.size, 7, none⟩ = some (.int .u8 y45))
            (first | exact HALL.out _ ⟨rfl, rfl, rfl, Nat.le_refl _, fun _ _ => rfl⟩ | exact HALL.out _ B1 | exact HALL.out _ HBX.out | exact HALL.out _ (HBX.out.alloc HBX.out.size _))
            (first
              | (go_at_call 29; refine (ownC' _ (O.take p) p _ (HCM.out _ (And.left (a := Below W.heap.size W _) (by assumption))) HTP.out.1 HTP.out.2).mono ?_; rintro en wx ⟨⟨vO, rfl, hown⟩, hbx⟩; have HOwn : Hid (wx.ownsRow W.heap.size 24 8 vO p (flatC (O.take p))) := Lib.hid (own_base hown (Below.size (And.left (a := Below W.heap.size W _) (by assumption)))); have HBX : Hid (Below W.heap.size W wx) := Lib.hid (below_step (And.left (a := Below W.heap.size W _) (by assumption)) hbx); clear hown hbx)
              | (go_at_call 15; refine (mobility_any is nn hN (by omega) _ (KS.gk (K5.out.below (And.left (a := Below W.heap.size W _) (by assumption))))).mono ?_; rw [HM5.out]; rintro en wx ⟨rfl, hbx⟩; have HBX : Hid (Below W.heap.size W wx) := Lib.hid (below_step (And.left (a := Below W.heap.size W _) (by assumption)) hbx); try (have HOwn := Lib.hid (own_keep HOwn.out hbx)); clear hbx)
              | (go_at_call 25; refine (target_any 65000 nn (by omega) (by omega) hN (by omega) _ (KS.gk (K5.out.below (And.left (a := Below W.heap.size W _) (by assumption))))).mono ?_; rw [HM6.out]; rintro en wx ⟨rfl, hbx⟩; have HBX : Hid (Below W.heap.size W wx) := Lib.hid (below_step (And.left (a := Below W.heap.size W _) (by assumption)) hbx); try (have HOwn := Lib.hid (own_keep HOwn.out hbx)); clear hbx)
              | (refine step_append_lies _ rfl (.tmp 110) (.tmp 121) 35 rfl W.heap.size 24 i0 (cm 0 0 0 0 0 0 0 0) 8 8 Tryd.underlying35 hi0 hz0 hz1 hz2 rfl (by decide) vO p (flatC (O.take p)) rfl ?_ ⟨wx.heap.size, 0, none⟩ 7 7 (flatC [⟨3, 12, y00, y01, y02, y03, y04, y05⟩, ⟨6, 1, y10, y11, y12, y13, y14, y15⟩, ⟨6, 2, y20, y21, y22, y23, y24, y25⟩, ⟨6, 3, y30, y31, y32, y33, y34, y35⟩, ⟨6, 6, y40, y41, y42, y43, y44, y45⟩, ⟨6, 0, y50, y51, y52, y53, y54, y55⟩, ⟨0, 2, y60, y61, y62, y63, y64, y65⟩]) rfl rfl ?_ ?_ ?_ ?_ ?_ ?_ _ rfl ?_
                 · exact own_keep HOwn.out ((Below.refl _ wx).alloc (Nat.le_refl _) _)
                 · exact World.news_of_block (heap_alloc_new wx _)
                 · exact flatC_one _
                 · omega
                 · have := HP.out; unfold maxLen; omega
                 · have := HP.out; omega
                 · exact (HBX.out.alloc HBX.out.size _).size
                 intro g1 c1 wz own1 grow1 at1 lt1
                 have B1 := own_bel (own_keep HOwn.out ((Below.refl _ wx).alloc (Nat.le_refl _) _)) (HBX.out.alloc HBX.out.size _) grow1 (HBX.out.alloc HBX.out.size _).size (Nat.le_refl _)))
          all_goals
            go_wp2_with fail
            go_meet
            refine ⟨g1, c1, rfl, ?_, B1⟩
            rw [flatC_app, HX.out]
            exact own1
      case rest => as_aux_lemma =>
        obtain ⟨g1, c1, rfl, hown, hb⟩ := hcut
        have HB := Lib.hid hb
        have HOW := Lib.hid hown
        have HT16 := Lib.hid (HT15.out.below hb)
        have K6 := Lib.hid (K5.out.below hb)
        have HXl : Hid (X7.length = 7) := Lib.hid (by rw [HX.out]; rfl)
        clear hown hb
        go_upto_region 19 with fail
        go_cut [27] (fun v27 wx => wx.ownsRow W.heap.size 24 8 v27 (O.length + 7) (flatC (amid O p X7)) ∧ Below W.heap.size W wx)
        case first => as_aux_lemma =>
          by_cases h0 : O = []
          · subst h0
            obtain rfl : p = 0 := by simpa using hpl
            have hv9 := HT16.out.nil rfl
            injection hv9 with hv1 _ hv2
            subst hv1
            subst hv2
            clear hpl
            go_wp2_with (at_builtin; refine wpList_append_own_none rfl _ _ 35 rfl W.heap.size 24 i0 8 Tryd.underlying35 hi0 _ (0 + 7) _ rfl HOW.out rfl ?_)
            go_meet
            exact ⟨by have h9 := HOW.out; simpa [amid] using h9, HB.out⟩
          · obtain ⟨go, co, hvo, hgo, hlo⟩ := own_some (n := O.length) HT16.out.own (by have := List.length_pos_iff.2 h0; omega)
            injection hvo with hv1 _ hv2
            subst hv1
            subst hv2
            have hplx := hpl
            have HC := Lib.hid (own_cms HT16.out.own)
            by_cases hpc : p < oc
            · have hle1 : p ≤ oc := by omega
              clear hgo hlo h0
              go_wp2_with (at_builtin; refine wpList_append_own _ rfl _ _ 35 rfl W.heap.size 24 i0 (cm 0 0 0 0 0 0 0 0) 8 8 Tryd.underlying35 hi0 hz0 hz1 hz2 rfl (by decide) _ (p + 7) _ rfl HOW.out ⟨go, p * 8, none⟩ (O.length - p) (oc - p) (flatC (O.drop p)) rfl ?c1 ?c2 ?c3 ?c4 ?c5 ?c6 ?_)
              case c1 => rw [flatC_len, List.length_drop]
              case c2 => exact cms_drop HC.out hplx
              case c3 => exact flatC_one _
              case c4 => unfold maxLen; omega
              case c5 => omega
              case c6 => exact HB.out.size
              intro v' w4 hown' hgrow hnil
              have HF : Hid (w4.ownsRow W.heap.size 24 8 v' (O.length + 7) (flatC (amid O p X7)) ∧ Below W.heap.size W w4) := Lib.hid ⟨amid_own hown' hplx, own_bel HOW.out HB.out hgrow HB.out.size (Nat.le_refl _)⟩
              clear hown' hgrow hnil
              go_wp2_with fail
              go_meet
              exact HF.out
            · obtain rfl : p = oc := by omega
              clear hgo h0
              go_wp2_with (at_builtin; refine wpList_append_own _ rfl _ _ 35 rfl W.heap.size 24 i0 (cm 0 0 0 0 0 0 0 0) 8 8 Tryd.underlying35 hi0 hz0 hz1 hz2 rfl (by decide) _ (p + 7) _ rfl HOW.out _ 0 _ [] rfl rfl (fun j u hu => by simp at hu) (fun u hu => by cases hu) ?c4 ?c5 ?c6 ?_)
              case c4 => unfold maxLen; omega
              case c5 => omega
              case c6 => exact HB.out.size
              intro v' w4 hown' hgrow hnil
              have HF : Hid (w4.ownsRow W.heap.size 24 8 v' (O.length + 7) (flatC (amid O p X7)) ∧ Below W.heap.size W w4) := Lib.hid ⟨by first | exact amid_own hown' hplx | exact amid_own (by rw [show O.length - p = 0 by omega, show O.drop p = [] from List.drop_eq_nil_of_le (by omega)]; simpa [flatC] using hown') hplx, own_bel HOW.out HB.out hgrow HB.out.size (Nat.le_refl _)⟩
              clear hown' hgrow hnil
              go_wp2_with fail
              go_meet
              exact HF.out
        case rest => as_aux_lemma =>
          obtain ⟨hown, hb⟩ := hcut
          obtain ⟨ALL, hALL⟩ : ∃ ALL, amid O p X7 = ALL := ⟨_, rfl⟩
          have hE : X7 = seven is nn aa bb mm := by
            rw [HX.out]
            unfold seven
            rw [HL0.out, HL1.out, HL2.out, HL3.out, HL4.out, HL5.out, HL6.out]
          have hAl : ALL.length = O.length + 7 := by
            rw [← hALL]
            unfold amid
            have h9 := HXl.out
            simp only [List.length_append, List.length_take, List.length_drop]
            omega
          have hokA : ∀ x ∈ ALL, x.ok := by
            rw [← hALL, hE]
            exact amid_ok O p _ HK.out.2 seven_ok
          have HR1 : Hid (resN 2 (fun n => n % 65536) ALL = (bb, true)) := Lib.hid (by rw [← hALL, hE]; exact res_enc HK.out.1 hB (by omega))
          have HR2 : Hid (resM 4 24 ALL = (is, nn, true)) := Lib.hid (by rw [← hALL, hE]; exact res_lab HK.out.1 hN (by omega))
          have HR3 : Hid (resN 5 (fun n => n) ALL = (mm, true)) := Lib.hid (by rw [← hALL, hE]; exact res_imp HK.out.1 hM (by omega))
          have HR4 : Hid (resN 6 (fun n => n) ALL = (mm, true)) := Lib.hid (by rw [← hALL, hE]; exact res_rou HK.out.1 hM (by omega))
          have HR5 : Hid (resP 7 ALL = (aa, bb, true)) := Lib.hid (by rw [← hALL, hE]; exact res_ele HK.out.1 hA (by omega) hB (by omega))
          have HR6 : Hid (resM 3 32 ALL = (is, nn, true)) := Lib.hid (by rw [← hALL, hE]; exact res_mob HK.out.1 hN (by omega))
          have HR7 : Hid (tgts ALL = [nn]) := Lib.hid (by rw [← hALL, hE]; exact res_tgt HK.out.1 hN (by omega))
          rw [hALL, ← hAl] at hown
          have HA := Lib.hid (own_cms hown)
          have HOA := Lib.hid hokA
          have hA1k : ALL.length ≤ 1000 := by omega
          have K7 := Lib.hid (K5.out.below hb)
          have HT17 := Lib.hid (HT15.out.below hb)
          have HB2 := Lib.hid (Below.refl wc.heap.size wc)
          have qb : (bb != bb) = false := by simp
          have qm : (mm != mm) = false := by simp
          have qn : (nn != nn) = false := by simp
          have qa : (aa != aa) = false := by simp
          have qi : (is != is) = false := by simp
          clear hown hb hALL hE hokA hAl K5 K6 HT15 HT16 HALL HOW HB
          go_wp2_with fail
          refine (encapOf_any ALL hA1k HOA.out _ _ (HA.out.below HB2.out) (K7.out.gk.keep HB2.out)).mono ?_
          rw [HR1.out]
          rintro en w2 ⟨rfl, hb⟩
          have HB2 := Lib.hid (below_step HB2.out hb)
          clear hb
          go_wp2_with fail
          refine (labelOf_any ALL hA1k HOA.out _ _ (HA.out.below HB2.out) (K7.out.gk.keep HB2.out)).mono ?_
          rw [HR2.out]
          rintro en w2 ⟨rfl, hb⟩
          have HB2 := Lib.hid (below_step HB2.out hb)
          clear hb
          go_wp2_with fail
          refine (importOf_any ALL hA1k HOA.out _ _ (HA.out.below HB2.out) (K7.out.gk.keep HB2.out)).mono ?_
          rw [HR3.out]
          rintro en w2 ⟨rfl, hb⟩
          have HB2 := Lib.hid (below_step HB2.out hb)
          clear hb
          go_wp2_with fail
          refine (routerOf_any ALL hA1k HOA.out _ _ (HA.out.below HB2.out) (K7.out.gk.keep HB2.out)).mono ?_
          rw [HR4.out]
          rintro en w2 ⟨rfl, hb⟩
          have HB2 := Lib.hid (below_step HB2.out hb)
          clear hb
          go_wp2_with fail
          refine (electionOf_any ALL hA1k HOA.out _ _ (HA.out.below HB2.out) (K7.out.gk.keep HB2.out)).mono ?_
          rw [HR5.out]
          rintro en w2 ⟨rfl, hb⟩
          have HB2 := Lib.hid (below_step HB2.out hb)
          clear hb
          go_wp2_with fail
          refine (mobilityOf_any ALL hA1k HOA.out _ _ (HA.out.below HB2.out) (K7.out.gk.keep HB2.out)).mono ?_
          rw [HR6.out]
          rintro en w2 ⟨rfl, hb⟩
          have HB2 := Lib.hid (below_step HB2.out hb)
          clear hb
          go_wp2_with fail
          refine (targets_one ALL hA1k HOA.out _ _ (HA.out.below HB2.out) (K7.out.gk.keep HB2.out) nn HR7.out).mono ?_
          rintro en w2 ⟨vt, rfl, hat, hb⟩
          have HB2 := Lib.hid (below_step HB2.out hb)
          have HAT := Lib.hid hat
          clear hb hat
          go_wp2_with fail
          refine (sameU_yes _ _ [nn] _ (HAT.out.below ((Below.refl _ w2).alloc (Nat.le_refl _) _)) (.inr ⟨w2.heap.size, 1, rfl, ?_⟩) (by simp)).mono ?_
          · intro i hi
            obtain rfl : i = 0 := by simp at hi; omega
            exact (Has.new w2 28 #[.int .u32 nn]).cell 0
          rintro en w3 ⟨rfl, hb⟩
          have HB2 := Lib.hid (below_step (HB2.out.alloc HB2.out.size _) hb)
          clear hb HAT
          have hbx := (K7.out.below HB2.out).has (w11.heap.size, #[.int .u8 3, .int .u8 12, .int .u8 y00, .int .u8 y01, .int .u8 y02, .int .u8 y03, .int .u8 y04, .int .u8 y05]) (.tail _ (.tail _ (.tail _ (.tail _ (.head _)))))
          have fb0 := hbx.cell 0
          have fb1 := hbx.cell 1
          have fb2 := hbx.cell 2
          have fb3 := hbx.cell 3
          have fb4 := hbx.cell 4
          have fb5 := hbx.cell 5
          have fb6 := hbx.cell 6
          have fb7 := hbx.cell 7
          simp only [List.getElem?_toArray, List.getElem?_cons_zero, List.getElem?_cons_succ] at fb0 fb1 fb2 fb3 fb4 fb5 fb6 fb7
          clear hbx
          go_wp2_with fail
          refine (kind_any 3 12 y00 y01 y02 y03 y04 y05 _ (K7.out.gk.keep HB2.out) 2 (by simp)).mono ?_
          rw [show ((2 : Nat) : Int) = 2 from rfl]
          rintro en w3 ⟨rfl, hb⟩
          have HB2 := Lib.hid (below_step HB2.out hb)
          clear hb fb0 fb1 fb2 fb3 fb4 fb5 fb6 fb7
          have hbx := (K7.out.below HB2.out).has (w12.heap.size, #[.int .u8 6, .int .u8 1, .int .u8 y10, .int .u8 y11, .int .u8 y12, .int .u8 y13, .int .u8 y14, .int .u8 y15]) (.tail _ (.tail _ (.tail _ (.head _))))
          have fb0 := hbx.cell 0
          have fb1 := hbx.cell 1
          have fb2 := hbx.cell 2
          have fb3 := hbx.cell 3
          have fb4 := hbx.cell 4
          have fb5 := hbx.cell 5
          have fb6 := hbx.cell 6
          have fb7 := hbx.cell 7
          simp only [List.getElem?_toArray, List.getElem?_cons_zero, List.getElem?_cons_succ] at fb0 fb1 fb2 fb3 fb4 fb5 fb6 fb7
          clear hbx
          go_wp2_with fail
          refine (kind_any 6 1 y10 y11 y12 y13 y14 y15 _ (K7.out.gk.keep HB2.out) 4 (by simp)).mono ?_
          rw [show ((4 : Nat) : Int) = 4 from rfl]
          rintro en w3 ⟨rfl, hb⟩
          have HB2 := Lib.hid (below_step HB2.out hb)
          clear hb fb0 fb1 fb2 fb3 fb4 fb5 fb6 fb7
          have hbx := (K7.out.below HB2.out).has (w13.heap.size, #[.int .u8 6, .int .u8 2, .int .u8 y20, .int .u8 y21, .int .u8 y22, .int .u8 y23, .int .u8 y24, .int .u8 y25]) (.tail _ (.tail _ (.head _)))
          have fb0 := hbx.cell 0
          have fb1 := hbx.cell 1
          have fb2 := hbx.cell 2
          have fb3 := hbx.cell 3
          have fb4 := hbx.cell 4
          have fb5 := hbx.cell 5
          have fb6 := hbx.cell 6
          have fb7 := hbx.cell 7
          simp only [List.getElem?_toArray, List.getElem?_cons_zero, List.getElem?_cons_succ] at fb0 fb1 fb2 fb3 fb4 fb5 fb6 fb7
          clear hbx
          go_wp2_with fail
          refine (kind_any 6 2 y20 y21 y22 y23 y24 y25 _ (K7.out.gk.keep HB2.out) 5 (by simp)).mono ?_
          rw [show ((5 : Nat) : Int) = 5 from rfl]
          rintro en w3 ⟨rfl, hb⟩
          have HB2 := Lib.hid (below_step HB2.out hb)
          clear hb fb0 fb1 fb2 fb3 fb4 fb5 fb6 fb7
          have hbx := (K7.out.below HB2.out).has (w14.heap.size, #[.int .u8 6, .int .u8 3, .int .u8 y30, .int .u8 y31, .int .u8 y32, .int .u8 y33, .int .u8 y34, .int .u8 y35]) (.tail _ (.head _))
          have fb0 := hbx.cell 0
          have fb1 := hbx.cell 1
          have fb2 := hbx.cell 2
          have fb3 := hbx.cell 3
          have fb4 := hbx.cell 4
          have fb5 := hbx.cell 5
          have fb6 := hbx.cell 6
          have fb7 := hbx.cell 7
          simp only [List.getElem?_toArray, List.getElem?_cons_zero, List.getElem?_cons_succ] at fb0 fb1 fb2 fb3 fb4 fb5 fb6 fb7
          clear hbx
          go_wp2_with fail
          refine (kind_any 6 3 y30 y31 y32 y33 y34 y35 _ (K7.out.gk.keep HB2.out) 6 (by simp)).mono ?_
          rw [show ((6 : Nat) : Int) = 6 from rfl]
          rintro en w3 ⟨rfl, hb⟩
          have HB2 := Lib.hid (below_step HB2.out hb)
          clear hb fb0 fb1 fb2 fb3 fb4 fb5 fb6 fb7
          have hbx := (K7.out.below HB2.out).has (w15.heap.size, #[.int .u8 6, .int .u8 6, .int .u8 y40, .int .u8 y41, .int .u8 y42, .int .u8 y43, .int .u8 y44, .int .u8 y45]) (.head _)
          have fb0 := hbx.cell 0
          have fb1 := hbx.cell 1
          have fb2 := hbx.cell 2
          have fb3 := hbx.cell 3
          have fb4 := hbx.cell 4
          have fb5 := hbx.cell 5
          have fb6 := hbx.cell 6
          have fb7 := hbx.cell 7
          simp only [List.getElem?_toArray, List.getElem?_cons_zero, List.getElem?_cons_succ] at fb0 fb1 fb2 fb3 fb4 fb5 fb6 fb7
          clear hbx
          go_wp2_with fail
          refine (kind_any 6 6 y40 y41 y42 y43 y44 y45 _ (K7.out.gk.keep HB2.out) 7 (by simp)).mono ?_
          rw [show ((7 : Nat) : Int) = 7 from rfl]
          rintro en w3 ⟨rfl, hb⟩
          have HB2 := Lib.hid (below_step HB2.out hb)
          clear hb fb0 fb1 fb2 fb3 fb4 fb5 fb6 fb7
          go_wp2_with fail
          refine (targets_none O (by omega) HK.out.2 _ _ (own_cms (HT17.out.below HB2.out).own) (K7.out.gk.keep HB2.out) (oth_tgts O HK.out.1)).mono ?_
          rintro en w2 ⟨vt, rfl, ⟨At, ct, rfl⟩, hb⟩
          have HB2 := Lib.hid (below_step HB2.out hb)
          clear hb
          go_wp2_with fail
          go_ret
          exact ⟨rfl, (K7.out.below HB2.out).bel⟩

end Go.Proofs.YtofbgpgngplgpaaDoor
