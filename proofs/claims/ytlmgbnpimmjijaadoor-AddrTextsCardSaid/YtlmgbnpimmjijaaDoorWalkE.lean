/- AddrTexts: the walk. -/
import Derived.Test.YtlmgbnpimmjijaaDoorEqEsi
import Derived.Test.YtlmgbnpimmjijaaDoorWalkD
import Derived.Outline
import Derived.Deep.DeepCutAuto
import Derived.Deep.CutBlock
import Derived.WalkSpells
namespace Go.Proofs.YtlmgbnpimmjijaaDoor
open Go.RowKit

/-- The world behind the two boxes. -/
abbrev boxed (w : World) (pip pl a b c d e f g h i j : Int) : World := (w.alloc (pfxb pip pl)).alloc (esib a b c d e f g h i j)

/-- Later than that. -/
structure After (w : World) (pip pl a b c d e f g h i j : Int) (W : World) : Prop where
  bel : Below (boxed w pip pl a b c d e f g h i j).heap.size (boxed w pip pl a b c d e f g h i j) W

section
variable {w W : World} {pip pl a b c d e f g h i j : Int}

theorem After.all (H : After w pip pl a b c d e f g h i j W) : Below w.heap.size w W :=
  (((Below.refl _ w).alloc (Nat.le_refl _) _).alloc (by simp) _).trans (H.bel.mono (by simp; omega))

theorem After.next {W' : World} (H : After w pip pl a b c d e f g h i j W) (hb : Below W.heap.size W W') : After w pip pl a b c d e f g h i j W' :=
  ⟨H.bel.trans (hb.mono H.bel.size)⟩

theorem After.pfx (H : After w pip pl a b c d e f g h i j W) : W.cell? ⟨w.heap.size, 0, none⟩ = some (.int .u32 pip) ∧ W.cell? ⟨w.heap.size, 1, none⟩ = some (.int .i64 pl) :=
  ⟨(H.bel.cell (p := ⟨w.heap.size, 0, none⟩) (by simp; omega)).trans (by simp [go_sem]), (H.bel.cell (p := ⟨w.heap.size, 1, none⟩) (by simp; omega)).trans (by simp [go_sem])⟩

theorem After.esi (H : After w pip pl a b c d e f g h i j W) : W.cell? ⟨w.heap.size + 1, 0, none⟩ = some (.int .u8 a) ∧ W.cell? ⟨w.heap.size + 1, 1, none⟩ = some (.int .u8 b) ∧ W.cell? ⟨w.heap.size + 1, 2, none⟩ = some (.int .u8 c) ∧ W.cell? ⟨w.heap.size + 1, 3, none⟩ = some (.int .u8 d) ∧ W.cell? ⟨w.heap.size + 1, 4, none⟩ = some (.int .u8 e) ∧ W.cell? ⟨w.heap.size + 1, 5, none⟩ = some (.int .u8 f) ∧ W.cell? ⟨w.heap.size + 1, 6, none⟩ = some (.int .u8 g) ∧ W.cell? ⟨w.heap.size + 1, 7, none⟩ = some (.int .u8 h) ∧ W.cell? ⟨w.heap.size + 1, 8, none⟩ = some (.int .u8 i) ∧ W.cell? ⟨w.heap.size + 1, 9, none⟩ = some (.int .u8 j) := by
  refine ⟨?_, ?_, ?_, ?_, ?_, ?_, ?_, ?_, ?_, ?_⟩ <;> (rw [H.bel.cell (by simp)]; simp [go_sem])
end

theorem cell_lt {w : World} {p : Addr} {v : Value} (h : w.cell? p = some v) : p.block < w.heap.size := by
  rcases Nat.lt_or_ge p.block w.heap.size with h' | h'
  · exact h'
  · simp [World.cell?, Array.getElem?_eq_none h'] at h

theorem byte_range {xs : List Int} (h : ∀ v ∈ xs, 0 ≤ v ∧ v ≤ 255) (k : Nat) : 0 ≤ byteAt xs k ∧ byteAt xs k ≤ 255 := by
  unfold byteAt
  cases hk : xs[k]? with
  | none => simp
  | some v => exact h v (List.mem_of_getElem? hk)

/-- What MACText and ParseMAC of its text come to. -/
def MT (m : Int) (x : ByteArray) (y : Int) : Prop := (m ≤ 281474976710655 ∧ x = ⟨(coP (macL m) (List.finRange 6)).toArray⟩ ∧ y = 0) ∨ (281474976710655 < m ∧ x = ⟨#[]⟩ ∧ y = 2)
def MC (m y u r : Int) : Prop := (m ≤ 281474976710655 ∧ y = 0 ∧ u = m ∧ r = 0) ∨ (281474976710655 < m ∧ y = 2 ∧ u = 0 ∧ r = 19)
/-- What Clean comes to. -/
def CQ (pip pl q l j : Int) : Prop := (vld pl = true ∧ q = cl pip pl ∧ l = pl ∧ j = 0) ∨ (vld pl = false ∧ q = 0 ∧ l = 0 ∧ j = 2)

theorem CQ.fine {pip pl q l j : Int} (h : CQ pip pl q l j) : vld l = true ∧ 0 ≤ q ∧ q < 4294967296 ∧ (cl q l == q) = true := by
  rcases h with ⟨hv, rfl, rfl, _⟩ | ⟨_, rfl, rfl, _⟩
  · exact ⟨hv, (cl_range _ _).1, (cl_range _ _).2, by rw [cl_cl hv]; simp⟩
  · exact ⟨by decide, by omega, by omega, by decide +kernel⟩

/-- A box with a prefix. -/
def PB (w : World) (b : Nat) (q l : Int) : Prop := w.cell? ⟨b, 0, none⟩ = some (.int .u32 q) ∧ w.cell? ⟨b, 1, none⟩ = some (.int .i64 l)
theorem PB.keep {w w' : World} {b : Nat} {q l : Int} (h : PB w b q l) (hb : Below w.heap.size w w') : PB w' b q l := ⟨cell_keep h.1 hb, cell_keep h.2 hb⟩
/-- A box with an identifier. -/
def EB (w : World) (x : Nat) (a b c d e f g h i j : Int) : Prop := w.cell? ⟨x, 0, none⟩ = some (.int .u8 a) ∧ w.cell? ⟨x, 1, none⟩ = some (.int .u8 b) ∧ w.cell? ⟨x, 2, none⟩ = some (.int .u8 c) ∧ w.cell? ⟨x, 3, none⟩ = some (.int .u8 d) ∧ w.cell? ⟨x, 4, none⟩ = some (.int .u8 e) ∧ w.cell? ⟨x, 5, none⟩ = some (.int .u8 f) ∧ w.cell? ⟨x, 6, none⟩ = some (.int .u8 g) ∧ w.cell? ⟨x, 7, none⟩ = some (.int .u8 h) ∧ w.cell? ⟨x, 8, none⟩ = some (.int .u8 i) ∧ w.cell? ⟨x, 9, none⟩ = some (.int .u8 j)
theorem EB.new (w : World) (a b c d e f g h i j : Int) : EB (w.alloc (esib a b c d e f g h i j)) w.heap.size a b c d e f g h i j := by
  refine ⟨?_, ?_, ?_, ?_, ?_, ?_, ?_, ?_, ?_, ?_⟩ <;> simp [go_sem]
theorem PB.new (w : World) (q l : Int) : PB (w.alloc (pfxb q l)) w.heap.size q l := ⟨by simp [go_sem], by simp [go_sem]⟩

set_option maxRecDepth 100000 in
set_option maxHeartbeats 4000000 in
theorem texts_short (ip m pip pl a b c d e f g h i j : Int) (hi0 : 0 ≤ ip) (hi1 : ip < 4294967296) (hr : ∀ v ∈ [a, b, c, d, e, f, g, h, i, j], 0 ≤ v ∧ v ≤ 255) (s : ByteArray) (hs : ¬ 200 < s.size) (w : World) (hg : Glb w) (hm0 : 0 ≤ m) (hmw : m < 18446744073709551616) (hlw0 : -9223372036854775808 ≤ pl) (hlw1 : pl ≤ 9223372036854775807) :
    Calls Tryd.prog 4 #[.int .u32 ip, .int .u64 m, pfx pip pl, esi a b c d e f g h i j, .string s] w fun en W' => en = .returned (.bool true) ∧ Below w.heap.size w W' := by
  have HS : Hid (s.size ≤ 200) := Lib.hid (by omega)
  have HR := Lib.hid hr
  clear hr
  have HG := Lib.hid hg
  clear hg
  go_enter Tryd.func4, Tryd.ntmps4
  go_wp2_with fail
  refine (lives_any _).mono ?_
  rintro en W ⟨rfl, rfl⟩
  have H : After w pip pl a b c d e f g h i j (boxed w pip pl a b c d e f g h i j) := ⟨Below.refl _ _⟩
  go_wp2_with fail
  refine (ipText_b ip hi0 hi1 _ (HG.out.keep H.all).pow).mono ?_
  rintro en W1 ⟨rfl, hb⟩
  have H1 := H.next hb
  clear H hb
  go_wp2_with fail
  refine (ip_pair ip hi0 hi1 _ (HG.out.keep H1.all)).mono ?_
  rintro en W2 ⟨rfl, hb⟩
  have H2 := H1.next hb
  clear H1 hb
  obtain ⟨c0, c1, c2, c3, c4, c5, c6, c7, c8, c9⟩ := H2.esi
  go_wp2_with fail
  refine (esiText_b a b c d e f g h i j (byte_range HR.out) _ (HG.out.keep H2.all).pow).mono ?_
  rintro en W3 ⟨rfl, hb⟩
  have H3 := H2.next hb
  clear H2 hb c0 c1 c2 c3 c4 c5 c6 c7 c8 c9
  go_wp2_with fail
  refine (esi_pair a b c d e f g h i j HR.out _ (HG.out.keep H3.all)).mono ?_
  rintro en W4 ⟨rfl, hb⟩
  have H4 := H3.next hb
  clear H3 hb
  have cs := H4.esi
  have hq := fun w => esi_self w a b c d e f g h i j
  have hlt : w.heap.size + 1 < W4.heap.size := by
    have := H4.bel.size
    simp at this
    omega
  obtain ⟨c0, c1, c2, c3, c4, c5, c6, c7, c8, c9⟩ := cs
  go_upto_region 9 with fail
  have H5 := H4.next ((Below.refl _ W4).alloc (Nat.le_refl _) (esib a b c d e f g h i j))
  have HH5 := Lib.hid H5
  clear H4 H5 hlt hq c0 c1 c2 c3 c4 c5 c6 c7 c8 c9
  go_cut [15, 16] (fun s15 s16 wx => ∃ (x : ByteArray) (y : Int), s15 = .string x ∧ s16 = .int .i64 y ∧ After w pip pl a b c d e f g h i j wx ∧ MT m x y)
  case first => as_aux_lemma =>
    by_cases hm1 : m ≤ 281474976710655
    · go_wp2_with fail
      refine (macText_yes m hm0 hm1 _ (HG.out.keep HH5.out.all).pow).mono ?_
      rintro en W6 ⟨rfl, hb⟩
      have HH6 := Lib.hid (HH5.out.next hb)
      clear hb HH5
      go_wp2_with fail
      go_meet
      exact ⟨_, _, rfl, rfl, HH6.out, .inl ⟨hm1, rfl, rfl⟩⟩
    · go_wp2_with fail
      refine (macText_no m (by omega) _).mono ?_
      rintro en W6 ⟨rfl, hb⟩
      have HH6 := Lib.hid (HH5.out.next hb)
      clear hb HH5
      go_wp2_with fail
      go_meet
      exact ⟨_, _, rfl, rfl, HH6.out, .inr ⟨by omega, rfl, rfl⟩⟩
  case rest => as_aux_lemma =>
    obtain ⟨x, y, rfl, rfl, h6, hmt⟩ := hcut
    have HH6 := Lib.hid h6
    have HMT := Lib.hid hmt
    clear h6 hmt HH5
    go_upto_region 10 with fail
    go_cut [17, 18] (fun s17 s18 wx => ∃ (u r : Int), s17 = .int .u64 u ∧ s18 = .int .i64 r ∧ After w pip pl a b c d e f g h i j wx ∧ MC m y u r)
    case first => as_aux_lemma =>
      rcases HMT.out with ⟨hm1, rfl, rfl⟩ | ⟨hm1, rfl, rfl⟩
      · go_wp2_with fail
        refine (mac_pair m hm0 hm1 _ (HG.out.keep HH6.out.all)).mono ?_
        rintro en W7 ⟨rfl, hb⟩
        have HH7 := Lib.hid (HH6.out.next hb)
        clear hb HH6
        go_wp2_with fail
        go_meet
        exact ⟨_, _, rfl, rfl, HH7.out, .inl ⟨hm1, rfl, rfl, rfl⟩⟩
      · go_wp2_with fail
        refine (parseMAC_no [] (by simp) _ (HG.out.keep HH6.out.all).mac (by decide +kernel)).mono ?_
        rintro en W7 ⟨rfl, hb⟩
        have HH7 := Lib.hid (HH6.out.next hb)
        clear hb HH6
        go_wp2_with fail
        go_meet
        exact ⟨_, _, rfl, rfl, HH7.out, .inr ⟨hm1, rfl, rfl, rfl⟩⟩
    case rest => as_aux_lemma =>
      obtain ⟨u, r, rfl, rfl, h7, hmc⟩ := hcut
      have HH7 := Lib.hid h7
      have HMC := Lib.hid hmc
      clear h7 hmc HH6 HMT
      go_upto_region 11 with fail
      go_cut [19, 20] (fun s19 s20 wx => ∃ (bq : Nat) (q0 l0 j0 : Int), s19 = .pointer (some ⟨bq, 0, none⟩) ∧ s20 = .int .i64 j0 ∧ After w pip pl a b c d e f g h i j wx ∧ PB wx bq q0 l0 ∧ CQ pip pl q0 l0 j0)
      case first => as_aux_lemma =>
        have c := HH7.out.pfx
        obtain ⟨c0, c1⟩ := c
        by_cases hv : vld pl = true
        · go_wp2_with fail
          refine (clean_yes pip pl hv _).mono ?_
          rintro en W8 ⟨rfl, hb⟩
          have HH8 := Lib.hid (HH7.out.next hb.below)
          have HV := Lib.hid hv
          clear hb HH7 c0 c1 hv
          generalize hq : cl pip pl = q0
          have HQ := Lib.hid hq
          clear hq
          go_wp2_with fail
          go_meet
          exact ⟨W8.heap.size, q0, pl, 0, rfl, rfl, HH8.out.next ((Below.refl _ W8).alloc (Nat.le_refl _) (pfxb q0 pl)), PB.new W8 q0 pl, .inl ⟨HV.out, HQ.out.symm, rfl, rfl⟩⟩
        · have hv' : vld pl = false := by simpa using hv
          go_wp2_with fail
          refine (clean_no pip pl hv' _).mono ?_
          rintro en W8 ⟨rfl, hb⟩
          have HH8 := Lib.hid (HH7.out.next hb.below)
          have HV := Lib.hid hv'
          clear hb HH7 c0 c1 hv hv'
          go_wp2_with fail
          go_meet
          exact ⟨W8.heap.size, 0, 0, 2, rfl, rfl, HH8.out.next ((Below.refl _ W8).alloc (Nat.le_refl _) (pfxb 0 0)), PB.new W8 0 0, .inr ⟨HV.out, rfl, rfl, rfl⟩⟩
      case rest => as_aux_lemma =>
        obtain ⟨bq, q0, l0, j0, rfl, rfl, h8, hpb, hcq⟩ := hcut
        obtain ⟨hvl, hq0, hq1, hcl⟩ := hcq.fine
        have hll := vld_iff.1 hvl
        have HH8 := Lib.hid h8
        have HPB := Lib.hid hpb
        have HCQ := Lib.hid hcq
        have HVL := Lib.hid hvl
        have HCL := Lib.hid hcl
        clear h8 hpb hcq hvl hcl HH7
        go_upto_region 12 with fail
        go_cut [21, 22] (fun s21 s22 wx => s21 = .string ⟨(pfxT q0 l0).toArray⟩ ∧ s22 = .int .i64 0 ∧ After w pip pl a b c d e f g h i j wx ∧ PB wx bq q0 l0)
        case first => as_aux_lemma =>
          have d0 := HPB.out.1
          have d1 := HPB.out.2
          go_wp2_with fail
          refine (pfxText_yes q0 l0 HVL.out hq0 hq1 _ (HG.out.keep HH8.out.all).pow).mono ?_
          rintro en W9 ⟨rfl, hb⟩
          have HH9 := Lib.hid (HH8.out.next hb)
          have HPB9 := Lib.hid (HPB.out.keep hb)
          clear hb HH8 HPB d0 d1
          go_wp2_with fail
          go_meet
          exact ⟨rfl, rfl, HH9.out, HPB9.out⟩
        case rest => as_aux_lemma =>
          obtain ⟨rfl, rfl, h9, hpb⟩ := hcut
          have HH9 := Lib.hid h9
          have HPB9 := Lib.hid hpb
          clear h9 hpb HH8 HPB
          go_upto_region 13 with fail
          go_cut [23, 24] (fun s23 s24 wx => ∃ bd : Nat, s23 = .pointer (some ⟨bd, 0, none⟩) ∧ s24 = .int .i64 0 ∧ After w pip pl a b c d e f g h i j wx ∧ PB wx bq q0 l0 ∧ PB wx bd q0 l0)
          case first => as_aux_lemma =>
            go_wp2_with fail
            refine (pfx_pair q0 l0 hq0 hq1 hll.1 hll.2 HCL.out _ (HG.out.keep HH9.out.all)).mono ?_
            rintro en W10 ⟨rfl, hb⟩
            have HH10 := Lib.hid (HH9.out.next hb)
            have HPB10 := Lib.hid (HPB9.out.keep hb)
            clear hb HH9 HPB9
            go_wp2_with fail
            go_meet
            exact ⟨W10.heap.size, rfl, rfl, HH10.out.next ((Below.refl _ W10).alloc (Nat.le_refl _) (pfxb q0 l0)), HPB10.out.keep ((Below.refl _ W10).alloc (Nat.le_refl _) (pfxb q0 l0)), PB.new W10 q0 l0⟩
          case rest => as_aux_lemma =>
            obtain ⟨bd, rfl, rfl, h10, hpb, hpd⟩ := hcut
            have HH10 := Lib.hid h10
            have HPB10 := Lib.hid hpb
            have HPD10 := Lib.hid hpd
            clear h10 hpb hpd HH9 HPB9
            go_upto_region 14 with fail
            go_cut [142] (fun s142 wx => s142 = .bool false ∧ After w pip pl a b c d e f g h i j wx)
            case first => as_aux_lemma =>
              have c := HH10.out.pfx
              obtain ⟨c0, c1⟩ := c
              have d0 := HPB10.out.1
              have d1 := HPB10.out.2
              have e0 := HPD10.out.1
              have e1 := HPD10.out.2
              rcases HMC.out with ⟨hm1, rfl, rfl, rfl⟩ | ⟨hm1, rfl, rfl, rfl⟩
              all_goals rcases HCQ.out with ⟨hv, hqe, rfl, rfl⟩ | ⟨hv, rfl, rfl, rfl⟩
              · clear hqe
                go_wp2_with fail
                go_meet
                exact ⟨rfl, HH10.out⟩
              · by_cases hp0 : 0 ≤ pl
                · have hp1 : decide (pl ≤ 32) = false := by simp [vld] at hv; simp; omega
                  clear hv
                  go_wp2_with fail
                  go_meet
                  exact ⟨rfl, HH10.out⟩
                · have hp0' : pl < 0 := by omega
                  clear hv hp0
                  go_wp2_with fail
                  go_meet
                  exact ⟨rfl, HH10.out⟩
              · clear hqe
                have hmx : decide (m ≤ 281474976710655) = false := by simp; omega
                go_wp2_with fail
                go_meet
                exact ⟨rfl, HH10.out⟩
              · have hmx : decide (m ≤ 281474976710655) = false := by simp; omega
                by_cases hp0 : 0 ≤ pl
                · have hp1 : decide (pl ≤ 32) = false := by simp [vld] at hv; simp; omega
                  clear hv
                  go_wp2_with fail
                  go_meet
                  exact ⟨rfl, HH10.out⟩
                · have hp0' : pl < 0 := by omega
                  clear hv hp0
                  go_wp2_with fail
                  go_meet
                  exact ⟨rfl, HH10.out⟩
            case rest => as_aux_lemma =>
              obtain ⟨rfl, h10⟩ := hcut
              have HH11 := Lib.hid h10
              clear h10 HH10 HPB10 HPD10
              go_upto_region 16 with fail
              go_cut [25, 26] (fun s25 s26 wx => ∃ n r : Int, s25 = .int .u32 n ∧ s26 = .int .i64 r ∧ After w pip pl a b c d e f g h i j wx ∧ ((r = 0 ∧ 0 ≤ n ∧ n < 4294967296 ∧ (⟨(ipT (n / 16777216) (n / 65536 % 256) (n / 256 % 256) (n % 256)).toArray⟩ : ByteArray) = s) ∨ r = 19))
              case first => as_aux_lemma =>
                go_wp2_with fail
                refine (parseIP_s s HS.out _ (HG.out.keep HH11.out.all)).mono ?_
                rintro en W13 ⟨⟨n, rfl, hn0, hn1, hn2⟩ | rfl, hb⟩
                · have HH13 := Lib.hid (HH11.out.next hb)
                  have HN2 := Lib.hid hn2
                  clear hb HH11 hn2
                  go_wp2_with fail
                  go_meet
                  exact ⟨_, _, rfl, rfl, HH13.out, .inl ⟨rfl, hn0, hn1, HN2.out⟩⟩
                · have HH13 := Lib.hid (HH11.out.next hb)
                  clear hb HH11
                  go_wp2_with fail
                  go_meet
                  exact ⟨_, _, rfl, rfl, HH13.out, .inr rfl⟩
              case rest => as_aux_lemma =>
                obtain ⟨n, r16, rfl, rfl, h13, hr⟩ := hcut
                have HH13 := Lib.hid h13
                have HR16 := Lib.hid hr
                clear h13 hr HH11
                go_upto_region 17 with fail
                go_cut [155] (fun s155 wx => s155 = .bool false ∧ After w pip pl a b c d e f g h i j wx)
                case first => as_aux_lemma =>
                  rcases HR16.out with ⟨rfl, hn0, hn1, hn2⟩ | rfl
                  · have HN2 := Lib.hid hn2
                    clear hn2
                    go_wp2_with fail
                    refine (ipText_b n hn0 hn1 _ (HG.out.keep HH13.out.all).pow).mono ?_
                    rintro en W14 ⟨rfl, hb⟩
                    have HH14 := Lib.hid (HH13.out.next hb)
                    clear hb HH13
                    rw [HN2.out]
                    go_wp2_with fail
                    go_meet
                    exact ⟨rfl, HH14.out⟩
                  · go_wp2_with fail
                    go_meet
                    exact ⟨rfl, HH13.out⟩
                case rest => as_aux_lemma =>
                  obtain ⟨rfl, h14⟩ := hcut
                  have HH14 := Lib.hid h14
                  clear h14 HH13 HR16
                  go_upto_region 19 with fail
                  go_cut [27, 28] (fun s27 s28 wx => ∃ (be : Nat) (r : Int), s27 = .pointer (some ⟨be, 0, none⟩) ∧ s28 = .int .i64 r ∧ After w pip pl a b c d e f g h i j wx ∧ ((r = 0 ∧ ∃ a0 a1 a2 a3 a4 a5 a6 a7 a8 a9 : Int, EB wx be a0 a1 a2 a3 a4 a5 a6 a7 a8 a9 ∧ (∀ v ∈ [a0, a1, a2, a3, a4, a5, a6, a7, a8, a9], 0 ≤ v ∧ v ≤ 255) ∧ (⟨(coP [a0, a1, a2, a3, a4, a5, a6, a7, a8, a9] (List.finRange 10)).toArray⟩ : ByteArray) = lowS s) ∨ r = 19))
                  case first => as_aux_lemma =>
                    go_wp2_with fail
                    refine (parseESI_s s HS.out _ (HG.out.keep HH14.out.all)).mono ?_
                    rintro en W15 ⟨⟨a0, a1, a2, a3, a4, a5, a6, a7, a8, a9, rfl, hby, hn2⟩ | rfl, hb⟩
                    · have HH15 := Lib.hid (HH14.out.next hb)
                      have HN2 := Lib.hid hn2
                      have HBy := Lib.hid hby
                      clear hb HH14 hn2 hby
                      go_wp2_with fail
                      go_meet
                      exact ⟨W15.heap.size, 0, rfl, rfl, HH15.out.next ((Below.refl _ W15).alloc (Nat.le_refl _) (esib a0 a1 a2 a3 a4 a5 a6 a7 a8 a9)), .inl ⟨rfl, a0, a1, a2, a3, a4, a5, a6, a7, a8, a9, EB.new W15 a0 a1 a2 a3 a4 a5 a6 a7 a8 a9, HBy.out, HN2.out⟩⟩
                    · have HH15 := Lib.hid (HH14.out.next hb)
                      clear hb HH14
                      go_wp2_with fail
                      go_meet
                      exact ⟨W15.heap.size, 19, rfl, rfl, HH15.out.next ((Below.refl _ W15).alloc (Nat.le_refl _) (esib 0 0 0 0 0 0 0 0 0 0)), .inr rfl⟩
                  case rest => as_aux_lemma =>
                    obtain ⟨be, r19, rfl, rfl, h15, hr⟩ := hcut
                    have HH15 := Lib.hid h15
                    have HR19 := Lib.hid hr
                    clear h15 hr HH14
                    go_upto_region 20 with fail
                    go_cut [169] (fun s169 wx => s169 = .bool false ∧ After w pip pl a b c d e f g h i j wx)
                    case first => as_aux_lemma =>
                      rcases HR19.out with ⟨rfl, a0, a1, a2, a3, a4, a5, a6, a7, a8, a9, heb, hby, hn2⟩ | rfl
                      · have HN2 := Lib.hid hn2
                        have HBy := Lib.hid hby
                        obtain ⟨k0, k1, k2, k3, k4, k5, k6, k7, k8, k9⟩ := heb
                        clear hn2 hby
                        go_wp2_with fail
                        refine (esiText_b a0 a1 a2 a3 a4 a5 a6 a7 a8 a9 (byte_range HBy.out) _ (HG.out.keep HH15.out.all).pow).mono ?_
                        rintro en W16 ⟨rfl, hb⟩
                        have HH16 := Lib.hid (HH15.out.next hb)
                        clear hb HH15 k0 k1 k2 k3 k4 k5 k6 k7 k8 k9
                        rw [HN2.out]
                        go_wp2_with fail
                        refine (lower_b s (Nat.le_trans HS.out (by omega)) _).mono ?_
                        rintro en W17 ⟨rfl, hb⟩
                        have HH17 := Lib.hid (HH16.out.next hb)
                        clear hb HH16
                        go_wp2_with fail
                        go_meet
                        exact ⟨rfl, HH17.out⟩
                      · go_wp2_with fail
                        go_meet
                        exact ⟨rfl, HH15.out⟩
                    case rest => as_aux_lemma =>
                      obtain ⟨rfl, h16⟩ := hcut
                      have HH16 := Lib.hid h16
                      clear h16 HH15 HR19
                      go_upto_region 22 with fail
                      go_cut [29, 30] (fun s29 s30 wx => ∃ (bp : Nat) (r : Int), s29 = .pointer (some ⟨bp, 0, none⟩) ∧ s30 = .int .i64 r ∧ After w pip pl a b c d e f g h i j wx ∧ ((r = 0 ∧ ∃ n y : Int, PB wx bp n y ∧ 0 ≤ n ∧ n < 4294967296 ∧ vld y = true ∧ (⟨(pfxT n y).toArray⟩ : ByteArray) = s) ∨ r ≠ 0))
                      case first => as_aux_lemma =>
                        go_wp2_with fail
                        refine (parsePfx_s s HS.out _ (HG.out.keep HH16.out.all)).mono ?_
                        rintro en W17 ⟨⟨n2, y2, rfl, hn0, hn1, hvy, hn2⟩ | ⟨r2, hr2, rfl⟩, hb⟩
                        · have HH17 := Lib.hid (HH16.out.next hb)
                          have HN2 := Lib.hid hn2
                          have HVy := Lib.hid hvy
                          clear hb HH16 hn2 hvy
                          go_wp2_with fail
                          go_meet
                          exact ⟨W17.heap.size, 0, rfl, rfl, HH17.out.next ((Below.refl _ W17).alloc (Nat.le_refl _) (pfxb n2 y2)), .inl ⟨rfl, n2, y2, PB.new W17 n2 y2, hn0, hn1, HVy.out, HN2.out⟩⟩
                        · have HH17 := Lib.hid (HH16.out.next hb)
                          have HR2 := Lib.hid hr2
                          clear hb HH16 hr2
                          go_wp2_with fail
                          go_meet
                          exact ⟨W17.heap.size, r2, rfl, rfl, HH17.out.next ((Below.refl _ W17).alloc (Nat.le_refl _) (pfxb 0 0)), .inr HR2.out⟩
                      case rest => as_aux_lemma =>
                        obtain ⟨bp, r22, rfl, rfl, h17, hr⟩ := hcut
                        have HH17 := Lib.hid h17
                        have HR22 := Lib.hid hr
                        clear h17 hr HH16
                        rcases HR22.out with ⟨rfl, n2, y2, hpb, hn0, hn1, hvy, hn2⟩ | hr2
                        · have HN2 := Lib.hid hn2
                          have HVy := Lib.hid hvy
                          obtain ⟨k0, k1⟩ := hpb
                          clear hn2 hvy HR22
                          go_wp2_with fail
                          refine (pfxText_yes n2 y2 HVy.out hn0 hn1 _ (HG.out.keep HH17.out.all).pow).mono ?_
                          rintro en W18 ⟨rfl, hb⟩
                          have HH18 := Lib.hid (HH17.out.next hb)
                          clear hb HH17 k0 k1
                          rw [HN2.out]
                          go_wp2_with fail
                          refine (parseMAC_s s HS.out _ (HG.out.keep HH18.out.all)).mono ?_
                          rintro en W19 ⟨⟨n3, rfl, hm0', hm1', hm2'⟩ | rfl, hb⟩
                          · have HH19 := Lib.hid (HH18.out.next hb)
                            have HN3 := Lib.hid hm2'
                            clear hb HH18 hm2'
                            go_wp2_with fail
                            refine (macText_yes n3 hm0' hm1' _ (HG.out.keep HH19.out.all).pow).mono ?_
                            rintro en W20 ⟨rfl, hb⟩
                            have HH20 := Lib.hid (HH19.out.next hb)
                            clear hb HH19
                            rw [HN3.out]
                            go_wp2_with fail
                            refine (lower_b s (Nat.le_trans HS.out (by omega)) _).mono ?_
                            rintro en W21 ⟨rfl, hb⟩
                            have HH21 := Lib.hid (HH20.out.next hb)
                            clear hb HH20
                            go_wp2_with fail
                            go_ret
                            exact ⟨rfl, HH21.out.all⟩
                          · have HH19 := Lib.hid (HH18.out.next hb)
                            clear hb HH18
                            go_wp2_with fail
                            refine (macText_yes 0 (by omega) (by omega) _ (HG.out.keep HH19.out.all).pow).mono ?_
                            rintro en W20 ⟨rfl, hb⟩
                            have HH20 := Lib.hid (HH19.out.next hb)
                            clear hb HH19
                            go_wp2_with fail
                            go_ret
                            exact ⟨rfl, HH20.out.all⟩
                        · have hr2' : (r22 == 0) = false := by simpa using hr2
                          have HH18 := Lib.hid HH17.out
                          clear hr2 HR22 HH17
                          go_wp2_with fail
                          refine (parseMAC_s s HS.out _ (HG.out.keep HH18.out.all)).mono ?_
                          rintro en W19 ⟨⟨n3, rfl, hm0', hm1', hm2'⟩ | rfl, hb⟩
                          · have HH19 := Lib.hid (HH18.out.next hb)
                            have HN3 := Lib.hid hm2'
                            clear hb HH18 hm2'
                            go_wp2_with fail
                            refine (macText_yes n3 hm0' hm1' _ (HG.out.keep HH19.out.all).pow).mono ?_
                            rintro en W20 ⟨rfl, hb⟩
                            have HH20 := Lib.hid (HH19.out.next hb)
                            clear hb HH19
                            rw [HN3.out]
                            go_wp2_with fail
                            refine (lower_b s (Nat.le_trans HS.out (by omega)) _).mono ?_
                            rintro en W21 ⟨rfl, hb⟩
                            have HH21 := Lib.hid (HH20.out.next hb)
                            clear hb HH20
                            go_wp2_with fail
                            go_ret
                            exact ⟨rfl, HH21.out.all⟩
                          · have HH19 := Lib.hid (HH18.out.next hb)
                            clear hb HH18
                            go_wp2_with fail
                            refine (macText_yes 0 (by omega) (by omega) _ (HG.out.keep HH19.out.all).pow).mono ?_
                            rintro en W20 ⟨rfl, hb⟩
                            have HH20 := Lib.hid (HH19.out.next hb)
                            clear hb HH19
                            go_wp2_with fail
                            go_ret
                            exact ⟨rfl, HH20.out.all⟩

end Go.Proofs.YtlmgbnpimmjijaaDoor
