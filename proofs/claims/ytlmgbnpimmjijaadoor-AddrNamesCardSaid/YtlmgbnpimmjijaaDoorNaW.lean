/- AddrNames: the walk. -/
import Derived.Test.YtlmgbnpimmjijaaDoorNaA
import Derived.Deep.RegionHeld3
import Derived.Deep.RegionWith
import Derived.Deep.DeepCutAuto
import Derived.Deep.CutBlock
namespace Go.Proofs.YtlmgbnpimmjijaaDoor
open Go.RowKit

/-- The package variables that the parsers read. -/
structure Glb3 (w : World) : Prop where
  ip : GlobIP w
  mac : GlobMAC w
  len : GlobLen w

theorem Glb3.keep {w w' : World} (h : Glb3 w) (hb : Below w.heap.size w w') : Glb3 w' where
  ip := h.ip.keep hb
  mac := by
    obtain ⟨g0, g1, g2, g3, g4, m, hm⟩ := h.mac
    exact ⟨cell_keep g0 hb, cell_keep g1 hb, cell_keep g2 hb, cell_keep g3 hb, cell_keep g4 hb, m, cell_keep hm hb⟩
  len := by
    obtain ⟨g0, g1, g2, g3, g4⟩ := h.len
    exact ⟨cell_keep g0 hb, cell_keep g1 hb, cell_keep g2 hb, cell_keep g3 hb, cell_keep g4 hb⟩

def PC (W : World) (x : Nat) (a b : Int) : Prop := W.cell? ⟨x, 0, none⟩ = some (.int .u32 a) ∧ W.cell? ⟨x, 1, none⟩ = some (.int .i64 b)
def EC (W : World) (x : Nat) (a b c d e f g h i j : Int) : Prop := W.cell? ⟨x, 0, none⟩ = some (.int .u8 a) ∧ W.cell? ⟨x, 1, none⟩ = some (.int .u8 b) ∧ W.cell? ⟨x, 2, none⟩ = some (.int .u8 c) ∧ W.cell? ⟨x, 3, none⟩ = some (.int .u8 d) ∧ W.cell? ⟨x, 4, none⟩ = some (.int .u8 e) ∧ W.cell? ⟨x, 5, none⟩ = some (.int .u8 f) ∧ W.cell? ⟨x, 6, none⟩ = some (.int .u8 g) ∧ W.cell? ⟨x, 7, none⟩ = some (.int .u8 h) ∧ W.cell? ⟨x, 8, none⟩ = some (.int .u8 i) ∧ W.cell? ⟨x, 9, none⟩ = some (.int .u8 j)
theorem PC.new (w : World) (q l : Int) : PC (w.alloc (pfxb q l)) w.heap.size q l := ⟨by simp [go_sem], by simp [go_sem]⟩
theorem EC.new (w : World) (a b c d e f g h i j : Int) : EC (w.alloc (esib a b c d e f g h i j)) w.heap.size a b c d e f g h i j := by
  refine ⟨?_, ?_, ?_, ?_, ?_, ?_, ?_, ?_, ?_, ?_⟩ <;> simp [go_sem]
theorem PC.keep {w w' : World} {x : Nat} {a b : Int} (h : PC w x a b) (hb : Below w.heap.size w w') : PC w' x a b := ⟨cell_keep h.1 hb, cell_keep h.2 hb⟩
theorem EC.keep {w w' : World} {x : Nat} {a b c d e f g h i j : Int} (H : EC w x a b c d e f g h i j) (hb : Below w.heap.size w w') : EC w' x a b c d e f g h i j := by
  obtain ⟨h0, h1, h2, h3, h4, h5, h6, h7, h8, h9⟩ := H
  exact ⟨cell_keep h0 hb, cell_keep h1 hb, cell_keep h2 hb, cell_keep h3 hb, cell_keep h4 hb, cell_keep h5 hb, cell_keep h6 hb, cell_keep h7 hb, cell_keep h8 hb, cell_keep h9 hb⟩

/-- What stands when the identifiers have been made. -/
structure Nm (w W : World) (bp bs : Nat) : Prop where
  bel : Below w.heap.size w W
  p : PC W bp 167837696 16
  s : EC W bs 3 0 0 0 0 0 0 0 0 5

theorem Nm.next {w W W' : World} {bp bs : Nat} (h : Nm w W bp bs) (hb : Below W.heap.size W W') : Nm w W' bp bs :=
  ⟨h.bel.trans (hb.mono h.bel.size), h.p.keep hb, h.s.keep hb⟩

set_option maxRecDepth 100000 in
set_option maxHeartbeats 4000000 in
theorem names_walk (w : World) (hg : Glb3 w) :
    Calls Tryd.prog 3 #[] w fun en W' => en = .returned (.bool true) ∧ Below w.heap.size w W' := by
  have HG := Lib.hid hg
  clear hg
  go_enter Tryd.func3, Tryd.ntmps3
  go_wp2_with fail
  refine (lives_any _).mono ?_
  rintro en W ⟨rfl, rfl⟩
  go_wp2_with fail
  refine (loopback_no 32 _ (by omega)).mono ?_
  rintro en W ⟨rfl, rfl⟩
  go_wp2_with fail
  refine (router_no (-1) _ (by omega)).mono ?_
  rintro en W ⟨rfl, rfl⟩
  go_wp2_with fail
  refine (router_yes 5 _ (by omega) (by omega)).mono ?_
  rintro en W ⟨rfl, rfl⟩
  go_wp2_with fail
  refine (rnode_five _).mono ?_
  rintro en W ⟨rfl, rfl⟩
  go_wp2_with fail
  refine (clean_n _).mono ?_
  rintro en W ⟨rfl, hb⟩
  go_upto_region 8 with fail
  have HP := PC.new W 167837696 16
  have HB := hb.alloc hb.size (pfxb 167837696 16)
  go_wp2_with fail
  refine (seg_4 _).mono ?_
  rintro en W2 ⟨rfl, hb2⟩
  have HP2 := HP.keep hb2
  have HB2 := HB.trans (hb2.mono HB.size)
  clear HP HB hb hb2
  go_upto_region 9 with fail
  have H : Nm w (W2.alloc (esib 3 0 0 0 0 0 0 0 0 5)) W.heap.size W2.heap.size := ⟨HB2.alloc HB2.size _, HP2.keep ((Below.refl _ W2).alloc (Nat.le_refl _) _), EC.new _ _ _ _ _ _ _ _ _ _ _⟩
  generalize W.heap.size = bp at H ⊢
  clear HP2 HB2
  go_wp2_with fail
  refine (seg_64 _).mono ?_
  rintro en W3 ⟨rfl, hb⟩
  have H2 := H.next hb
  clear H hb
  go_upto_region 10 with fail
  have H3 := H2.next ((Below.refl _ W3).alloc (Nat.le_refl _) (esib 0 0 0 0 0 0 0 0 0 0))
  clear H2
  go_wp2_with fail
  refine (ip_n _ (HG.out.keep H3.bel).ip).mono ?_
  rintro en W4 ⟨rfl, hb⟩
  have H4 := H3.next hb
  clear H3 hb
  go_upto_region 11 with fail
  go_wp2_with fail
  refine (pfx_n _ (HG.out.keep H4.bel).ip (HG.out.keep H4.bel).len).mono ?_
  rintro en W5 ⟨rfl, hb⟩
  have H5 := H4.next hb
  clear H4 hb
  go_upto_region 12 with fail
  have H6 := H5
  try have H6 := H5.next ((Below.refl _ W5).alloc (Nat.le_refl _) (pfxb 0 0))
  clear H5
  go_wp2_with fail
  refine (mact_no _).mono ?_
  rintro en W6 ⟨rfl, hb⟩
  have H7 := H6.next hb
  clear H6 hb
  go_upto_region 13 with fail
  go_wp2_with fail
  refine (mact_yes _).mono ?_
  rintro en W7 ⟨rfl, hb⟩
  have H8 := H7.next hb
  clear H7 hb
  go_upto_region 14 with fail
  go_wp2_with fail
  refine (pfx_z _ (HG.out.keep H8.bel).ip (HG.out.keep H8.bel).len).mono ?_
  rintro en W8 ⟨rfl, hb⟩
  have H9 := H8.next hb
  clear H8 hb
  go_upto_region 15 with fail
  have HQ : PC (W8.alloc (pfxb 0 0)) W8.heap.size 0 0 := PC.new _ _ _
  have H10 := H9.next ((Below.refl _ W8).alloc (Nat.le_refl _) (pfxb 0 0))
  clear H9
  go_wp2_with fail
  refine (mac_n _ (HG.out.keep H10.bel).mac).mono ?_
  rintro en W9 ⟨rfl, hb⟩
  have H11 := H10.next hb
  have HQ1 := HQ.keep hb
  clear H10 hb HQ
  generalize W8.heap.size = bq at HQ1 ⊢
  go_upto_region 16 with fail
  clear H6
  have HH := Lib.hid H11
  have HQ := Lib.hid HQ1
  clear H11 HQ1
  have hp := HH.out.p
  have hs := HH.out.s
  have hq := HQ.out
  obtain ⟨p0, p1⟩ := hp
  obtain ⟨s0, s1, s2, s3, s4, s5, s6, s7, s8, s9⟩ := hs
  obtain ⟨q0, q1⟩ := hq
  go_wp2_with fail
  refine (esit_n _).mono ?_
  rintro en W10 ⟨rfl, hb⟩
  have HH2 := Lib.hid (HH.out.next hb)
  have HQ2 := Lib.hid (HQ.out.keep hb)
  clear HH HQ hb p0 p1 s0 s1 s2 s3 s4 s5 s6 s7 s8 s9 q0 q1
  have hp := HH2.out.p
  have hq := HQ2.out
  obtain ⟨p0, p1⟩ := hp
  obtain ⟨q0, q1⟩ := hq
  go_wp2_with fail
  refine (contains_n _).mono ?_
  rintro en W11 ⟨rfl, hb⟩
  have HB3 := Lib.hid (HH2.out.next hb).bel
  clear HH2 HQ2 hb p0 p1 q0 q1
  go_wp2_with fail
  refine (contains_z _).mono ?_
  rintro en W12 ⟨rfl, hb⟩
  have HB4 := Lib.hid (HB3.out.trans (hb.mono HB3.out.size))
  clear HB3 hb
  go_wp2_with fail
  refine (multi_broad _).mono ?_
  rintro en W13 ⟨rfl, rfl⟩
  go_wp2_with fail
  refine (multi_five _).mono ?_
  rintro en W14 ⟨rfl, rfl⟩
  go_wp2_with fail
  go_ret
  exact ⟨rfl, HB4.out⟩

end Go.Proofs.YtlmgbnpimmjijaaDoor
