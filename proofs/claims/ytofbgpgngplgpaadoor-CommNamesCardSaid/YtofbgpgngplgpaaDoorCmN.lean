/- CommNames: the walk. -/
import Derived.Test.YtofbgpgngplgpaaDoorCmI
import Derived.Test.YtofbgpgngplgpaaDoorCmG
namespace Go.Proofs.YtofbgpgngplgpaaDoor
open Go.RowKit
set_option linter.unusedVariables false
set_option linter.unusedSimpArgs false
set_option maxRecDepth 100000

theorem nmc0 : labC true 258 = cm 6 1 1 0 0 0 1 2 := by simp [labC, fl]
theorem nme0 : labE 258 = 0 := by simp [labE]
theorem nmc1 : labC false 16777216 = cm 0 0 0 0 0 0 0 0 := by simp [labC, fl]
theorem nme1 : labE 16777216 = 2 := by simp [labE]
theorem nmc2 : encC 65536 = cm 0 0 0 0 0 0 0 0 := by simp [encC]
theorem nme2 : encE 65536 = 2 := by simp [encE]
theorem nmc3 : macC 2 281474976710656 = cm 0 0 0 0 0 0 0 0 := by simp [macC]
theorem nme3 : macE 281474976710656 = 2 := by simp [macE]
theorem nmc4 : macC 3 281474976710656 = cm 0 0 0 0 0 0 0 0 := by simp [macC]
theorem nme4 : macE 281474976710656 = 2 := by simp [macE]
theorem nmc5 : eleC 32 0 = cm 0 0 0 0 0 0 0 0 := by simp [eleC]
theorem nme5 : eleE 32 0 = 2 := by simp [eleE]
theorem nmc6 : eleC 0 (-1) = cm 0 0 0 0 0 0 0 0 := by simp [eleC]
theorem nme6 : eleE 0 (-1) = 2 := by simp [eleE]
theorem nmc7 : eleC 2 32767 = cm 6 6 2 0 0 0 127 255 := by simp [eleC]
theorem nme7 : eleE 2 32767 = 0 := by simp [eleE]
theorem nmc8 : encC 8 = cm 3 12 0 0 0 0 0 8 := by simp [encC]
theorem nme8 : encE 8 = 0 := by simp [encE]
theorem nmm1 : mk 6 0 (fl true + 3) = cm 6 0 1 0 0 0 0 3 := by simp [fl]
theorem nmm2 : mk 6 0 (fl false + 9) = cm 6 0 0 0 0 0 0 9 := by simp [fl]
abbrev L2 : List C8 := [⟨6, 0, 1, 0, 0, 0, 0, 3⟩, ⟨6, 0, 0, 0, 0, 0, 0, 9⟩]
theorem l2_ok : ∀ x ∈ L2, x.ok := by
  intro x hx
  simp only [List.mem_cons, List.not_mem_nil, or_false] at hx
  rcases hx with rfl | rfl <;> simp [C8.ok]
theorem res3 : resM 3 32 L2 = (true, 3, true) := by decide +kernel
theorem res4 : resM 4 24 L2 = (false, 0, false) := by decide +kernel
abbrev cs2 : Array Value := #[.int .u8 6, .int .u8 0, .int .u8 1, .int .u8 0, .int .u8 0, .int .u8 0, .int .u8 0, .int .u8 3, .int .u8 6, .int .u8 0, .int .u8 0, .int .u8 0, .int .u8 0, .int .u8 0, .int .u8 0, .int .u8 9]
theorem cms2 (w : World) : Cms (w.alloc (.cells cs2 24)) (.slice (some ⟨w.heap.size, 0, none⟩) 2 2) L2 := by
  refine .inr ⟨w.heap.size, 0, 2, rfl, fun i hi => ?_⟩
  have hh := Has.new w 24 cs2
  simp only [List.length_cons, List.length_nil] at hi
  have h4 : i = 0 ∨ i = 1 := by omega
  rcases h4 with rfl | rfl
  · exact ⟨hh.cell _, hh.cell _, hh.cell _, hh.cell _, hh.cell _, hh.cell _, hh.cell _, hh.cell _⟩
  · exact ⟨hh.cell _, hh.cell _, hh.cell _, hh.cell _, hh.cell _, hh.cell _, hh.cell _, hh.cell _⟩

set_option maxHeartbeats 4000000 in
theorem names_walk (w : World) (hw : GK w) :
    Calls Tryd.prog 3 #[] w fun e w' => e = .returned (.bool true) ∧ Below w.heap.size w w' := by
  have K0 : Hid (KS w [] w) := Lib.hid ⟨hw, Below.refl _ w, fun p hp => by cases hp⟩
  clear hw
  have heq := cm_self
  go_enter Tryd.func3, Tryd.ntmps3
  go_wp2_with fail
  refine (lives_any _ K0.out.gk).mono ?_
  rintro en w0 ⟨rfl, hb⟩
  have K1 := Lib.hid (K0.out.below hb)
  clear hb K0
  go_wp2_with fail
  refine (label_any true 258 (by omega) (by omega) _ K1.out.gk).mono ?_
  rw [nmc0, nme0]
  rintro en w1 ⟨rfl, hb⟩
  have K2 := Lib.hid ((K1.out.below hb).push #[.int .u8 6, .int .u8 1, .int .u8 1, .int .u8 0, .int .u8 0, .int .u8 0, .int .u8 1, .int .u8 2])
  clear hb K1
  go_wp2_with fail
  refine (label_any false 16777216 (by omega) (by omega) _ K2.out.gk).mono ?_
  rw [nmc1, nme1]
  rintro en w2 ⟨rfl, hb⟩
  have K3 := Lib.hid ((K2.out.below hb).push #[.int .u8 0, .int .u8 0, .int .u8 0, .int .u8 0, .int .u8 0, .int .u8 0, .int .u8 0, .int .u8 0])
  clear hb K2
  go_wp2_with fail
  refine (encap_any 65536 (by omega) (by omega) _ K3.out.gk).mono ?_
  rw [nmc2, nme2]
  rintro en w3 ⟨rfl, hb⟩
  have K4 := Lib.hid ((K3.out.below hb).push #[.int .u8 0, .int .u8 0, .int .u8 0, .int .u8 0, .int .u8 0, .int .u8 0, .int .u8 0, .int .u8 0])
  clear hb K3
  go_wp2_with fail
  refine (import_any 281474976710656 (by omega) (by omega) _ K4.out.gk).mono ?_
  rw [nmc3, nme3]
  rintro en w4 ⟨rfl, hb⟩
  have K5 := Lib.hid ((K4.out.below hb).push #[.int .u8 0, .int .u8 0, .int .u8 0, .int .u8 0, .int .u8 0, .int .u8 0, .int .u8 0, .int .u8 0])
  clear hb K4
  go_wp2_with fail
  refine (router_any 281474976710656 (by omega) (by omega) _ K5.out.gk).mono ?_
  rw [nmc4, nme4]
  rintro en w5 ⟨rfl, hb⟩
  have K6 := Lib.hid ((K5.out.below hb).push #[.int .u8 0, .int .u8 0, .int .u8 0, .int .u8 0, .int .u8 0, .int .u8 0, .int .u8 0, .int .u8 0])
  clear hb K5
  go_wp2_with fail
  refine (election_any 32 0 (by omega) (by omega) (by omega) (by omega) _ K6.out.gk).mono ?_
  rw [nmc5, nme5]
  rintro en w6 ⟨rfl, hb⟩
  have K7 := Lib.hid ((K6.out.below hb).push #[.int .u8 0, .int .u8 0, .int .u8 0, .int .u8 0, .int .u8 0, .int .u8 0, .int .u8 0, .int .u8 0])
  clear hb K6
  go_wp2_with fail
  refine (election_any 0 (-1) (by omega) (by omega) (by omega) (by omega) _ K7.out.gk).mono ?_
  rw [nmc6, nme6]
  rintro en w7 ⟨rfl, hb⟩
  have K8 := Lib.hid ((K7.out.below hb).push #[.int .u8 0, .int .u8 0, .int .u8 0, .int .u8 0, .int .u8 0, .int .u8 0, .int .u8 0, .int .u8 0])
  clear hb K7
  go_wp2_with fail
  refine (election_any 2 32767 (by omega) (by omega) (by omega) (by omega) _ K8.out.gk).mono ?_
  rw [nmc7, nme7]
  rintro en w8 ⟨rfl, hb⟩
  have K9 := Lib.hid ((K8.out.below hb).push #[.int .u8 6, .int .u8 6, .int .u8 2, .int .u8 0, .int .u8 0, .int .u8 0, .int .u8 127, .int .u8 255])
  clear hb K8
  go_wp2_with fail
  refine (encap_any 8 (by omega) (by omega) _ K9.out.gk).mono ?_
  rw [nmc8, nme8]
  rintro en w9 ⟨rfl, hb⟩
  have K10 := Lib.hid ((K9.out.below hb).push #[.int .u8 3, .int .u8 12, .int .u8 0, .int .u8 0, .int .u8 0, .int .u8 0, .int .u8 0, .int .u8 8])
  clear hb K9
  go_wp2_with fail
  refine (mobility_any true 3 (by omega) (by omega) _ K10.out.gk).mono ?_
  rw [nmm1]
  rintro en w10 ⟨rfl, hb⟩
  have K11 := Lib.hid (K10.out.below hb)
  clear hb K10
  go_wp2_with fail
  refine (mobility_any false 9 (by omega) (by omega) _ K11.out.gk).mono ?_
  rw [nmm2]
  rintro en w11 ⟨rfl, hb⟩
  have K12 := Lib.hid ((K11.out.below hb).below ((Below.refl _ w11).alloc (Nat.le_refl _) (.cells cs2 24)))
  have C12 := Lib.hid (cms2 w11)
  clear hb K11
  go_wp2_with fail
  refine (mobilityOf_any L2 (by simp) l2_ok _ _ C12.out K12.out.gk).mono ?_
  rw [res3]
  rintro en w12 ⟨rfl, hb⟩
  have K13 := Lib.hid (K12.out.below hb)
  have C13 := Lib.hid (C12.out.below hb)
  clear hb K12 C12
  go_wp2_with fail
  refine (labelOf_any L2 (by simp) l2_ok _ _ C13.out K13.out.gk).mono ?_
  rw [res4]
  rintro en w13 ⟨rfl, hb⟩
  have K14 := Lib.hid (K13.out.below hb)
  clear hb K13 C13
  have hall : ∀ w', KS w [(w9.heap.size, #[.int .u8 3, .int .u8 12, .int .u8 0, .int .u8 0, .int .u8 0, .int .u8 0, .int .u8 0, .int .u8 8]), (w8.heap.size, #[.int .u8 6, .int .u8 6, .int .u8 2, .int .u8 0, .int .u8 0, .int .u8 0, .int .u8 127, .int .u8 255]), (w7.heap.size, #[.int .u8 0, .int .u8 0, .int .u8 0, .int .u8 0, .int .u8 0, .int .u8 0, .int .u8 0, .int .u8 0]), (w6.heap.size, #[.int .u8 0, .int .u8 0, .int .u8 0, .int .u8 0, .int .u8 0, .int .u8 0, .int .u8 0, .int .u8 0]), (w5.heap.size, #[.int .u8 0, .int .u8 0, .int .u8 0, .int .u8 0, .int .u8 0, .int .u8 0, .int .u8 0, .int .u8 0]), (w4.heap.size, #[.int .u8 0, .int .u8 0, .int .u8 0, .int .u8 0, .int .u8 0, .int .u8 0, .int .u8 0, .int .u8 0]), (w3.heap.size, #[.int .u8 0, .int .u8 0, .int .u8 0, .int .u8 0, .int .u8 0, .int .u8 0, .int .u8 0, .int .u8 0]), (w2.heap.size, #[.int .u8 0, .int .u8 0, .int .u8 0, .int .u8 0, .int .u8 0, .int .u8 0, .int .u8 0, .int .u8 0]), (w1.heap.size, #[.int .u8 6, .int .u8 1, .int .u8 1, .int .u8 0, .int .u8 0, .int .u8 0, .int .u8 1, .int .u8 2])] w' → (KS w [(w9.heap.size, #[.int .u8 3, .int .u8 12, .int .u8 0, .int .u8 0, .int .u8 0, .int .u8 0, .int .u8 0, .int .u8 8]), (w8.heap.size, #[.int .u8 6, .int .u8 6, .int .u8 2, .int .u8 0, .int .u8 0, .int .u8 0, .int .u8 127, .int .u8 255]), (w7.heap.size, #[.int .u8 0, .int .u8 0, .int .u8 0, .int .u8 0, .int .u8 0, .int .u8 0, .int .u8 0, .int .u8 0]), (w6.heap.size, #[.int .u8 0, .int .u8 0, .int .u8 0, .int .u8 0, .int .u8 0, .int .u8 0, .int .u8 0, .int .u8 0]), (w5.heap.size, #[.int .u8 0, .int .u8 0, .int .u8 0, .int .u8 0, .int .u8 0, .int .u8 0, .int .u8 0, .int .u8 0]), (w4.heap.size, #[.int .u8 0, .int .u8 0, .int .u8 0, .int .u8 0, .int .u8 0, .int .u8 0, .int .u8 0, .int .u8 0]), (w3.heap.size, #[.int .u8 0, .int .u8 0, .int .u8 0, .int .u8 0, .int .u8 0, .int .u8 0, .int .u8 0, .int .u8 0]), (w2.heap.size, #[.int .u8 0, .int .u8 0, .int .u8 0, .int .u8 0, .int .u8 0, .int .u8 0, .int .u8 0, .int .u8 0]), (w1.heap.size, #[.int .u8 6, .int .u8 1, .int .u8 1, .int .u8 0, .int .u8 0, .int .u8 0, .int .u8 1, .int .u8 2])] w' ∧ w'.cell? ⟨w1.heap.size, 0, none⟩ = some (.int .u8 6) ∧ w'.cell? ⟨w1.heap.size, 1, none⟩ = some (.int .u8 1) ∧ w'.cell? ⟨w1.heap.size, 2, none⟩ = some (.int .u8 1) ∧ w'.cell? ⟨w1.heap.size, 3, none⟩ = some (.int .u8 0) ∧ w'.cell? ⟨w1.heap.size, 4, none⟩ = some (.int .u8 0) ∧ w'.cell? ⟨w1.heap.size, 5, none⟩ = some (.int .u8 0) ∧ w'.cell? ⟨w1.heap.size, 6, none⟩ = some (.int .u8 1) ∧ w'.cell? ⟨w1.heap.size, 7, none⟩ = some (.int .u8 2) ∧ w'.cell? ⟨w8.heap.size, 0, none⟩ = some (.int .u8 6) ∧ w'.cell? ⟨w8.heap.size, 1, none⟩ = some (.int .u8 6) ∧ w'.cell? ⟨w8.heap.size, 2, none⟩ = some (.int .u8 2) ∧ w'.cell? ⟨w8.heap.size, 3, none⟩ = some (.int .u8 0) ∧ w'.cell? ⟨w8.heap.size, 4, none⟩ = some (.int .u8 0) ∧ w'.cell? ⟨w8.heap.size, 5, none⟩ = some (.int .u8 0) ∧ w'.cell? ⟨w8.heap.size, 6, none⟩ = some (.int .u8 127) ∧ w'.cell? ⟨w8.heap.size, 7, none⟩ = some (.int .u8 255) ∧ w'.cell? ⟨w9.heap.size, 0, none⟩ = some (.int .u8 3) ∧ w'.cell? ⟨w9.heap.size, 1, none⟩ = some (.int .u8 12) ∧ w'.cell? ⟨w9.heap.size, 2, none⟩ = some (.int .u8 0) ∧ w'.cell? ⟨w9.heap.size, 3, none⟩ = some (.int .u8 0) ∧ w'.cell? ⟨w9.heap.size, 4, none⟩ = some (.int .u8 0) ∧ w'.cell? ⟨w9.heap.size, 5, none⟩ = some (.int .u8 0) ∧ w'.cell? ⟨w9.heap.size, 6, none⟩ = some (.int .u8 0) ∧ w'.cell? ⟨w9.heap.size, 7, none⟩ = some (.int .u8 8)) := by
    intro w' H
    have h8 := H.has (w1.heap.size, #[.int .u8 6, .int .u8 1, .int .u8 1, .int .u8 0, .int .u8 0, .int .u8 0, .int .u8 1, .int .u8 2]) (.tail _ (.tail _ (.tail _ (.tail _ (.tail _ (.tail _ (.tail _ (.tail _ (.head _)))))))))
    have h1 := H.has (w8.heap.size, #[.int .u8 6, .int .u8 6, .int .u8 2, .int .u8 0, .int .u8 0, .int .u8 0, .int .u8 127, .int .u8 255]) (.tail _ (.head _))
    have h0 := H.has (w9.heap.size, #[.int .u8 3, .int .u8 12, .int .u8 0, .int .u8 0, .int .u8 0, .int .u8 0, .int .u8 0, .int .u8 8]) (.head _)
    exact ⟨H, h8.cell 0, h8.cell 1, h8.cell 2, h8.cell 3, h8.cell 4, h8.cell 5, h8.cell 6, h8.cell 7, h1.cell 0, h1.cell 1, h1.cell 2, h1.cell 3, h1.cell 4, h1.cell 5, h1.cell 6, h1.cell 7, h0.cell 0, h0.cell 1, h0.cell 2, h0.cell 3, h0.cell 4, h0.cell 5, h0.cell 6, h0.cell 7⟩
  have HALL := Lib.hid hall
  clear hall
  obtain ⟨_, x0, x1, x2, x3, x4, x5, x6, x7, x8, x9, x10, x11, x12, x13, x14, x15, x16, x17, x18, x19, x20, x21, x22, x23⟩ := HALL.out _ K14.out
  go_wp2_with fail
  clear x0 x1 x2 x3 x4 x5 x6 x7 x8 x9 x10 x11 x12 x13 x14 x15 x16 x17 x18 x19 x20 x21 x22 x23
  refine (kind_any 6 5 0 0 0 0 0 0 _ K14.out.gk 0 (by simp)).mono ?_
  rintro en w14 ⟨rfl, hb⟩
  have K15 := Lib.hid (K14.out.below hb)
  clear hb K14
  go_wp2_with fail
  refine (kind_any 6 6 9 0 0 0 0 0 _ K15.out.gk 7 (by simp)).mono ?_
  rintro en w15 ⟨rfl, hb⟩
  have K16 := Lib.hid (K15.out.below hb)
  clear hb K15
  go_wp2_with fail
  refine (sortnil _).mono ?_
  rintro en w16 ⟨rfl, rfl⟩
  go_wp2_with fail
  go_ret
  exact ⟨rfl, K16.out.bel⟩

end Go.Proofs.YtofbgpgngplgpaaDoor
