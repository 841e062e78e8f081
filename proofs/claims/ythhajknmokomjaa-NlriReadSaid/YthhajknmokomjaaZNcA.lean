/- Routes: the document's CompareESI, valid, mask, Clean. -/
import Derived.Test.YthhajknmokomjaaZNoU
import Derived.Test.YthhajknmokomjaaZNoH
import Derived.Test.YthhajknmokomjaaZNrR
import Derived.Deep.DeepCutAuto
namespace Go.Proofs.Ythhajknmokomjaa
open Go.RowKit Go.Shelf
set_option linter.unusedVariables false
set_option linter.unusedSimpArgs false
set_option maxRecDepth 100000

theorem byteAt_lit (l : List Int) (k : Nat) (h : k < l.length) : (l.map (Value.int .u8)).toArray[k]? = some (.int .u8 (byteAt l k)) := by
  simp [byteAt, h]

set_option maxHeartbeats 1000000 in
theorem rcesi_b (a b c d e f g h i j a' b' c' d' e' f' g' h' i' j' : Int) (hu : ∀ v ∈ [a, b, c, d, e, f, g, h, i, j], 0 ≤ v ∧ v ≤ 255) (hv : ∀ v ∈ [a', b', c', d', e', f', g', h', i', j'], 0 ≤ v ∧ v ≤ 255) (w : World) :
    Calls Try.prog 41 #[esi a b c d e f g h i j, esi a' b' c' d' e' f' g' h' i' j'] w fun en W' =>
      en = .returned (.int .i64 (ce [a, b, c, d, e, f, g, h, i, j] [a', b', c', d', e', f', g', h', i', j'])) ∧ Below w.heap.size w W' := by
  have h1 : Has ((w.alloc (esib a b c d e f g h i j)).alloc (esib a' b' c' d' e' f' g' h' i' j')) w.heap.size 24 (([a, b, c, d, e, f, g, h, i, j] : List Int).map (Value.int .u8)).toArray := (Has.new w 24 (([a, b, c, d, e, f, g, h, i, j] : List Int).map (Value.int .u8)).toArray).below ((Below.refl _ _).alloc (Nat.le_refl _) _)
  have h2 : Has ((w.alloc (esib a b c d e f g h i j)).alloc (esib a' b' c' d' e' f' g' h' i' j')) (w.heap.size + 1) 24 (([a', b', c', d', e', f', g', h', i', j'] : List Int).map (Value.int .u8)).toArray := by
    have h := Has.new (w.alloc (esib a b c d e f g h i j)) 24 (([a', b', c', d', e', f', g', h', i', j'] : List Int).map (Value.int .u8)).toArray
    rw [World.size_alloc] at h
    exact h
  have hB : Below w.heap.size w ((w.alloc (esib a b c d e f g h i j)).alloc (esib a' b' c' d' e' f' g' h' i' j')) := ((Below.refl _ w).alloc (Nat.le_refl _) _).alloc (by simp) _
  generalize hus : ([a, b, c, d, e, f, g, h, i, j] : List Int) = us at *
  generalize hbs : ([a', b', c', d', e', f', g', h', i', j'] : List Int) = bs at *
  have hla : us.length = 10 := by rw [← hus]; rfl
  have hlb : bs.length = 10 := by rw [← hbs]; rfl
  have H1 := Lib.hid h1
  have H2 := Lib.hid h2
  have HB := Lib.hid hB
  have HU := Lib.hid hu
  have HV := Lib.hid hv
  have HLa := Lib.hid hla
  have HLb := Lib.hid hlb
  clear hus hbs hla hlb h1 h2 hB hu hv
  go_enter Try.func41, Try.ntmps41
  go_wp2_with fail
  generalize ((w.alloc (esib a b c d e f g h i j)).alloc (esib a' b' c' d' e' f' g' h' i' j')) = W0 at *
  go_loopw [5] (fun i wr => ∃ k : Nat, k ≤ 10 ∧ i = .int .i64 k ∧ Has wr w.heap.size 24 (us.map (Value.int .u8)).toArray ∧ Has wr (w.heap.size + 1) 24 (bs.map (Value.int .u8)).toArray ∧ Below w.heap.size w wr ∧ ∀ j, j < k → byteAt us j = byteAt bs j) (fun i _ => 10 - (intOf i).toNat)
  case atStart => exact ⟨0, by omega, rfl, H1.out, H2.out, HB.out, fun j h => by omega⟩
  case round =>
    obtain ⟨k, hk, rfl, h1, h2, hb, hs⟩ := hrel
    have HS := Lib.hid hs
    have G1 := Lib.hid h1
    have G2 := Lib.hid h2
    have GB := Lib.hid hb
    clear hs h1 h2 hb
    by_cases hlt : k < 10
    · have c1 : wr.cell? ⟨w.heap.size, k, none⟩ = some (.int .u8 (byteAt us k)) := (G1.out.cell k).trans (byteAt_lit us k (by rw [HLa.out]; exact hlt))
      have c2 : wr.cell? ⟨w.heap.size + 1, k, none⟩ = some (.int .u8 (byteAt bs k)) := (G2.out.cell k).trans (byteAt_lit bs k (by rw [HLb.out]; exact hlt))
      obtain ⟨x, hx⟩ : ∃ x, byteAt us k = x := ⟨_, rfl⟩
      obtain ⟨y, hy⟩ : ∃ y, byteAt bs k = y := ⟨_, rfl⟩
      have hxr : 0 ≤ x ∧ x ≤ 255 := by
        rw [← hx]
        have : k < us.length := by rw [HLa.out]; exact hlt
        simp only [byteAt, List.getElem?_eq_getElem this, Option.getD_some]
        exact HU.out _ (List.getElem_mem this)
      have hyr : 0 ≤ y ∧ y ≤ 255 := by
        rw [← hy]
        have : k < bs.length := by rw [HLb.out]; exact hlt
        simp only [byteAt, List.getElem?_eq_getElem this, Option.getD_some]
        exact HV.out _ (List.getElem_mem this)
      have wx : IntKind.i64.wrap x = x := IntWalk.i64_in _ (by omega)
      have wy : IntKind.i64.wrap y = y := IntWalk.i64_in _ (by omega)
      rw [hx] at c1
      rw [hy] at c2
      have HX := Lib.hid hx
      have HY := Lib.hid hy
      clear hx hy hxr hyr
      by_cases hz : cm x y = 0
      · have hzb : (cm x y != 0) = false := by rw [hz]; rfl
        have hxy : x = y := cm_zero.1 hz
        have HZ := Lib.hid hxy
        clear hz hxy
        go_wp2_with fail
        go_quiet ((first
          | (go_at_call 60; exact Calls.quiet_of_same ((rcm1 x y _).mono fun _ _ h => ⟨h.1, h.2.symm⟩))))
        go_wp2_with fail
        go_roundw
        case rel => exact ⟨k + 1, by omega, by go_num, G1.out, G2.out, below_drewN GB.out _, fun j hj => by
          by_cases h : j = k
          · subst h; rw [HX.out, HY.out]; exact HZ.out
          · exact HS.out j (by omega)⟩
        case measure => simp [intOf]; omega
      · have hzb : (cm x y != 0) = true := by simpa using hz
        have HE : Hid (ce us bs = cm x y) := Lib.hid (by
          have := ce_at us bs k (by rw [HLa.out, HLb.out]) (by rw [HLa.out]; exact hlt) HS.out (by rw [HX.out, HY.out]; exact hz)
          rw [this, HX.out, HY.out])
        clear hz
        go_wp2_with fail
        go_quiet ((first
          | (go_at_call 60; exact Calls.quiet_of_same ((rcm1 x y _).mono fun _ _ h => ⟨h.1, h.2.symm⟩))))
        go_wp2_with fail
        go_ret
        exact ⟨by rw [HE.out]; rfl, below_drewN GB.out _⟩
    · obtain rfl : k = 10 := by omega
      go_wp2_with fail
      go_ret
      exact ⟨by rw [ce_same us bs (by rw [HLa.out, HLb.out]) (fun j hj => HS.out j (by rw [HLa.out] at hj; exact hj))]; rfl, GB.out⟩

theorem rvalid (p l : Int) (b : Bool) (hb : vld l = b) (w : World) :
    Calls Try.prog 51 #[pfx p l] w fun e w' => e = .returned (.bool b) ∧ Below w.heap.size w w' := by
  by_cases h0 : 0 ≤ l
  · by_cases h1 : l ≤ 32
    · obtain rfl : true = b := by rw [← hb]; simp [vld]; omega
      clear hb
      go_enter Try.func51, Try.ntmps51
      go_wp2
      go_ret
      exact ⟨rfl, (Below.refl _ w).alloc (Nat.le_refl _) _⟩
    · obtain rfl : false = b := by rw [← hb]; simp [vld]; omega
      clear hb
      have hd : decide (l ≤ 32) = false := by simp; omega
      go_enter Try.func51, Try.ntmps51
      go_wp2
      go_ret
      exact ⟨rfl, (Below.refl _ w).alloc (Nat.le_refl _) _⟩
  · obtain rfl : false = b := by rw [← hb]; simp [vld]; omega
    clear hb
    have hd : decide (0 ≤ l) = false := by simp; omega
    go_enter Try.func51, Try.ntmps51
    go_wp2
    go_ret
    exact ⟨rfl, (Below.refl _ w).alloc (Nat.le_refl _) _⟩

theorem rmask_fact : ∀ k : Fin 33, (IntKind.u32.wrap (-(IntKind.u32.wrap (IntKind.u32.wrap (1 * 2 ^ (32 - (k.val : Int)).toNat) - 1)) - 1)) = msk k.val := by decide +kernel

end Go.Proofs.Ythhajknmokomjaa
