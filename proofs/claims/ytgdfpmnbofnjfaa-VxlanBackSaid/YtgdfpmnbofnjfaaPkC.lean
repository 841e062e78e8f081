/- Packets: the part of a frame; Check. -/
import Derived.Test.YtgdfpmnbofnjfaaPkB
namespace Go.Proofs.Ytgdfpmnbofnjfaa
open Go.RowKit Go.Shelf
set_option linter.unusedVariables false
set_option linter.unusedSimpArgs false
set_option maxRecDepth 100000

/-- Why there is no part. -/
def perr (x : FR) : Int := if x.k < 0 ∨ 2 < x.k then 6 else if (x.k ≠ 1 ∧ x.sameA fr0 = false) ∨ (x.k ≠ 2 ∧ x.sameH fr0 = false) then 3 else 0
/-- The part. -/
def prt (x : FR) : Value := if x.k = 0 then .iface 104 (.agg #[]) else if x.k = 1 then .iface 105 (.agg x.ac) else .iface 106 (.agg x.hc)
def Part (x : FR) (w : World) (e : Ending) (w' : World) : Prop := e = .returned (.tuple #[if perr x = 0 then prt x else Value.nilIface, .int .i64 (perr x)]) ∧ Below w.heap.size w w'

set_option maxHeartbeats 2000000 in
theorem part_no (x : FR) (h : x.k < 0 ∨ 2 < x.k) (w : World) : Calls Try.prog 50 #[.agg x.cs] w (Part x w) := by
  have HG : Hid (perr x = 6) := Lib.hid (by unfold perr; rw [if_pos h])
  have HB : Hid (∀ o, Below w.heap.size w (w.alloc o)) := Lib.hid (fun o => (Below.refl _ w).alloc (Nat.le_refl _) _)
  obtain ⟨k, hk⟩ : ∃ k, x.k = k := ⟨_, rfl⟩
  unfold FR.cs
  rw [hk] at h ⊢
  clear hk
  have e0 : (k == 0) = false := by simp; omega
  have e1 : (k == 1) = false := by simp; omega
  have e2 : (k == 2) = false := by simp; omega
  clear h
  go_enter Try.func50, Try.ntmps50
  go_wp2
  go_ret2
  exact ⟨by rw [HG.out]; rfl, HB.out _⟩

set_option maxHeartbeats 2000000 in
theorem part_0 (x : FR) (h : x.k = 0) (w : World) : Calls Try.prog 50 #[.agg x.cs] w (Part x w) := by
  obtain ⟨bA, hA⟩ : ∃ b, x.sameA fr0 = b := ⟨_, rfl⟩
  obtain ⟨bH, hH⟩ : ∃ b, x.sameH fr0 = b := ⟨_, rfl⟩
  have HG : Hid (perr x = if bA = false ∨ bH = false then 3 else 0) := Lib.hid (by unfold perr; rw [if_neg (by omega), hA, hH, h]; simp)
  have HP : Hid (prt x = .iface 104 (.agg #[])) := Lib.hid (by unfold prt; rw [if_pos h])
  have HB : Hid (∀ o, Below w.heap.size w (w.alloc o)) := Lib.hid (fun o => (Below.refl _ w).alloc (Nat.le_refl _) _)
  have hneqA := neq_ap x fr0
  have hneqH := neq_hp x fr0
  rw [hA] at hneqA
  rw [hH] at hneqH
  simp only [FR.ac, FR.hc, fr0] at hneqA hneqH
  unfold FR.cs
  rw [h]
  clear hA hH h
  go_enter Try.func50, Try.ntmps50
  cases bA
  case false =>
    go_wp2
    go_ret2
    exact ⟨by rw [HG.out]; rfl, HB.out _⟩
  cases bH
  case false =>
    go_wp2
    go_ret2
    exact ⟨by rw [HG.out]; rfl, HB.out _⟩
  go_wp2
  go_ret2
  exact ⟨by rw [HG.out, HP.out]; rfl, HB.out _⟩

theorem same_zA : fr0.sameA fr0 = true := rfl
theorem same_zH : fr0.sameH fr0 = true := rfl
set_option maxHeartbeats 2000000 in
theorem part_1 (x : FR) (h : x.k = 1) (w : World) : Calls Try.prog 50 #[.agg x.cs] w (Part x w) := by
  obtain ⟨bH, hH⟩ : ∃ b, x.sameH fr0 = b := ⟨_, rfl⟩
  have HG : Hid (perr x = if bH = false then 3 else 0) := Lib.hid (by unfold perr; rw [if_neg (by omega), hH, h]; simp)
  have HP : Hid (prt x = .iface 105 (.agg x.ac)) := Lib.hid (by unfold prt; rw [if_neg (by omega), if_pos h])
  have HB : Hid (∀ o, Below w.heap.size w (w.alloc o)) := Lib.hid (fun o => (Below.refl _ w).alloc (Nat.le_refl _) _)
  have hneqA := neq_ap fr0 fr0
  have hneqH := neq_hp x fr0
  rw [same_zA] at hneqA
  rw [hH] at hneqH
  simp only [FR.ac, FR.hc, fr0] at hneqA hneqH
  unfold FR.cs
  rw [h]
  clear hH h
  go_enter Try.func50, Try.ntmps50
  cases bH
  case false =>
    go_wp2
    go_ret2
    exact ⟨by rw [HG.out]; rfl, HB.out _⟩
  go_wp2
  go_ret2
  exact ⟨by rw [HG.out, HP.out]; rfl, HB.out _⟩

set_option maxHeartbeats 2000000 in
theorem part_2 (x : FR) (h : x.k = 2) (w : World) : Calls Try.prog 50 #[.agg x.cs] w (Part x w) := by
  obtain ⟨bA, hA⟩ : ∃ b, x.sameA fr0 = b := ⟨_, rfl⟩
  have HG : Hid (perr x = if bA = false then 3 else 0) := Lib.hid (by unfold perr; rw [if_neg (by omega), hA, h]; simp)
  have HP : Hid (prt x = .iface 106 (.agg x.hc)) := Lib.hid (by unfold prt; rw [if_neg (by omega), if_neg (by omega)])
  have HB : Hid (∀ o, Below w.heap.size w (w.alloc o)) := Lib.hid (fun o => (Below.refl _ w).alloc (Nat.le_refl _) _)
  have hneqA := neq_ap x fr0
  have hneqH := neq_hp fr0 fr0
  rw [same_zH] at hneqH
  rw [hA] at hneqA
  simp only [FR.ac, FR.hc, fr0] at hneqA hneqH
  unfold FR.cs
  rw [h]
  clear hA h
  go_enter Try.func50, Try.ntmps50
  cases bA
  case false =>
    go_wp2
    go_ret2
    exact ⟨by rw [HG.out]; rfl, HB.out _⟩
  go_wp2
  go_ret2
  exact ⟨by rw [HG.out, HP.out]; rfl, HB.out _⟩

theorem part_any (x : FR) (w : World) : Calls Try.prog 50 #[.agg x.cs] w (Part x w) := by
  by_cases h : x.k < 0 ∨ 2 < x.k
  · exact part_no x h w
  have h3 : x.k = 0 ∨ x.k = 1 ∨ x.k = 2 := by omega
  rcases h3 with h | h | h
  · exact part_0 x h w
  · exact part_1 x h w
  · exact part_2 x h w

/-- What Check answers. -/
def fchk (x : FR) : Int := if big x.s = true ∨ big x.d = true then 2 else if mc x.s then 3 else if perr x ≠ 0 then perr x else if x.k = 1 then ackA x else if x.k = 2 then ackH x else 0

theorem meth_dc (n : Nat) (w : World) : (method (n + 1) 104 (.agg #[]) "leafmesh/packet.check").run Try.prog w = .ok (112, .agg #[]) w := by kernel_rfl
theorem meth_ac (c : Array Value) (n : Nat) (w : World) : (method (n + 1) 105 (.agg c) "leafmesh/packet.check").run Try.prog w = .ok (115, .agg c) w := by kernel_rfl
theorem meth_hc (c : Array Value) (n : Nat) (w : World) : (method (n + 1) 106 (.agg c) "leafmesh/packet.check").run Try.prog w = .ok (119, .agg c) w := by kernel_rfl

theorem perr_k {x : FR} (h : perr x = 0) : x.k = 0 ∨ x.k = 1 ∨ x.k = 2 := by
  by_cases h2 : x.k < 0 ∨ 2 < x.k
  · unfold perr at h; rw [if_pos h2] at h; omega
  · omega

set_option maxHeartbeats 4000000 in
theorem check_any (x : FR) (hx : x.ty) (w : World) : Calls Try.prog 31 #[.agg x.cs] w fun e w' => e = .returned (.int .i64 (fchk x)) ∧ Below w.heap.size w w' := by
  have HP : Hid (∀ W : World, Calls Try.prog 50 #[.agg #[.int .u64 x.s, .int .u64 x.d, .int .i64 x.k, .int .i64 x.op, .int .u64 x.sm, .int .u32 x.si, .int .u64 x.tm, .int .u32 x.ti, .int .u32 x.hs, .int .u32 x.hd, .int .i64 x.tl, .int .i64 x.pr, .int .i64 x.sp, .int .i64 x.dp, .int .u64 x.da]] W (Part x W)) := Lib.hid (fun W => part_any x W)
  obtain ⟨r, hr⟩ : ∃ r, fchk x = r := ⟨_, rfl⟩
  rw [hr]
  have HR := Lib.hid hr
  clear hr
  have HB : Hid (∀ o, Below w.heap.size w (w.alloc o)) := Lib.hid (fun o => (Below.refl _ w).alloc (Nat.le_refl _) _)
  have HS := Lib.hid hx.s
  unfold FR.cs
  go_enter Try.func31, Try.ntmps31
  obtain ⟨b1, hb1⟩ : ∃ b, decide (281474976710655 < x.s) = b := ⟨_, rfl⟩
  obtain ⟨b2, hb2⟩ : ∃ b, decide (281474976710655 < x.d) = b := ⟨_, rfl⟩
  have HG : Hid (r = if b1 = true ∨ b2 = true then 2 else if mc x.s then 3 else if perr x ≠ 0 then perr x else if x.k = 1 then ackA x else if x.k = 2 then ackH x else 0) := Lib.hid (by rw [← HR.out]; unfold fchk big; rw [hb1, hb2])
  cases b1
  case true =>
    clear hx
    go_wp2
    go_ret
    exact ⟨by rw [HG.out]; rfl, HB.out _⟩
  cases b2
  case true =>
    clear hx
    go_wp2
    go_ret
    exact ⟨by rw [HG.out]; rfl, HB.out _⟩
  have HSle : Hid (x.s ≤ 281474976710655) := Lib.hid (by have := of_decide_eq_false hb1; omega)
  obtain ⟨b3, hb3⟩ : ∃ b, mc x.s = b := ⟨_, rfl⟩
  have HG2 : Hid (r = if b3 then 3 else if perr x ≠ 0 then perr x else if x.k = 1 then ackA x else if x.k = 2 then ackH x else 0) := Lib.hid (by rw [HG.out, if_neg (by simp), hb3])
  clear HG HR hx
  cases b3
  case true =>
    go_wp2_with (first | (go_at_call 60; refine (multi_any _ HS.out.1 HSle.out _).mono ?_; rintro e w1 ⟨rfl, rfl⟩; try simp only [hb3]))
    go_ret
    exact ⟨by rw [HG2.out]; rfl, HB.out _⟩
  by_cases hp : perr x = 0
  · have h3 := perr_k hp
    have HG3 : Hid (r = if x.k = 1 then ackA x else if x.k = 2 then ackH x else 0) := Lib.hid (by rw [HG2.out, if_neg (by simp), if_neg (by omega)])
    have hprt : (if perr x = 0 then prt x else Value.nilIface) = prt x := if_pos hp
    have HPe := Lib.hid (And.intro hp hprt)
    clear hp hprt HG2
    rcases h3 with h | h | h
    · have HG4 : Hid (r = 0) := Lib.hid (by rw [HG3.out, if_neg (by omega), if_neg (by omega)])
      have HQ : Hid (prt x = .iface 104 (.agg #[])) := Lib.hid (by unfold prt; rw [if_pos h])
      have hme := meth_dc
      clear h HG3
      go_wp2_with (first | (go_at_call 60; refine (multi_any _ HS.out.1 HSle.out _).mono ?_; rintro e w1 ⟨rfl, rfl⟩; try simp only [hb3]) | (go_at_call 50; refine (HP.out _).mono ?_; rintro e w2 ⟨rfl, hb9⟩; rw [HPe.out.2, HPe.out.1, HQ.out]; have HB2 := Lib.hid hb9; clear hb9) | (go_at_call 112; refine (dcheck _).mono ?_; rintro e w3 ⟨rfl, hb8⟩; have HB3 := Lib.hid hb8; clear hb8))
      go_ret
      have h2 := (HB.out _).trans (HB2.out.mono (HB.out _).size)
      exact ⟨by rw [HG4.out]; rfl, h2.trans (HB3.out.mono h2.size)⟩
    · have HG4 : Hid (r = ackA x) := Lib.hid (by rw [HG3.out, if_pos h])
      have HQ : Hid (prt x = .iface 105 (.agg x.ac)) := Lib.hid (by unfold prt; rw [if_neg (by omega), if_pos h])
      have hme := meth_ac x.ac
      clear h HG3
      go_wp2_with (first | (go_at_call 60; refine (multi_any _ HS.out.1 HSle.out _).mono ?_; rintro e w1 ⟨rfl, rfl⟩; try simp only [hb3]) | (go_at_call 50; refine (HP.out _).mono ?_; rintro e w2 ⟨rfl, hb9⟩; rw [HPe.out.2, HPe.out.1, HQ.out]; have HB2 := Lib.hid hb9; clear hb9) | (go_at_call 115; refine (acheck x _).mono ?_; rintro e w3 ⟨rfl, hb8⟩; have HB3 := Lib.hid hb8; clear hb8))
      go_ret
      have h2 := (HB.out _).trans (HB2.out.mono (HB.out _).size)
      exact ⟨by rw [HG4.out]; rfl, h2.trans (HB3.out.mono h2.size)⟩
    · have HG4 : Hid (r = ackH x) := Lib.hid (by rw [HG3.out, if_neg (by omega), if_pos h])
      have HQ : Hid (prt x = .iface 106 (.agg x.hc)) := Lib.hid (by unfold prt; rw [if_neg (by omega), if_neg (by omega)])
      have hme := meth_hc x.hc
      clear h HG3
      go_wp2_with (first | (go_at_call 60; refine (multi_any _ HS.out.1 HSle.out _).mono ?_; rintro e w1 ⟨rfl, rfl⟩; try simp only [hb3]) | (go_at_call 50; refine (HP.out _).mono ?_; rintro e w2 ⟨rfl, hb9⟩; rw [HPe.out.2, HPe.out.1, HQ.out]; have HB2 := Lib.hid hb9; clear hb9) | (go_at_call 119; refine (hcheck x _).mono ?_; rintro e w3 ⟨rfl, hb8⟩; have HB3 := Lib.hid hb8; clear hb8))
      go_ret
      have h2 := (HB.out _).trans (HB2.out.mono (HB.out _).size)
      exact ⟨by rw [HG4.out]; rfl, h2.trans (HB3.out.mono h2.size)⟩
  · have HG3 : Hid (r = perr x) := Lib.hid (by rw [HG2.out, if_neg (by simp), if_pos hp])
    obtain ⟨er, her⟩ : ∃ er, perr x = er := ⟨_, rfl⟩
    have hprt : (if perr x = 0 then prt x else Value.nilIface) = Value.nilIface := if_neg hp
    have hne : (er != 0) = true := by rw [← her]; simpa using hp
    have HPe := Lib.hid (And.intro her hprt)
    clear hp hprt HG2 her
    go_wp2_with (first | (go_at_call 60; refine (multi_any _ HS.out.1 HSle.out _).mono ?_; rintro e w1 ⟨rfl, rfl⟩; try simp only [hb3]) | (go_at_call 50; refine (HP.out _).mono ?_; rintro e w2 ⟨rfl, hb9⟩; rw [HPe.out.2, HPe.out.1]; have HB2 := Lib.hid hb9; clear hb9))
    go_ret
    exact ⟨by rw [HG3.out, HPe.out.1]; rfl, (HB.out _).trans (HB2.out.mono (HB.out _).size)⟩

end Go.Proofs.Ytgdfpmnbofnjfaa
