/- WireWrites: the document's own writer: bytes, marks. -/
import Derived.Test.YtbaikpfibojdnaaWwB
import Derived.Lib.AppendZeros
import Derived.Deep.DeepCutAuto
import Derived.Deep.CutBlock
import Derived.Laws.OwnMore
import Derived.Maps.AppendAt
namespace Go.Proofs.Ytbaikpfibojdnaa
open Go.RowKit
set_option linter.unusedVariables false
set_option maxRecDepth 100000

theorem info_int : (Try.prog.info? 3).map (fun i => (i.zero, i.size, i.bytes)) = some (some (.int .i64 0), 1, 8) := by kernel_rfl

/-- append of a slice that reads as these bytes, as one equation. -/
theorem run_add (w : World) (v : Value) (n : Nat) (olds : List Value) (hown : w.ownsRow 0 5 1 v n olds) (A0 : Option Addr) (c0 : Nat) (xs : List Int) (h : Arr w (.slice A0 xs.length c0) xs) (hn : n + xs.length ≤ 2000000) (ty : TypeId) :
    ∃ A c w1, (Builtin.append_ #[33, 33] ty #[v, .slice A0 xs.length c0]).run Try.prog w = .ok (.slice A (n + xs.length) c) w1 ∧ w1.ownsRow 0 5 1 (.slice A (n + xs.length) c) (n + xs.length) (olds ++ u8s xs) ∧ w.grownBy w1 v.ownBlock ∧
      (v.ownBlock = (Value.slice A (n + xs.length) c).ownBlock ∨ ∃ g, (Value.slice A (n + xs.length) c).ownBlock = some g ∧ w.heap.size ≤ g) := by
  obtain ⟨i0, hi, hz0, hz1, hz2⟩ := info_parts info_u8
  rcases h with ⟨he, rfl⟩ | ⟨ad, c, he, hc⟩
  · injection he with e1 e2 e3
    subst e1 e3
    have hr := run_append_owned_none (P := Try.prog) (w := w) 0 33 ty 5 i0 1 Try.underlying33 hi v n olds hown
    obtain ⟨A, c, rfl, _⟩ := ow_form hown
    exact ⟨A, c, w, hr, by simpa using hown, ⟨rfl, rfl, rfl, Nat.le_refl _, fun _ _ _ => rfl⟩, .inl rfl⟩
  · injection he with e1 e2 e3
    subst e1 e3
    obtain ⟨v', w1, hr, h2, h3, _, h5⟩ := Go.run_append_own_at (P := Try.prog) w 0 33 ty 5 i0 (.int .u8 0) 1 1 Try.underlying33 hi hz0 hz1 hz2 rfl (by decide) v n olds hown ad xs.length c0 (u8s xs) (by simp) hc (u8s_one xs) (by unfold maxLen; omega) (by omega) (Nat.zero_le _)
    obtain ⟨A, c, rfl, _⟩ := ow_form h2
    exact ⟨A, c, w1, hr, h2, h3, h5.imp (fun h => h.symm) (fun h => ⟨_, h, Nat.le_refl _⟩)⟩

theorem Rw.still {w w1 : World} {o : Nat} {v m : Value} {s : WS} (H : Rw w o v m s) (hg : w.grownBy w1 v.ownBlock) : Has w1 o 49 #[v, .int .i64 s.lim, m] :=
  H.blk.grown hg (by intro h; exact ow_has H.out H.blk (by decide) h.symm)
theorem Rw.stillM {w w1 : World} {o : Nat} {v m : Value} {s : WS} (H : Rw w o v m s) (hg : w.grownBy w1 m.ownBlock) : Has w1 o 49 #[v, .int .i64 s.lim, m] :=
  H.blk.grown hg (by intro h; exact ow_has H.mks H.blk (by decide) h.symm)

set_option maxHeartbeats 2000000 in
theorem pbytes (o : Nat) (l : List Nat) (s : WS) (w : World) (H : RwL w l o s) (A0 : Option Addr) (c0 : Nat) (xs : List Int) (harr : Arr w (.slice A0 xs.length c0) xs) (hx : ∀ u ∈ xs, 0 ≤ u ∧ u ≤ 255) (hm : xs.length ≤ 1000000) :
    Calls Try.prog 20 #[.pointer (some ⟨o, 0, none⟩), .slice A0 xs.length c0] w fun e w' => e = .returned (.int .i64 (s.putB xs).1) ∧ ∃ l', RwL w' l' o (s.putB xs).2 ∧ Next w l w' l' := by
  obtain ⟨v, m, rfl, hw⟩ := H
  obtain ⟨A, c, hv, hnc, hcm, hnil, hsome⟩ := ow_form hw.out
  subst hv
  have d0 := hw.c0
  have d1 := hw.c1
  have hroom := hw.room
  have htop := hw.top
  have hsub : IntKind.i64.wrap ((s.lim : Int) - (s.out.length : Int)) = (s.lim : Int) - (s.out.length : Int) := IntWalk.i64_in _ (by omega)
  have HW := Lib.hid hw
  have HA := Lib.hid harr
  have HX := Lib.hid hx
  clear hw hnc hcm hnil hsome harr hx
  by_cases hf : s.lim - s.out.length < xs.length
  · have e : Hid (s.putB xs = (7, s)) := Lib.hid (by unfold WS.putB; rw [if_pos hf])
    have hgt : decide ((s.lim : Int) - (s.out.length : Int) < (xs.length : Int)) = true := by simp; omega
    clear hf
    go_enter Try.func20, Try.ntmps20
    go_wp2_with fail
    go_quiet (fail)
    go_wp2_with fail
    go_ret
    rw [e.out]
    exact ⟨rfl, _, RwL.drewN ⟨_, _, rfl, HW.out⟩ _, (Next.refl w _).drewN _⟩
  · have e : Hid (s.putB xs = (0, { s with out := s.out ++ xs })) := Lib.hid (by unfold WS.putB; rw [if_neg hf])
    have hgt : decide ((s.lim : Int) - (s.out.length : Int) < (xs.length : Int)) = false := by simp; omega
    have HF : Hid (s.out.length + xs.length ≤ s.lim) := Lib.hid (by omega)
    clear hf
    go_enter Try.func20, Try.ntmps20
    go_wp2_with fail
    go_quiet (fail)
    go_upto_region 3 with fail
    have hb : Below w.heap.size w (w.drewN nq) := ⟨rfl, rfl, rfl, Nat.le_refl _, fun _ _ => rfl⟩
    have HW1 := Lib.hid (HW.out.below hb)
    have HA1 := Lib.hid (HA.out.below hb)
    have d0 := HW1.out.c0
    have HN1 : Hid (Next w (rwl o (.slice A s.out.length c) m) (w.drewN nq) (rwl o (.slice A s.out.length c) m)) := Lib.hid ((Next.refl w _).drewN _)
    generalize w.drewN nq = W1 at *
    obtain ⟨A2, c2, w2, hrun, hown, hgrow, hloc⟩ := run_add W1 _ _ _ HW1.out.out A0 c0 xs HA1.out (by have := HF.out; omega) 33
    have hh := HW1.out.still hgrow
    have k0 := hh.cell 0
    have k1 := hh.free 0
    simp only [List.getElem?_toArray, List.getElem?_cons_zero] at k0
    have hfin := HW1.out.more HF.out HX.out hgrow hown
    have hloc2 := rwl_more (w1 := w2) (o := o) (m := m) hloc
    have HFin := Lib.hid hfin
    have HLoc := Lib.hid hloc2
    have HR := Lib.hid hrun
    clear hh hfin hloc hloc2 hrun hown hgrow
    go_wp2_with (at_builtin; refine Lib.wpList_append_run _ rfl _ _ _ _ rfl _ _ rfl rfl _ _ HR.out ?_)
    go_ret
    rw [e.out]
    refine ⟨rfl, _, ⟨_, _, rfl, HFin.out.1⟩, HN1.out.trans ⟨HFin.out.2, HLoc.out⟩⟩

end Go.Proofs.Ytbaikpfibojdnaa
