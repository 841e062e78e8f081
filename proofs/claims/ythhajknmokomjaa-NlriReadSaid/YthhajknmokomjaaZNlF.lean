/- Routes: their values written. -/
import Derived.Test.YthhajknmokomjaaZNlD
namespace Go.Proofs.Ythhajknmokomjaa
open Go.RowKit Go.Maps
set_option linter.unusedVariables false
set_option linter.unusedSimpArgs false
set_option maxRecDepth 100000

def WS.add (s : WS) (xs : List Int) : WS := { s with out := s.out ++ xs }
theorem WS.add_nil (s : WS) : s.add [] = s := by simp [WS.add]
theorem WS.add_out (s : WS) (xs : List Int) : (s.add xs).out = s.out ++ xs := rfl
theorem WS.put_add {s : WS} {L : List Int} {v : Int} {m : Nat} (h1 : v < 256 ^ m) (hr : s.out.length + (L.length + m) ≤ s.lim) : (s.add L).put v m = (0, s.add (L ++ be v m)) := by
  unfold WS.put
  rw [if_neg (by omega), if_neg (by simp [WS.add]; omega)]
  simp [WS.add]
theorem WS.putB_add {s : WS} {L xs : List Int} (hr : s.out.length + (L.length + xs.length) ≤ s.lim) : (s.add L).putB xs = (0, s.add (L ++ xs)) := by
  unfold WS.putB
  rw [if_neg (by simp [WS.add]; omega)]
  simp [WS.add]

/-- A number that fits was written. -/
def Fit (g : Nat) (l : List Nat) (s : WS) (w : World) (e : Ending) (w' : World) : Prop := e = .returned (.int .i64 0) ∧ ∃ l', WrL w' l' g s ∧ Next w l w' l'

theorem fit1 (g : Nat) (l : List Nat) (s : WS) (L : List Int) (w : World) (H : WrL w l g (s.add L)) (v : Int) (h0 : 0 ≤ v) (h1 : v < 256 ^ 1) (hr : s.out.length + (L.length + 1) ≤ s.lim) :
    Calls Try.prog 115 #[.pointer (some ⟨g, 0, none⟩), .int .u64 v] w (Fit g l (s.add (L ++ be v 1)) w) := by
  have hp := WS.put_add (s := s) (L := L) h1 hr
  have h := wU1L g l (s.add L) w H v h0 (by omega)
  rw [hp] at h
  exact h

theorem fit3 (g : Nat) (l : List Nat) (s : WS) (L : List Int) (w : World) (H : WrL w l g (s.add L)) (v : Int) (h0 : 0 ≤ v) (h1 : v < 256 ^ 3) (hr : s.out.length + (L.length + 3) ≤ s.lim) :
    Calls Try.prog 99 #[.pointer (some ⟨g, 0, none⟩), .int .u64 v] w (Fit g l (s.add (L ++ be v 3)) w) := by
  have hp := WS.put_add (s := s) (L := L) h1 hr
  have h := wU3L g l (s.add L) w H v h0 (by omega)
  rw [hp] at h
  exact h

theorem fit4 (g : Nat) (l : List Nat) (s : WS) (L : List Int) (w : World) (H : WrL w l g (s.add L)) (v : Int) (h0 : 0 ≤ v) (h1 : v < 256 ^ 4) (hr : s.out.length + (L.length + 4) ≤ s.lim) :
    Calls Try.prog 105 #[.pointer (some ⟨g, 0, none⟩), .int .u64 v] w (Fit g l (s.add (L ++ be v 4)) w) := by
  have hp := WS.put_add (s := s) (L := L) h1 hr
  have h := wU4L g l (s.add L) w H v h0 (by omega)
  rw [hp] at h
  exact h

theorem fit6 (g : Nat) (l : List Nat) (s : WS) (L : List Int) (w : World) (H : WrL w l g (s.add L)) (v : Int) (h0 : 0 ≤ v) (h1 : v < 256 ^ 6) (hr : s.out.length + (L.length + 6) ≤ s.lim) :
    Calls Try.prog 116 #[.pointer (some ⟨g, 0, none⟩), .int .u64 v] w (Fit g l (s.add (L ++ be v 6)) w) := by
  have hp := WS.put_add (s := s) (L := L) h1 hr
  have h := wU6L g l (s.add L) w H v h0 (by omega)
  rw [hp] at h
  exact h

theorem fit8 (g : Nat) (l : List Nat) (s : WS) (L : List Int) (w : World) (H : WrL w l g (s.add L)) (v : Int) (h0 : 0 ≤ v) (h1 : v < 256 ^ 8) (hr : s.out.length + (L.length + 8) ≤ s.lim) :
    Calls Try.prog 103 #[.pointer (some ⟨g, 0, none⟩), .int .u64 v] w (Fit g l (s.add (L ++ be v 8)) w) := by
  have hp := WS.put_add (s := s) (L := L) h1 hr
  have h := wU8L g l (s.add L) w H v h0 (by omega)
  rw [hp] at h
  exact h

/-- The ten bytes of the identifier. -/
def NL.esi (x : NL) : List Int := [x.e0, x.e1, x.e2, x.e3, x.e4, x.e5, x.e6, x.e7, x.e8, x.e9]
theorem NL.esi_len (x : NL) : x.esi.length = 10 := rfl

/-- The fields are in the ranges of their types, and not too great. -/
structure NL.ok (x : NL) : Prop where
  rd : 0 ≤ x.rd ∧ x.rd < 18446744073709551616
  esi : ∀ v ∈ x.esi, 0 ≤ v ∧ v ≤ 255
  tag : 0 ≤ x.tag ∧ x.tag < 4294967296
  mac : 0 ≤ x.mac ∧ x.mac < 281474976710656
  ip : 0 ≤ x.ip ∧ x.ip < 4294967296
  pip : 0 ≤ x.pip ∧ x.pip < 4294967296
  pl : 0 ≤ x.pl ∧ x.pl ≤ 32
  gw : 0 ≤ x.gw ∧ x.gw < 4294967296
  l1 : 0 ≤ x.l1 ∧ x.l1 < 16777216
  l2 : 0 ≤ x.l2 ∧ x.l2 < 16777216

/-- Between two calls: the writer, and a route in a block of its own. -/
structure WB (w : World) (l0 : List Nat) (g B : Nat) (x : NL) (s : WS) (l : List Nat) (W : World) : Prop where
  wr : WrL W l g s
  box : Has W B 31 x.cs
  far : B ∉ l
  nx : Next w l0 W l

theorem WB.step {w W W' : World} {l0 l l' : List Nat} {g B : Nat} {x : NL} {s s' : WS} (H : WB w l0 g B x s l W) (hw : WrL W' l' g s') (hn : Next W l W' l') : WB w l0 g B x s' l' W' :=
  ⟨hw, H.box.turn hn.1 H.far, fun hk => by
    rcases hn.2 B hk with h | h
    · exact H.far h
    · have := H.box.lt; omega, H.nx.trans hn⟩
theorem Next.alloc {w W : World} {l0 l : List Nat} (h : Next w l0 W l) (o : Obj) : Next w l0 (W.alloc o) l := ⟨h.1.alloc o, h.2⟩
theorem WB.start {w W : World} {l0 l : List Nat} {g : Nat} {s : WS} (x : NL) (H : WrL W l g s) (hn : Next w l0 W l) : WB w l0 g W.heap.size x s l (W.alloc (.cells x.cs 31)) :=
  ⟨H.below ((Below.refl _ W).alloc (Nat.le_refl _) _), Has.new _ _ _, fun h => by have := H.lt _ h; omega, hn.alloc _⟩

theorem NL.esi_sl {w : World} {B : Nat} {x : NL} (h : Has w B 31 x.cs) : Sl w B 2 x.esi := by
  intro j hj
  rw [NL.esi_len] at hj
  rw [h.cell]
  have h10 : j = 0 ∨ j = 1 ∨ j = 2 ∨ j = 3 ∨ j = 4 ∨ j = 5 ∨ j = 6 ∨ j = 7 ∨ j = 8 ∨ j = 9 := by omega
  rcases h10 with rfl | rfl | rfl | rfl | rfl | rfl | rfl | rfl | rfl | rfl <;> rfl

theorem fitE (w : World) (l0 : List Nat) (g B : Nat) (x : NL) (s : WS) (L : List Int) (l : List Nat) (W : World) (H : WB w l0 g B x (s.add L) l W) (hb : ∀ v ∈ x.esi, 0 ≤ v ∧ v ≤ 255) (hr : s.out.length + (L.length + 10) ≤ s.lim) (c : Nat) :
    Calls Try.prog 104 #[.pointer (some ⟨g, 0, none⟩), .slice (some ⟨B, 2, none⟩) 10 c] W (Fit g l (s.add (L ++ x.esi)) W) := by
  obtain ⟨A, cc, b, n, hl, hw⟩ := H.wr
  have hfar := H.far
  subst hl
  have h := (wbytes _ _ _ _ _ _ _ hw B 2 10 c x.esi rfl (by omega) hb (NL.esi_sl H.box) hfar H.box.lt).mono fun _ _ h => h.next
  have hp := WS.putB_add (s := s) (L := L) (xs := x.esi) hr
  rw [hp] at h
  exact h

set_option maxHeartbeats 1000000 in
theorem start_any (x : NL) (hx : x.ok) (g : Nat) (l : List Nat) (s0 : WS) (L0 : List Int) (w : World) (H : WrL w l g (s0.add L0)) (hr : s0.out.length + (L0.length + 22) ≤ s0.lim) :
    Calls Try.prog 98 #[.pointer (some ⟨g, 0, none⟩), .agg x.cs] w fun e w' => e = .returned (.tuple #[]) ∧ ∃ l', WrL w' l' g (s0.add (L0 ++ (be x.rd 8 ++ x.esi ++ be x.tag 4))) ∧ Next w l w' l' := by
  obtain ⟨s, hs⟩ : ∃ s, s0.add L0 = s := ⟨_, rfl⟩
  have hlim : s.out.length + 22 ≤ s.lim := by rw [← hs]; simp [WS.add]; omega
  have hfin : s.add (be x.rd 8 ++ x.esi ++ be x.tag 4) = s0.add (L0 ++ (be x.rd 8 ++ x.esi ++ be x.tag 4)) := by rw [← hs]; simp [WS.add]
  rw [hs] at H
  have HF := Lib.hid hfin
  clear hfin hs
  have hrd := hx.rd
  obtain ⟨hrd0, hrd1⟩ := hrd
  have htag := hx.tag
  obtain ⟨htag0, htag1⟩ := htag
  have hmac := hx.mac
  obtain ⟨hmac0, hmac1⟩ := hmac
  have hip := hx.ip
  obtain ⟨hip0, hip1⟩ := hip
  have hpip := hx.pip
  obtain ⟨hpip0, hpip1⟩ := hpip
  have hpl := hx.pl
  obtain ⟨hpl0, hpl1⟩ := hpl
  have hgw := hx.gw
  obtain ⟨hgw0, hgw1⟩ := hgw
  have hl1 := hx.l1
  obtain ⟨hl10, hl11⟩ := hl1
  have hl2 := hx.l2
  obtain ⟨hl20, hl21⟩ := hl2
  have HW := Lib.hid (WB.start x (s := s.add []) (by rw [WS.add_nil]; exact H) (Next.refl w l))
  clear H
  go_enter Try.func98, Try.ntmps98
  have c0 := HW.out.box.n1
  go_wp2_with fail
  refine (fit8 g _ s ([]) _ HW.out.wr x.rd hrd0 (by omega) (by simp [be_length, NL.esi_len]; omega)).mono ?_
  rintro e0 w0 ⟨rfl, l0, hw, hn⟩
  have HV := Lib.hid (HW.out.step hw hn)
  clear hw hn HW c0
  have HW := HV
  clear HV
  go_wp2_with fail
  refine (fitE _ _ g _ x s (be x.rd 8) _ _ HW.out hx.esi (by simp [be_length, NL.esi_len]; omega) _).mono ?_
  rintro e1 w1 ⟨rfl, l1, hw, hn⟩
  have HV := Lib.hid (HW.out.step hw hn)
  clear hw hn HW
  have HW := HV
  clear HV
  have c2 := HW.out.box.n12
  go_wp2_with fail
  refine (fit4 g _ s (be x.rd 8 ++ x.esi) _ HW.out.wr x.tag htag0 (by omega) (by simp [be_length, NL.esi_len]; omega)).mono ?_
  rintro e2 w2 ⟨rfl, l2, hw, hn⟩
  have HV := Lib.hid (HW.out.step hw hn)
  clear hw hn HW c2
  have HW := HV
  clear HV
  go_wp2_with fail
  go_end0
  exact ⟨rfl, _, by rw [← HF.out]; exact HW.out.wr, HW.out.nx⟩

set_option maxHeartbeats 1000000 in
theorem ip_any (v : Int) (h0 : 0 ≤ v) (h1 : v < 4294967296) (g : Nat) (l : List Nat) (s : WS) (L : List Int) (w : World) (H : WrL w l g (s.add L)) (hr : s.out.length + (L.length + 5) ≤ s.lim) :
    Calls Try.prog 117 #[.pointer (some ⟨g, 0, none⟩), .int .u32 v] w fun e w' => e = .returned (.tuple #[]) ∧ ∃ l', WrL w' l' g (s.add (L ++ (be 32 1 ++ be v 4))) ∧ Next w l w' l' := by
  have HH := Lib.hid H
  clear H
  go_enter Try.func117, Try.ntmps117
  go_wp2_with fail
  refine (fit1 g _ s L _ HH.out 32 (by omega) (by omega) (by omega)).mono ?_
  rintro e1 w1 ⟨rfl, l1, hw1, hn1⟩
  have H1 := Lib.hid (And.intro hw1 hn1)
  clear hw1 hn1
  go_wp2_with fail
  refine (fit4 g _ s (L ++ be 32 1) _ H1.out.1 v h0 h1 (by simp [be_length]; omega)).mono ?_
  rintro e2 w2 ⟨rfl, l2, hw2, hn2⟩
  have H2 := Lib.hid (And.intro hw2 (H1.out.2.trans hn2))
  clear hw2 hn2 H1
  go_wp2_with fail
  go_end0
  exact ⟨rfl, _, by rw [← List.append_assoc]; exact H2.out.1, H2.out.2⟩

def NL.val1 (x : NL) : List Int := (be x.rd 8 ++ x.esi ++ be x.tag 4) ++ be x.l1 3
set_option maxHeartbeats 1000000 in
theorem write1 (x : NL) (hx : x.ok) (g : Nat) (l : List Nat) (s : WS) (w : World) (H : WrL w l g s) (hr : s.out.length + 40 ≤ s.lim) :
    Calls Try.prog 95 #[.agg #[], .pointer (some ⟨g, 0, none⟩), .agg x.cs] w fun e w' => e = .returned (.tuple #[]) ∧ ∃ l', WrL w' l' g (s.add x.val1) ∧ Next w l w' l' := by
  have hrd := hx.rd
  obtain ⟨hrd0, hrd1⟩ := hrd
  have htag := hx.tag
  obtain ⟨htag0, htag1⟩ := htag
  have hmac := hx.mac
  obtain ⟨hmac0, hmac1⟩ := hmac
  have hip := hx.ip
  obtain ⟨hip0, hip1⟩ := hip
  have hpip := hx.pip
  obtain ⟨hpip0, hpip1⟩ := hpip
  have hpl := hx.pl
  obtain ⟨hpl0, hpl1⟩ := hpl
  have hgw := hx.gw
  obtain ⟨hgw0, hgw1⟩ := hgw
  have hl1 := hx.l1
  obtain ⟨hl10, hl11⟩ := hl1
  have hl2 := hx.l2
  obtain ⟨hl20, hl21⟩ := hl2
  have HW0 := WB.start x (s := s.add []) (w := w) (l0 := l) (W := w.alloc (.cells #[] 91)) (by rw [WS.add_nil]; exact H.below ((Below.refl _ w).alloc (Nat.le_refl _) _)) ((Next.refl w l).alloc _)
  rw [World.size_alloc] at HW0
  have HW := Lib.hid HW0
  clear H HW0
  go_enter Try.func95, Try.ntmps95
  have HBx := Lib.hid HW.out.box
  go_wp2_with (refine wpList_load_row rfl 31 (.tmp 5) rfl _ rfl 31 x.cs (0, 0) _ HBx.out Try.underlying31 rfl x.fit ?_)
  refine (start_any x hx g _ s ([]) _ HW.out.wr (by simp [be_length, NL.esi_len]; omega)).mono ?_
  rintro e0 w0 ⟨rfl, l0, hw, hn⟩
  have HV := Lib.hid (HW.out.step hw hn)
  clear hw hn HW HBx
  have HW := HV
  clear HV
  have c1 := HW.out.box.n19
  go_wp2_with fail
  refine (fit3 g _ s ((be x.rd 8 ++ x.esi ++ be x.tag 4)) _ HW.out.wr x.l1 hl10 (by omega) (by simp [be_length, NL.esi_len]; omega)).mono ?_
  rintro e1 w1 ⟨rfl, l1, hw, hn⟩
  have HV := Lib.hid (HW.out.step hw hn)
  clear hw hn HW c1
  have HW := HV
  clear HV
  go_wp2_with fail
  go_end0
  exact ⟨rfl, _, HW.out.wr, HW.out.nx⟩

def NL.val3 (x : NL) : List Int := be x.rd 8 ++ be x.tag 4 ++ (be 32 1 ++ be x.ip 4)
set_option maxHeartbeats 1000000 in
theorem write3 (x : NL) (hx : x.ok) (g : Nat) (l : List Nat) (s : WS) (w : World) (H : WrL w l g s) (hr : s.out.length + 40 ≤ s.lim) :
    Calls Try.prog 120 #[.agg #[], .pointer (some ⟨g, 0, none⟩), .agg x.cs] w fun e w' => e = .returned (.tuple #[]) ∧ ∃ l', WrL w' l' g (s.add x.val3) ∧ Next w l w' l' := by
  have hrd := hx.rd
  obtain ⟨hrd0, hrd1⟩ := hrd
  have htag := hx.tag
  obtain ⟨htag0, htag1⟩ := htag
  have hmac := hx.mac
  obtain ⟨hmac0, hmac1⟩ := hmac
  have hip := hx.ip
  obtain ⟨hip0, hip1⟩ := hip
  have hpip := hx.pip
  obtain ⟨hpip0, hpip1⟩ := hpip
  have hpl := hx.pl
  obtain ⟨hpl0, hpl1⟩ := hpl
  have hgw := hx.gw
  obtain ⟨hgw0, hgw1⟩ := hgw
  have hl1 := hx.l1
  obtain ⟨hl10, hl11⟩ := hl1
  have hl2 := hx.l2
  obtain ⟨hl20, hl21⟩ := hl2
  have HW0 := WB.start x (s := s.add []) (w := w) (l0 := l) (W := w.alloc (.cells #[] 93)) (by rw [WS.add_nil]; exact H.below ((Below.refl _ w).alloc (Nat.le_refl _) _)) ((Next.refl w l).alloc _)
  rw [World.size_alloc] at HW0
  have HW := Lib.hid HW0
  clear H HW0
  go_enter Try.func120, Try.ntmps120
  have c0 := HW.out.box.n1
  go_wp2_with fail
  refine (fit8 g _ s ([]) _ HW.out.wr x.rd hrd0 (by omega) (by simp [be_length, NL.esi_len]; omega)).mono ?_
  rintro e0 w0 ⟨rfl, l0, hw, hn⟩
  have HV := Lib.hid (HW.out.step hw hn)
  clear hw hn HW c0
  have HW := HV
  clear HV
  have c1 := HW.out.box.n12
  go_wp2_with fail
  refine (fit4 g _ s (be x.rd 8) _ HW.out.wr x.tag htag0 (by omega) (by simp [be_length, NL.esi_len]; omega)).mono ?_
  rintro e1 w1 ⟨rfl, l1, hw, hn⟩
  have HV := Lib.hid (HW.out.step hw hn)
  clear hw hn HW c1
  have HW := HV
  clear HV
  have c2 := HW.out.box.n14
  go_wp2_with fail
  refine (ip_any x.ip hip0 hip1 g _ s (be x.rd 8 ++ be x.tag 4) _ HW.out.wr (by simp [be_length, NL.esi_len]; omega)).mono ?_
  rintro e2 w2 ⟨rfl, l2, hw, hn⟩
  have HV := Lib.hid (HW.out.step hw hn)
  clear hw hn HW c2
  have HW := HV
  clear HV
  go_wp2_with fail
  go_end0
  exact ⟨rfl, _, HW.out.wr, HW.out.nx⟩

def NL.val4 (x : NL) : List Int := be x.rd 8 ++ x.esi ++ (be 32 1 ++ be x.ip 4)
set_option maxHeartbeats 1000000 in
theorem write4 (x : NL) (hx : x.ok) (g : Nat) (l : List Nat) (s : WS) (w : World) (H : WrL w l g s) (hr : s.out.length + 40 ≤ s.lim) :
    Calls Try.prog 123 #[.agg #[], .pointer (some ⟨g, 0, none⟩), .agg x.cs] w fun e w' => e = .returned (.tuple #[]) ∧ ∃ l', WrL w' l' g (s.add x.val4) ∧ Next w l w' l' := by
  have hrd := hx.rd
  obtain ⟨hrd0, hrd1⟩ := hrd
  have htag := hx.tag
  obtain ⟨htag0, htag1⟩ := htag
  have hmac := hx.mac
  obtain ⟨hmac0, hmac1⟩ := hmac
  have hip := hx.ip
  obtain ⟨hip0, hip1⟩ := hip
  have hpip := hx.pip
  obtain ⟨hpip0, hpip1⟩ := hpip
  have hpl := hx.pl
  obtain ⟨hpl0, hpl1⟩ := hpl
  have hgw := hx.gw
  obtain ⟨hgw0, hgw1⟩ := hgw
  have hl1 := hx.l1
  obtain ⟨hl10, hl11⟩ := hl1
  have hl2 := hx.l2
  obtain ⟨hl20, hl21⟩ := hl2
  have HW0 := WB.start x (s := s.add []) (w := w) (l0 := l) (W := w.alloc (.cells #[] 94)) (by rw [WS.add_nil]; exact H.below ((Below.refl _ w).alloc (Nat.le_refl _) _)) ((Next.refl w l).alloc _)
  rw [World.size_alloc] at HW0
  have HW := Lib.hid HW0
  clear H HW0
  go_enter Try.func123, Try.ntmps123
  have c0 := HW.out.box.n1
  go_wp2_with fail
  refine (fit8 g _ s ([]) _ HW.out.wr x.rd hrd0 (by omega) (by simp [be_length, NL.esi_len]; omega)).mono ?_
  rintro e0 w0 ⟨rfl, l0, hw, hn⟩
  have HV := Lib.hid (HW.out.step hw hn)
  clear hw hn HW c0
  have HW := HV
  clear HV
  go_wp2_with fail
  refine (fitE _ _ g _ x s (be x.rd 8) _ _ HW.out hx.esi (by simp [be_length, NL.esi_len]; omega) _).mono ?_
  rintro e1 w1 ⟨rfl, l1, hw, hn⟩
  have HV := Lib.hid (HW.out.step hw hn)
  clear hw hn HW
  have HW := HV
  clear HV
  have c2 := HW.out.box.n14
  go_wp2_with fail
  refine (ip_any x.ip hip0 hip1 g _ s (be x.rd 8 ++ x.esi) _ HW.out.wr (by simp [be_length, NL.esi_len]; omega)).mono ?_
  rintro e2 w2 ⟨rfl, l2, hw, hn⟩
  have HV := Lib.hid (HW.out.step hw hn)
  clear hw hn HW c2
  have HW := HV
  clear HV
  go_wp2_with fail
  go_end0
  exact ⟨rfl, _, HW.out.wr, HW.out.nx⟩

def NL.val5 (x : NL) : List Int := (be x.rd 8 ++ x.esi ++ be x.tag 4) ++ be x.pl 1 ++ be x.pip 4 ++ be x.gw 4 ++ be x.l1 3
set_option maxHeartbeats 1000000 in
theorem write5 (x : NL) (hx : x.ok) (g : Nat) (l : List Nat) (s : WS) (w : World) (H : WrL w l g s) (hr : s.out.length + 40 ≤ s.lim) :
    Calls Try.prog 126 #[.agg #[], .pointer (some ⟨g, 0, none⟩), .agg x.cs] w fun e w' => e = .returned (.tuple #[]) ∧ ∃ l', WrL w' l' g (s.add x.val5) ∧ Next w l w' l' := by
  have hrd := hx.rd
  obtain ⟨hrd0, hrd1⟩ := hrd
  have htag := hx.tag
  obtain ⟨htag0, htag1⟩ := htag
  have hmac := hx.mac
  obtain ⟨hmac0, hmac1⟩ := hmac
  have hip := hx.ip
  obtain ⟨hip0, hip1⟩ := hip
  have hpip := hx.pip
  obtain ⟨hpip0, hpip1⟩ := hpip
  have hpl := hx.pl
  obtain ⟨hpl0, hpl1⟩ := hpl
  have hgw := hx.gw
  obtain ⟨hgw0, hgw1⟩ := hgw
  have hl1 := hx.l1
  obtain ⟨hl10, hl11⟩ := hl1
  have hl2 := hx.l2
  obtain ⟨hl20, hl21⟩ := hl2
  have HW0 := WB.start x (s := s.add []) (w := w) (l0 := l) (W := w.alloc (.cells #[] 95)) (by rw [WS.add_nil]; exact H.below ((Below.refl _ w).alloc (Nat.le_refl _) _)) ((Next.refl w l).alloc _)
  rw [World.size_alloc] at HW0
  have HW := Lib.hid HW0
  clear H HW0
  go_enter Try.func126, Try.ntmps126
  have HBx := Lib.hid HW.out.box
  go_wp2_with (refine wpList_load_row rfl 31 (.tmp 5) rfl _ rfl 31 x.cs (0, 0) _ HBx.out Try.underlying31 rfl x.fit ?_)
  refine (start_any x hx g _ s ([]) _ HW.out.wr (by simp [be_length, NL.esi_len]; omega)).mono ?_
  rintro e0 w0 ⟨rfl, l0, hw, hn⟩
  have HV := Lib.hid (HW.out.step hw hn)
  clear hw hn HW HBx
  have HW := HV
  clear HV
  have c1 := HW.out.box.n17
  go_wp2_with fail
  refine (fit1 g _ s ((be x.rd 8 ++ x.esi ++ be x.tag 4)) _ HW.out.wr x.pl hpl0 (by omega) (by simp [be_length, NL.esi_len]; omega)).mono ?_
  rintro e1 w1 ⟨rfl, l1, hw, hn⟩
  have HV := Lib.hid (HW.out.step hw hn)
  clear hw hn HW c1
  have HW := HV
  clear HV
  have c2 := HW.out.box.n16
  go_wp2_with fail
  refine (fit4 g _ s ((be x.rd 8 ++ x.esi ++ be x.tag 4) ++ be x.pl 1) _ HW.out.wr x.pip hpip0 (by omega) (by simp [be_length, NL.esi_len]; omega)).mono ?_
  rintro e2 w2 ⟨rfl, l2, hw, hn⟩
  have HV := Lib.hid (HW.out.step hw hn)
  clear hw hn HW c2
  have HW := HV
  clear HV
  have c3 := HW.out.box.n18
  go_wp2_with fail
  refine (fit4 g _ s ((be x.rd 8 ++ x.esi ++ be x.tag 4) ++ be x.pl 1 ++ be x.pip 4) _ HW.out.wr x.gw hgw0 (by omega) (by simp [be_length, NL.esi_len]; omega)).mono ?_
  rintro e3 w3 ⟨rfl, l3, hw, hn⟩
  have HV := Lib.hid (HW.out.step hw hn)
  clear hw hn HW c3
  have HW := HV
  clear HV
  have c4 := HW.out.box.n19
  go_wp2_with fail
  refine (fit3 g _ s ((be x.rd 8 ++ x.esi ++ be x.tag 4) ++ be x.pl 1 ++ be x.pip 4 ++ be x.gw 4) _ HW.out.wr x.l1 hl10 (by omega) (by simp [be_length, NL.esi_len]; omega)).mono ?_
  rintro e4 w4 ⟨rfl, l4, hw, hn⟩
  have HV := Lib.hid (HW.out.step hw hn)
  clear hw hn HW c4
  have HW := HV
  clear HV
  go_wp2_with fail
  go_end0
  exact ⟨rfl, _, HW.out.wr, HW.out.nx⟩

def NL.val2 (x : NL) : List Int := (be x.rd 8 ++ x.esi ++ be x.tag 4) ++ be 48 1 ++ be x.mac 6 ++ (if x.has then be 32 1 ++ be x.ip 4 else be 0 1) ++ be x.l1 3 ++ (if x.l2 = 0 then [] else be x.l2 3)
set_option maxHeartbeats 1000000 in
theorem write2_true_true (x : NL) (hx : x.ok) (hb : x.has = true) (hl : (x.l2 != 0) = true) (g : Nat) (l : List Nat) (s : WS) (w : World) (H : WrL w l g s) (hr : s.out.length + 40 ≤ s.lim) :
    Calls Try.prog 112 #[.agg #[], .pointer (some ⟨g, 0, none⟩), .agg x.cs] w fun e w' => e = .returned (.tuple #[]) ∧ ∃ l', WrL w' l' g (s.add x.val2) ∧ Next w l w' l' := by
  have hrd := hx.rd
  obtain ⟨hrd0, hrd1⟩ := hrd
  have htag := hx.tag
  obtain ⟨htag0, htag1⟩ := htag
  have hmac := hx.mac
  obtain ⟨hmac0, hmac1⟩ := hmac
  have hip := hx.ip
  obtain ⟨hip0, hip1⟩ := hip
  have hpip := hx.pip
  obtain ⟨hpip0, hpip1⟩ := hpip
  have hpl := hx.pl
  obtain ⟨hpl0, hpl1⟩ := hpl
  have hgw := hx.gw
  obtain ⟨hgw0, hgw1⟩ := hgw
  have hl1 := hx.l1
  obtain ⟨hl10, hl11⟩ := hl1
  have hl2 := hx.l2
  obtain ⟨hl20, hl21⟩ := hl2
  have hv : x.val2 = (be x.rd 8 ++ x.esi ++ be x.tag 4) ++ be 48 1 ++ be x.mac 6 ++ (be 32 1 ++ be x.ip 4) ++ be x.l1 3 ++ be x.l2 3 := by
    have h2 : (x.l2 = 0) = False := by simpa using hl
    simp [NL.val2, hb, h2]
  have HVl := Lib.hid hv
  have HW0 := WB.start x (s := s.add []) (w := w) (l0 := l) (W := w.alloc (.cells #[] 92)) (by rw [WS.add_nil]; exact H.below ((Below.refl _ w).alloc (Nat.le_refl _) _)) ((Next.refl w l).alloc _)
  rw [World.size_alloc] at HW0
  have HW := Lib.hid HW0
  clear H HW0 hv
  go_enter Try.func112, Try.ntmps112
  have HBx := Lib.hid HW.out.box
  go_wp2_with (refine wpList_load_row rfl 31 (.tmp 5) rfl _ rfl 31 x.cs (0, 0) _ HBx.out Try.underlying31 rfl x.fit ?_)
  refine (start_any x hx g _ s ([]) _ HW.out.wr (by simp [be_length, NL.esi_len]; omega)).mono ?_
  rintro e0 w0 ⟨rfl, l0, hw, hn⟩
  have HV := Lib.hid (HW.out.step hw hn)
  clear hw hn HW HBx
  have HW := HV
  clear HV
  go_wp2_with fail
  refine (fit1 g _ s ((be x.rd 8 ++ x.esi ++ be x.tag 4)) _ HW.out.wr 48 (by omega) (by omega) (by simp [be_length, NL.esi_len]; omega)).mono ?_
  rintro e1 w1 ⟨rfl, l1, hw, hn⟩
  have HV := Lib.hid (HW.out.step hw hn)
  clear hw hn HW
  have HW := HV
  clear HV
  have c2 := HW.out.box.n13
  go_wp2_with fail
  refine (fit6 g _ s ((be x.rd 8 ++ x.esi ++ be x.tag 4) ++ be 48 1) _ HW.out.wr x.mac hmac0 (by omega) (by simp [be_length, NL.esi_len]; omega)).mono ?_
  rintro e2 w2 ⟨rfl, l2, hw, hn⟩
  have HV := Lib.hid (HW.out.step hw hn)
  clear hw hn HW c2
  have HW := HV
  clear HV
  have c15 := HW.out.box.n15
  rw [hb] at c15
  have c3 := HW.out.box.n14
  go_wp2_with fail
  refine (ip_any x.ip hip0 hip1 g _ s ((be x.rd 8 ++ x.esi ++ be x.tag 4) ++ be 48 1 ++ be x.mac 6) _ HW.out.wr (by simp [be_length, NL.esi_len]; omega)).mono ?_
  rintro e3 w3 ⟨rfl, l3, hw, hn⟩
  have HV := Lib.hid (HW.out.step hw hn)
  clear hw hn HW c3
  have HW := HV
  clear HV
  clear c15
  have c4 := HW.out.box.n19
  go_wp2_with fail
  refine (fit3 g _ s ((be x.rd 8 ++ x.esi ++ be x.tag 4) ++ be 48 1 ++ be x.mac 6 ++ (be 32 1 ++ be x.ip 4)) _ HW.out.wr x.l1 hl10 (by omega) (by simp [be_length, NL.esi_len]; omega)).mono ?_
  rintro e4 w4 ⟨rfl, l4, hw, hn⟩
  have HV := Lib.hid (HW.out.step hw hn)
  clear hw hn HW c4
  have HW := HV
  clear HV
  have c20 := HW.out.box.n20
  have c5 := HW.out.box.n20
  go_wp2_with fail
  refine (fit3 g _ s ((be x.rd 8 ++ x.esi ++ be x.tag 4) ++ be 48 1 ++ be x.mac 6 ++ (be 32 1 ++ be x.ip 4) ++ be x.l1 3) _ HW.out.wr x.l2 hl20 (by omega) (by simp [be_length, NL.esi_len]; omega)).mono ?_
  rintro e5 w5 ⟨rfl, l5, hw, hn⟩
  have HV := Lib.hid (HW.out.step hw hn)
  clear hw hn HW c5
  have HW := HV
  clear HV
  clear c20
  go_wp2_with fail
  go_end0
  exact ⟨rfl, _, by rw [HVl.out]; exact HW.out.wr, HW.out.nx⟩

set_option maxHeartbeats 1000000 in
theorem write2_true_false (x : NL) (hx : x.ok) (hb : x.has = true) (hl : (x.l2 != 0) = false) (g : Nat) (l : List Nat) (s : WS) (w : World) (H : WrL w l g s) (hr : s.out.length + 40 ≤ s.lim) :
    Calls Try.prog 112 #[.agg #[], .pointer (some ⟨g, 0, none⟩), .agg x.cs] w fun e w' => e = .returned (.tuple #[]) ∧ ∃ l', WrL w' l' g (s.add x.val2) ∧ Next w l w' l' := by
  have hrd := hx.rd
  obtain ⟨hrd0, hrd1⟩ := hrd
  have htag := hx.tag
  obtain ⟨htag0, htag1⟩ := htag
  have hmac := hx.mac
  obtain ⟨hmac0, hmac1⟩ := hmac
  have hip := hx.ip
  obtain ⟨hip0, hip1⟩ := hip
  have hpip := hx.pip
  obtain ⟨hpip0, hpip1⟩ := hpip
  have hpl := hx.pl
  obtain ⟨hpl0, hpl1⟩ := hpl
  have hgw := hx.gw
  obtain ⟨hgw0, hgw1⟩ := hgw
  have hl1 := hx.l1
  obtain ⟨hl10, hl11⟩ := hl1
  have hl2 := hx.l2
  obtain ⟨hl20, hl21⟩ := hl2
  have hv : x.val2 = (be x.rd 8 ++ x.esi ++ be x.tag 4) ++ be 48 1 ++ be x.mac 6 ++ (be 32 1 ++ be x.ip 4) ++ be x.l1 3 := by
    have h2 : (x.l2 = 0) = True := by simpa using hl
    simp [NL.val2, hb, h2]
  have HVl := Lib.hid hv
  have HW0 := WB.start x (s := s.add []) (w := w) (l0 := l) (W := w.alloc (.cells #[] 92)) (by rw [WS.add_nil]; exact H.below ((Below.refl _ w).alloc (Nat.le_refl _) _)) ((Next.refl w l).alloc _)
  rw [World.size_alloc] at HW0
  have HW := Lib.hid HW0
  clear H HW0 hv
  go_enter Try.func112, Try.ntmps112
  have HBx := Lib.hid HW.out.box
  go_wp2_with (refine wpList_load_row rfl 31 (.tmp 5) rfl _ rfl 31 x.cs (0, 0) _ HBx.out Try.underlying31 rfl x.fit ?_)
  refine (start_any x hx g _ s ([]) _ HW.out.wr (by simp [be_length, NL.esi_len]; omega)).mono ?_
  rintro e0 w0 ⟨rfl, l0, hw, hn⟩
  have HV := Lib.hid (HW.out.step hw hn)
  clear hw hn HW HBx
  have HW := HV
  clear HV
  go_wp2_with fail
  refine (fit1 g _ s ((be x.rd 8 ++ x.esi ++ be x.tag 4)) _ HW.out.wr 48 (by omega) (by omega) (by simp [be_length, NL.esi_len]; omega)).mono ?_
  rintro e1 w1 ⟨rfl, l1, hw, hn⟩
  have HV := Lib.hid (HW.out.step hw hn)
  clear hw hn HW
  have HW := HV
  clear HV
  have c2 := HW.out.box.n13
  go_wp2_with fail
  refine (fit6 g _ s ((be x.rd 8 ++ x.esi ++ be x.tag 4) ++ be 48 1) _ HW.out.wr x.mac hmac0 (by omega) (by simp [be_length, NL.esi_len]; omega)).mono ?_
  rintro e2 w2 ⟨rfl, l2, hw, hn⟩
  have HV := Lib.hid (HW.out.step hw hn)
  clear hw hn HW c2
  have HW := HV
  clear HV
  have c15 := HW.out.box.n15
  rw [hb] at c15
  have c3 := HW.out.box.n14
  go_wp2_with fail
  refine (ip_any x.ip hip0 hip1 g _ s ((be x.rd 8 ++ x.esi ++ be x.tag 4) ++ be 48 1 ++ be x.mac 6) _ HW.out.wr (by simp [be_length, NL.esi_len]; omega)).mono ?_
  rintro e3 w3 ⟨rfl, l3, hw, hn⟩
  have HV := Lib.hid (HW.out.step hw hn)
  clear hw hn HW c3
  have HW := HV
  clear HV
  clear c15
  have c4 := HW.out.box.n19
  go_wp2_with fail
  refine (fit3 g _ s ((be x.rd 8 ++ x.esi ++ be x.tag 4) ++ be 48 1 ++ be x.mac 6 ++ (be 32 1 ++ be x.ip 4)) _ HW.out.wr x.l1 hl10 (by omega) (by simp [be_length, NL.esi_len]; omega)).mono ?_
  rintro e4 w4 ⟨rfl, l4, hw, hn⟩
  have HV := Lib.hid (HW.out.step hw hn)
  clear hw hn HW c4
  have HW := HV
  clear HV
  have c20 := HW.out.box.n20
  go_wp2_with fail
  go_end0
  exact ⟨rfl, _, by rw [HVl.out]; exact HW.out.wr, HW.out.nx⟩

set_option maxHeartbeats 1000000 in
theorem write2_false_true (x : NL) (hx : x.ok) (hb : x.has = false) (hl : (x.l2 != 0) = true) (g : Nat) (l : List Nat) (s : WS) (w : World) (H : WrL w l g s) (hr : s.out.length + 40 ≤ s.lim) :
    Calls Try.prog 112 #[.agg #[], .pointer (some ⟨g, 0, none⟩), .agg x.cs] w fun e w' => e = .returned (.tuple #[]) ∧ ∃ l', WrL w' l' g (s.add x.val2) ∧ Next w l w' l' := by
  have hrd := hx.rd
  obtain ⟨hrd0, hrd1⟩ := hrd
  have htag := hx.tag
  obtain ⟨htag0, htag1⟩ := htag
  have hmac := hx.mac
  obtain ⟨hmac0, hmac1⟩ := hmac
  have hip := hx.ip
  obtain ⟨hip0, hip1⟩ := hip
  have hpip := hx.pip
  obtain ⟨hpip0, hpip1⟩ := hpip
  have hpl := hx.pl
  obtain ⟨hpl0, hpl1⟩ := hpl
  have hgw := hx.gw
  obtain ⟨hgw0, hgw1⟩ := hgw
  have hl1 := hx.l1
  obtain ⟨hl10, hl11⟩ := hl1
  have hl2 := hx.l2
  obtain ⟨hl20, hl21⟩ := hl2
  have hv : x.val2 = (be x.rd 8 ++ x.esi ++ be x.tag 4) ++ be 48 1 ++ be x.mac 6 ++ be 0 1 ++ be x.l1 3 ++ be x.l2 3 := by
    have h2 : (x.l2 = 0) = False := by simpa using hl
    simp [NL.val2, hb, h2]
  have HVl := Lib.hid hv
  have HW0 := WB.start x (s := s.add []) (w := w) (l0 := l) (W := w.alloc (.cells #[] 92)) (by rw [WS.add_nil]; exact H.below ((Below.refl _ w).alloc (Nat.le_refl _) _)) ((Next.refl w l).alloc _)
  rw [World.size_alloc] at HW0
  have HW := Lib.hid HW0
  clear H HW0 hv
  go_enter Try.func112, Try.ntmps112
  have HBx := Lib.hid HW.out.box
  go_wp2_with (refine wpList_load_row rfl 31 (.tmp 5) rfl _ rfl 31 x.cs (0, 0) _ HBx.out Try.underlying31 rfl x.fit ?_)
  refine (start_any x hx g _ s ([]) _ HW.out.wr (by simp [be_length, NL.esi_len]; omega)).mono ?_
  rintro e0 w0 ⟨rfl, l0, hw, hn⟩
  have HV := Lib.hid (HW.out.step hw hn)
  clear hw hn HW HBx
  have HW := HV
  clear HV
  go_wp2_with fail
  refine (fit1 g _ s ((be x.rd 8 ++ x.esi ++ be x.tag 4)) _ HW.out.wr 48 (by omega) (by omega) (by simp [be_length, NL.esi_len]; omega)).mono ?_
  rintro e1 w1 ⟨rfl, l1, hw, hn⟩
  have HV := Lib.hid (HW.out.step hw hn)
  clear hw hn HW
  have HW := HV
  clear HV
  have c2 := HW.out.box.n13
  go_wp2_with fail
  refine (fit6 g _ s ((be x.rd 8 ++ x.esi ++ be x.tag 4) ++ be 48 1) _ HW.out.wr x.mac hmac0 (by omega) (by simp [be_length, NL.esi_len]; omega)).mono ?_
  rintro e2 w2 ⟨rfl, l2, hw, hn⟩
  have HV := Lib.hid (HW.out.step hw hn)
  clear hw hn HW c2
  have HW := HV
  clear HV
  have c15 := HW.out.box.n15
  rw [hb] at c15
  go_wp2_with fail
  refine (fit1 g _ s ((be x.rd 8 ++ x.esi ++ be x.tag 4) ++ be 48 1 ++ be x.mac 6) _ HW.out.wr 0 (by omega) (by omega) (by simp [be_length, NL.esi_len]; omega)).mono ?_
  rintro e3 w3 ⟨rfl, l3, hw, hn⟩
  have HV := Lib.hid (HW.out.step hw hn)
  clear hw hn HW
  have HW := HV
  clear HV
  clear c15
  have c4 := HW.out.box.n19
  go_wp2_with fail
  refine (fit3 g _ s ((be x.rd 8 ++ x.esi ++ be x.tag 4) ++ be 48 1 ++ be x.mac 6 ++ be 0 1) _ HW.out.wr x.l1 hl10 (by omega) (by simp [be_length, NL.esi_len]; omega)).mono ?_
  rintro e4 w4 ⟨rfl, l4, hw, hn⟩
  have HV := Lib.hid (HW.out.step hw hn)
  clear hw hn HW c4
  have HW := HV
  clear HV
  have c20 := HW.out.box.n20
  have c5 := HW.out.box.n20
  go_wp2_with fail
  refine (fit3 g _ s ((be x.rd 8 ++ x.esi ++ be x.tag 4) ++ be 48 1 ++ be x.mac 6 ++ be 0 1 ++ be x.l1 3) _ HW.out.wr x.l2 hl20 (by omega) (by simp [be_length, NL.esi_len]; omega)).mono ?_
  rintro e5 w5 ⟨rfl, l5, hw, hn⟩
  have HV := Lib.hid (HW.out.step hw hn)
  clear hw hn HW c5
  have HW := HV
  clear HV
  clear c20
  go_wp2_with fail
  go_end0
  exact ⟨rfl, _, by rw [HVl.out]; exact HW.out.wr, HW.out.nx⟩

set_option maxHeartbeats 1000000 in
theorem write2_false_false (x : NL) (hx : x.ok) (hb : x.has = false) (hl : (x.l2 != 0) = false) (g : Nat) (l : List Nat) (s : WS) (w : World) (H : WrL w l g s) (hr : s.out.length + 40 ≤ s.lim) :
    Calls Try.prog 112 #[.agg #[], .pointer (some ⟨g, 0, none⟩), .agg x.cs] w fun e w' => e = .returned (.tuple #[]) ∧ ∃ l', WrL w' l' g (s.add x.val2) ∧ Next w l w' l' := by
  have hrd := hx.rd
  obtain ⟨hrd0, hrd1⟩ := hrd
  have htag := hx.tag
  obtain ⟨htag0, htag1⟩ := htag
  have hmac := hx.mac
  obtain ⟨hmac0, hmac1⟩ := hmac
  have hip := hx.ip
  obtain ⟨hip0, hip1⟩ := hip
  have hpip := hx.pip
  obtain ⟨hpip0, hpip1⟩ := hpip
  have hpl := hx.pl
  obtain ⟨hpl0, hpl1⟩ := hpl
  have hgw := hx.gw
  obtain ⟨hgw0, hgw1⟩ := hgw
  have hl1 := hx.l1
  obtain ⟨hl10, hl11⟩ := hl1
  have hl2 := hx.l2
  obtain ⟨hl20, hl21⟩ := hl2
  have hv : x.val2 = (be x.rd 8 ++ x.esi ++ be x.tag 4) ++ be 48 1 ++ be x.mac 6 ++ be 0 1 ++ be x.l1 3 := by
    have h2 : (x.l2 = 0) = True := by simpa using hl
    simp [NL.val2, hb, h2]
  have HVl := Lib.hid hv
  have HW0 := WB.start x (s := s.add []) (w := w) (l0 := l) (W := w.alloc (.cells #[] 92)) (by rw [WS.add_nil]; exact H.below ((Below.refl _ w).alloc (Nat.le_refl _) _)) ((Next.refl w l).alloc _)
  rw [World.size_alloc] at HW0
  have HW := Lib.hid HW0
  clear H HW0 hv
  go_enter Try.func112, Try.ntmps112
  have HBx := Lib.hid HW.out.box
  go_wp2_with (refine wpList_load_row rfl 31 (.tmp 5) rfl _ rfl 31 x.cs (0, 0) _ HBx.out Try.underlying31 rfl x.fit ?_)
  refine (start_any x hx g _ s ([]) _ HW.out.wr (by simp [be_length, NL.esi_len]; omega)).mono ?_
  rintro e0 w0 ⟨rfl, l0, hw, hn⟩
  have HV := Lib.hid (HW.out.step hw hn)
  clear hw hn HW HBx
  have HW := HV
  clear HV
  go_wp2_with fail
  refine (fit1 g _ s ((be x.rd 8 ++ x.esi ++ be x.tag 4)) _ HW.out.wr 48 (by omega) (by omega) (by simp [be_length, NL.esi_len]; omega)).mono ?_
  rintro e1 w1 ⟨rfl, l1, hw, hn⟩
  have HV := Lib.hid (HW.out.step hw hn)
  clear hw hn HW
  have HW := HV
  clear HV
  have c2 := HW.out.box.n13
  go_wp2_with fail
  refine (fit6 g _ s ((be x.rd 8 ++ x.esi ++ be x.tag 4) ++ be 48 1) _ HW.out.wr x.mac hmac0 (by omega) (by simp [be_length, NL.esi_len]; omega)).mono ?_
  rintro e2 w2 ⟨rfl, l2, hw, hn⟩
  have HV := Lib.hid (HW.out.step hw hn)
  clear hw hn HW c2
  have HW := HV
  clear HV
  have c15 := HW.out.box.n15
  rw [hb] at c15
  go_wp2_with fail
  refine (fit1 g _ s ((be x.rd 8 ++ x.esi ++ be x.tag 4) ++ be 48 1 ++ be x.mac 6) _ HW.out.wr 0 (by omega) (by omega) (by simp [be_length, NL.esi_len]; omega)).mono ?_
  rintro e3 w3 ⟨rfl, l3, hw, hn⟩
  have HV := Lib.hid (HW.out.step hw hn)
  clear hw hn HW
  have HW := HV
  clear HV
  clear c15
  have c4 := HW.out.box.n19
  go_wp2_with fail
  refine (fit3 g _ s ((be x.rd 8 ++ x.esi ++ be x.tag 4) ++ be 48 1 ++ be x.mac 6 ++ be 0 1) _ HW.out.wr x.l1 hl10 (by omega) (by simp [be_length, NL.esi_len]; omega)).mono ?_
  rintro e4 w4 ⟨rfl, l4, hw, hn⟩
  have HV := Lib.hid (HW.out.step hw hn)
  clear hw hn HW c4
  have HW := HV
  clear HV
  have c20 := HW.out.box.n20
  go_wp2_with fail
  go_end0
  exact ⟨rfl, _, by rw [HVl.out]; exact HW.out.wr, HW.out.nx⟩

theorem write2 (x : NL) (hx : x.ok) (g : Nat) (l : List Nat) (s : WS) (w : World) (H : WrL w l g s) (hr : s.out.length + 40 ≤ s.lim) :
    Calls Try.prog 112 #[.agg #[], .pointer (some ⟨g, 0, none⟩), .agg x.cs] w fun e w' => e = .returned (.tuple #[]) ∧ ∃ l', WrL w' l' g (s.add x.val2) ∧ Next w l w' l' := by
  cases hb : x.has
  · cases hl : (x.l2 != 0)
    · exact write2_false_false x hx hb hl g l s w H hr
    · exact write2_false_true x hx hb hl g l s w H hr
  · cases hl : (x.l2 != 0)
    · exact write2_true_false x hx hb hl g l s w H hr
    · exact write2_true_true x hx hb hl g l s w H hr

/-- The value of a route of a kind. -/
def NL.val (x : NL) : Nat → List Int
  | 1 => x.val1
  | 2 => x.val2
  | 3 => x.val3
  | 4 => x.val4
  | _ => x.val5
/-- The function that writes it. -/
def fwr : Nat → FuncId
  | 1 => 95
  | 2 => 112
  | 3 => 120
  | 4 => 123
  | _ => 126
theorem write_any (k : Nat) (h1 : 1 ≤ k) (h5 : k ≤ 5) (x : NL) (hx : x.ok) (g : Nat) (l : List Nat) (s : WS) (w : World) (H : WrL w l g s) (hr : s.out.length + 40 ≤ s.lim) :
    Calls Try.prog (fwr k) #[.agg #[], .pointer (some ⟨g, 0, none⟩), .agg x.cs] w fun e w' => e = .returned (.tuple #[]) ∧ ∃ l', WrL w' l' g (s.add (x.val k)) ∧ Next w l w' l' := by
  have h : k = 1 ∨ k = 2 ∨ k = 3 ∨ k = 4 ∨ k = 5 := by omega
  rcases h with rfl | rfl | rfl | rfl | rfl
  · exact write1 x hx g l s w H hr
  · exact write2 x hx g l s w H hr
  · exact write3 x hx g l s w H hr
  · exact write4 x hx g l s w H hr
  · exact write5 x hx g l s w H hr

theorem meth_write (k : Nat) (h1 : 1 ≤ k) (h5 : k ≤ 5) (n : Nat) (w : World) : (method (n + 1) (tk k) (.agg #[]) "leafmesh/nlri.write").run Try.prog w = .ok (fwr k, .agg #[]) w := by
  have q1 : (method (n + 1) (tk 1) (.agg #[]) "leafmesh/nlri.write").run Try.prog w = .ok (fwr 1, .agg #[]) w := by kernel_rfl
  have q2 : (method (n + 1) (tk 2) (.agg #[]) "leafmesh/nlri.write").run Try.prog w = .ok (fwr 2, .agg #[]) w := by kernel_rfl
  have q3 : (method (n + 1) (tk 3) (.agg #[]) "leafmesh/nlri.write").run Try.prog w = .ok (fwr 3, .agg #[]) w := by kernel_rfl
  have q4 : (method (n + 1) (tk 4) (.agg #[]) "leafmesh/nlri.write").run Try.prog w = .ok (fwr 4, .agg #[]) w := by kernel_rfl
  have q5 : (method (n + 1) (tk 5) (.agg #[]) "leafmesh/nlri.write").run Try.prog w = .ok (fwr 5, .agg #[]) w := by kernel_rfl
  have h : k = 1 ∨ k = 2 ∨ k = 3 ∨ k = 4 ∨ k = 5 := by omega
  rcases h with rfl | rfl | rfl | rfl | rfl
  · exact q1
  · exact q2
  · exact q3
  · exact q4
  · exact q5

theorem call_write (k : Nat) (h1 : 1 ≤ k) (h5 : k ≤ 5) (args : Array Value) (w : World) : (callFunc (fwr k) args).run Try.prog w = .ok (.enter (fwr k) args) w := by
  have q1 : (callFunc (fwr 1) args).run Try.prog w = .ok (.enter (fwr 1) args) w := by kernel_rfl
  have q2 : (callFunc (fwr 2) args).run Try.prog w = .ok (.enter (fwr 2) args) w := by kernel_rfl
  have q3 : (callFunc (fwr 3) args).run Try.prog w = .ok (.enter (fwr 3) args) w := by kernel_rfl
  have q4 : (callFunc (fwr 4) args).run Try.prog w = .ok (.enter (fwr 4) args) w := by kernel_rfl
  have q5 : (callFunc (fwr 5) args).run Try.prog w = .ok (.enter (fwr 5) args) w := by kernel_rfl
  have h : k = 1 ∨ k = 2 ∨ k = 3 ∨ k = 4 ∨ k = 5 := by omega
  rcases h with rfl | rfl | rfl | rfl | rfl
  · exact q1
  · exact q2
  · exact q3
  · exact q4
  · exact q5

end Go.Proofs.Ythhajknmokomjaa
