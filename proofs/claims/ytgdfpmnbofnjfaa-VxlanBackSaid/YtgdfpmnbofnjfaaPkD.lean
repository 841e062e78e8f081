/- Packets: what is written of each kind. -/
import Derived.Test.YtgdfpmnbofnjfaaPkC
import Derived.Test.YtgdfpmnbofnjfaaPkT
import Derived.Test.YtgdfpmnbofnjfaaWrG
import Derived.Test.YtgdfpmnbofnjfaaBkA
namespace Go.Proofs.Ytgdfpmnbofnjfaa
open Go.RowKit Go.Shelf
set_option linter.unusedVariables false
set_option linter.unusedSimpArgs false
set_option maxRecDepth 100000


def WS.add (s : WS) (xs : List Int) : WS := { s with out := s.out ++ xs }
theorem WS.add_nil (s : WS) : s.add [] = s := by simp [WS.add]
theorem WS.add_out (s : WS) (xs : List Int) : (s.add xs).out = s.out ++ xs := rfl
theorem WS.put_add {s : WS} {L : List Int} {v : Int} {m : Nat} (h1 : v < 256 ^ m) (hr : s.out.length + (L.length + m) ≤ s.lim) : (s.add L).put v m = (0, s.add (L ++ be v m)) := by
  unfold WS.put
  rw [if_neg (by omega), if_neg (by simp [WS.add]; omega)]
  simp [WS.add]
theorem WS.putB_add {s : WS} {L xs : List Int} (hr : s.out.length + (L.length + xs.length) ≤ s.lim) : (s.add L).putB xs = (0, s.add (L ++ xs)) := by
  unfold WS.putB
  rw [if_neg (by simp [WS.add]; omega)]
  simp [WS.add]

/-- A number that fits was written. -/
def Fit (g : Nat) (l : List Nat) (s : WS) (w : World) (e : Ending) (w' : World) : Prop := e = .returned (.int .i64 0) ∧ ∃ l', WrL w' l' g s ∧ Next w l w' l'

theorem fit1 (g : Nat) (l : List Nat) (s : WS) (L : List Int) (w : World) (H : WrL w l g (s.add L)) (v : Int) (h0 : 0 ≤ v) (h1 : v < 256 ^ 1) (hr : s.out.length + (L.length + 1) ≤ s.lim) :
    Calls Try.prog 65 #[.pointer (some ⟨g, 0, none⟩), .int .u64 v] w (Fit g l (s.add (L ++ be v 1)) w) := by
  have hp := WS.put_add (s := s) (L := L) h1 hr
  have h := wU1L g l (s.add L) w H v h0 (by omega)
  rw [hp] at h
  exact h

theorem fit2 (g : Nat) (l : List Nat) (s : WS) (L : List Int) (w : World) (H : WrL w l g (s.add L)) (v : Int) (h0 : 0 ≤ v) (h1 : v < 256 ^ 2) (hr : s.out.length + (L.length + 2) ≤ s.lim) :
    Calls Try.prog 53 #[.pointer (some ⟨g, 0, none⟩), .int .u64 v] w (Fit g l (s.add (L ++ be v 2)) w) := by
  have hp := WS.put_add (s := s) (L := L) h1 hr
  have h := wU2L g l (s.add L) w H v h0 (by omega)
  rw [hp] at h
  exact h

theorem fit4 (g : Nat) (l : List Nat) (s : WS) (L : List Int) (w : World) (H : WrL w l g (s.add L)) (v : Int) (h0 : 0 ≤ v) (h1 : v < 256 ^ 4) (hr : s.out.length + (L.length + 4) ≤ s.lim) :
    Calls Try.prog 64 #[.pointer (some ⟨g, 0, none⟩), .int .u64 v] w (Fit g l (s.add (L ++ be v 4)) w) := by
  have hp := WS.put_add (s := s) (L := L) h1 hr
  have h := wU4L g l (s.add L) w H v h0 (by omega)
  rw [hp] at h
  exact h

theorem fit6 (g : Nat) (l : List Nat) (s : WS) (L : List Int) (w : World) (H : WrL w l g (s.add L)) (v : Int) (h0 : 0 ≤ v) (h1 : v < 256 ^ 6) (hr : s.out.length + (L.length + 6) ≤ s.lim) :
    Calls Try.prog 52 #[.pointer (some ⟨g, 0, none⟩), .int .u64 v] w (Fit g l (s.add (L ++ be v 6)) w) := by
  have hp := WS.put_add (s := s) (L := L) h1 hr
  have h := wU6L g l (s.add L) w H v h0 (by omega)
  rw [hp] at h
  exact h

theorem fit8 (g : Nat) (l : List Nat) (s : WS) (L : List Int) (w : World) (H : WrL w l g (s.add L)) (v : Int) (h0 : 0 ≤ v) (h1 : v < 256 ^ 8) (hr : s.out.length + (L.length + 8) ≤ s.lim) :
    Calls Try.prog 54 #[.pointer (some ⟨g, 0, none⟩), .int .u64 v] w (Fit g l (s.add (L ++ be v 8)) w) := by
  have hp := WS.put_add (s := s) (L := L) h1 hr
  have h := wU8L g l (s.add L) w H v h0 (by omega)
  rw [hp] at h
  exact h

theorem fitB (g : Nat) (l : List Nat) (s : WS) (L : List Int) (w : World) (H : WrL w l g (s.add L)) (h0 m c : Nat) (xs : List Int) (hm : xs.length = m) (hx : ∀ v ∈ xs, 0 ≤ v ∧ v ≤ 255) (hsl : Sl w h0 0 xs) (hfar : h0 ∉ l) (hlt : h0 < w.heap.size) (hr : s.out.length + (L.length + xs.length) ≤ s.lim) (hm2 : xs.length ≤ 1000000) :
    Calls Try.prog 118 #[.pointer (some ⟨g, 0, none⟩), .slice (some ⟨h0, 0, none⟩) m c] w (Fit g l (s.add (L ++ xs)) w) := by
  obtain ⟨A, cc, b, n, hl, hw⟩ := H
  subst hl
  have h := (wbytes _ _ _ _ _ _ _ hw h0 0 m c xs hm (by omega) hx hsl hfar hlt).mono fun _ _ h => h.next
  have hp := WS.putB_add (s := s) (L := L) (xs := xs) hr
  rw [hp] at h
  exact h

/-- Between two calls: the writer, and a box of one's own. -/
structure PB (w : World) (l0 : List Nat) (g B : Nat) (t : TypeId) (cs : Array Value) (s : WS) (l : List Nat) (W : World) : Prop where
  wr : WrL W l g s
  box : Has W B t cs
  far : B ∉ l
  nx : Next w l0 W l
theorem PB.step {w W W' : World} {l0 l l' : List Nat} {g B : Nat} {t : TypeId} {cs : Array Value} {s s' : WS} (H : PB w l0 g B t cs s l W) (hw : WrL W' l' g s') (hn : Next W l W' l') : PB w l0 g B t cs s' l' W' :=
  ⟨hw, H.box.turn hn.1 H.far, fun hk => by
    rcases hn.2 B hk with h | h
    · exact H.far h
    · have := H.box.lt; omega, H.nx.trans hn⟩
theorem PB.below {w W W' : World} {l0 l : List Nat} {g B : Nat} {t : TypeId} {cs : Array Value} {s : WS} (H : PB w l0 g B t cs s l W) (hb : Below W.heap.size W W') : PB w l0 g B t cs s l W' :=
  ⟨H.wr.below hb, H.box.below hb, H.far, H.nx.trans ⟨turn_below hb l, fun k hk => .inl hk⟩⟩
theorem Next.alloc {w W : World} {l0 l : List Nat} (h : Next w l0 W l) (o : Obj) : Next w l0 (W.alloc o) l := ⟨h.1.alloc o, h.2⟩
theorem PB.start {w W : World} {l0 l : List Nat} {g : Nat} {s : WS} (t : TypeId) (cs : Array Value) (H : WrL W l g s) (hn : Next w l0 W l) : PB w l0 g W.heap.size t cs s l (W.alloc (.cells cs t)) :=
  ⟨H.below ((Below.refl _ W).alloc (Nat.le_refl _) _), Has.new _ _ _, fun h => by have := H.lt _ h; omega, hn.alloc _⟩

/-- The IPv4 header. -/
def hsz (x : FR) : Int := if pd x.pr then 36 else 28
def hdr (x : FR) (s : Int) : List Int := be 17664 2 ++ be (hsz x) 2 ++ be 0 4 ++ be x.tl 1 ++ be x.pr 1 ++ be s 2 ++ be x.hs 4 ++ be x.hd 4
theorem hdr_len (x : FR) (s : Int) : (hdr x s).length = 20 := by simp [hdr, be_length]
theorem hdr_byte (x : FR) (s : Int) : ∀ v ∈ hdr x s, 0 ≤ v ∧ v ≤ 255 := by
  intro v hv
  simp only [hdr, List.mem_append] at hv
  rcases hv with ((((((h | h) | h) | h) | h) | h) | h) | h <;> exact be_byte _ _ _ h
/-- The parts as bytes. -/
def bodyA (x : FR) : List Int := [0, 1, 8, 0, 6, 4] ++ be x.op 2 ++ be x.sm 6 ++ be x.si 4 ++ be x.tm 6 ++ be x.ti 4
def hdrS (x : FR) : List Int := hdr x (sumP (hdr x 0))
def bodyH (x : FR) : List Int := if pd x.pr then hdrS x ++ be x.sp 2 ++ be x.dp 2 ++ be 16 2 ++ be 0 2 else hdrS x

structure FR.okA (x : FR) : Prop where
  op : 0 ≤ x.op ∧ x.op ≤ 2
  sm : 0 ≤ x.sm ∧ x.sm ≤ 281474976710655
  si : 0 ≤ x.si ∧ x.si < 4294967296
  tm : 0 ≤ x.tm ∧ x.tm ≤ 281474976710655
  ti : 0 ≤ x.ti ∧ x.ti < 4294967296
structure FR.okH (x : FR) : Prop where
  hs : 0 ≤ x.hs ∧ x.hs < 4294967296
  hd : 0 ≤ x.hd ∧ x.hd < 4294967296
  tl : 0 ≤ x.tl ∧ x.tl ≤ 255
  pr : 0 ≤ x.pr ∧ x.pr ≤ 255
  sp : 0 ≤ x.sp ∧ x.sp ≤ 65535
  dp : 0 ≤ x.dp ∧ x.dp ≤ 65535
theorem sumP_le (bs : List Int) (h : ∀ v ∈ bs, 0 ≤ v ∧ v ≤ 255) : 0 ≤ sumP bs ∧ sumP bs ≤ 65535 := by
  have key : ∀ (n : Nat) (l : List Int) (hn : l.length ≤ n) (hl : ∀ v ∈ l, 0 ≤ v ∧ v ≤ 255), ∀ v ∈ nums l, 0 ≤ v ∧ v ≤ 65535 := by
    intro n
    induction n with
    | zero => intro l hn hl v hv; obtain rfl := List.eq_nil_of_length_eq_zero (Nat.le_zero.1 hn); simp [nums] at hv
    | succ n ih =>
      intro l hn hl v hv
      match l with
      | [] => simp [nums] at hv
      | [a] =>
        have := hl a (by simp)
        simp [nums] at hv
        omega
      | a :: b :: r =>
        have h1 := hl a (by simp)
        have h2 := hl b (by simp)
        simp only [nums, List.mem_cons] at hv
        rcases hv with rfl | hv
        · omega
        · exact ih r (by simp at hn; omega) (fun u hu => hl u (by simp [hu])) v hv
  have k2 : ∀ (l : List Int) (s : Int), 0 ≤ s ∧ s ≤ 65535 → (∀ v ∈ l, 0 ≤ v ∧ v ≤ 65535) → 0 ≤ l.foldl stp s ∧ l.foldl stp s ≤ 65535 := by
    intro l
    induction l with
    | nil => exact fun s h _ => h
    | cons x l ih => exact fun s h hl => ih _ (stp_le h.1 h.2 (hl x (by simp)).1 (hl x (by simp)).2) (fun v hv => hl v (by simp [hv]))
  have := k2 (nums bs) 0 (by omega) (key _ bs (Nat.le_refl _) h)
  unfold sumP sacc
  omega

set_option maxHeartbeats 2000000 in
theorem header_true (x : FR) (hx : x.okH) (hp : pd x.pr = true) (sm : Int) (hs0 : 0 ≤ sm) (hs1 : sm ≤ 65535) (w : World) :
    Calls Try.prog 123 #[.agg x.hc, .int .u16 sm] w fun e w' => (∃ v, e = .returned v ∧ Copied w' w.heap.size v (hdr x sm)) ∧ Below w.heap.size w w' := by
  unfold FR.hc
  obtain ⟨hhs0, hhs1⟩ := hx.hs
  obtain ⟨hhd0, hhd1⟩ := hx.hd
  obtain ⟨htl0, htl1⟩ := hx.tl
  obtain ⟨hpr0, hpr1⟩ := hx.pr
  obtain ⟨hsp0, hsp1⟩ := hx.sp
  obtain ⟨hdp0, hdp1⟩ := hx.dp
  have HFin : Hid (be 17664 2 ++ be 36 2 ++ be 0 4 ++ be x.tl 1 ++ be x.pr 1 ++ be sm 2 ++ be x.hs 4 ++ be x.hd 4 = hdr x sm) := Lib.hid (by unfold hdr hsz; rw [hp]; rfl)
  clear hx
  go_enter Try.func123, Try.ntmps123
  go_wp2_with fail
  refine (ported_any _ _).mono ?_
  rintro e w9 ⟨rfl, rfl⟩
  rw [hp]
  obtain ⟨W0, hW0⟩ : ∃ W0, w.alloc (.cells #[.int .u32 x.hs, .int .u32 x.hd, .int .i64 x.tl, .int .i64 x.pr, .int .i64 x.sp, .int .i64 x.dp] 106) = W0 := ⟨_, rfl⟩
  have HB0 : Hid (Has W0 w.heap.size 106 #[.int .u32 x.hs, .int .u32 x.hd, .int .i64 x.tl, .int .i64 x.pr, .int .i64 x.sp, .int .i64 x.dp]) := Lib.hid (hW0 ▸ Has.new _ _ _)
  have HL0 : Hid (Below w.heap.size w W0) := Lib.hid (hW0 ▸ (Below.refl _ w).alloc (Nat.le_refl _) _)
  rw [hW0]
  clear hW0
  go_wp2_with fail
  refine (wnewL 20 (by omega) _).mono ?_
  rintro e w8 ⟨g, l8, rfl, hwr, hk8, hb8⟩
  obtain ⟨s, hs⟩ : ∃ s : WS, (⟨20, [], []⟩ : WS) = s := ⟨_, rfl⟩
  have HLim : Hid (s.lim = 20 ∧ s.out = []) := Lib.hid (by rw [← hs]; exact ⟨rfl, rfl⟩)
  rw [hs, ← WS.add_nil s] at hwr
  have HW := Lib.hid (PB.mk (w := w) (l0 := []) (B := w.heap.size) hwr (HB0.out.below hb8) (fun hk => by have := hk8 _ hk; have := HB0.out.lt; omega) ⟨(turn_below (HL0.out.trans (hb8.mono HL0.out.size)) []), fun k hk => .inr (by have := hk8 k hk; have := HL0.out.size; omega)⟩)
  clear hwr hk8 hb8 hs hp HB0 HL0
  go_wp2_with fail
  refine (fit2 g _ s ([]) _ HW.out.wr 17664 (by omega) (by omega) (by simp [be_length, HLim.out.1, HLim.out.2]; try omega)).mono ?_
  rintro e0 w0 ⟨rfl, l0, hw, hn⟩
  have HV := Lib.hid (HW.out.step hw hn)
  clear hw hn HW
  have HW := HV
  clear HV
  go_wp2_with fail
  refine (fit2 g _ s (be 17664 2) _ HW.out.wr 36 (by omega) (by omega) (by simp [be_length, HLim.out.1, HLim.out.2]; try omega)).mono ?_
  rintro e1 w1 ⟨rfl, l1, hw, hn⟩
  have HV := Lib.hid (HW.out.step hw hn)
  clear hw hn HW
  have HW := HV
  clear HV
  go_wp2_with fail
  refine (fit4 g _ s (be 17664 2 ++ be 36 2) _ HW.out.wr 0 (by omega) (by omega) (by simp [be_length, HLim.out.1, HLim.out.2]; try omega)).mono ?_
  rintro e2 w2 ⟨rfl, l2, hw, hn⟩
  have HV := Lib.hid (HW.out.step hw hn)
  clear hw hn HW
  have HW := HV
  clear HV
  have c3 := HW.out.box.cell 2
  simp only [List.getElem?_toArray, List.getElem?_cons_zero, List.getElem?_cons_succ] at c3
  go_wp2_with fail
  refine (fit1 g _ s (be 17664 2 ++ be 36 2 ++ be 0 4) _ HW.out.wr x.tl (by omega) (by omega) (by simp [be_length, HLim.out.1, HLim.out.2]; try omega)).mono ?_
  rintro e3 w3 ⟨rfl, l3, hw, hn⟩
  have HV := Lib.hid (HW.out.step hw hn)
  clear hw hn HW c3
  have HW := HV
  clear HV
  have c4 := HW.out.box.cell 3
  simp only [List.getElem?_toArray, List.getElem?_cons_zero, List.getElem?_cons_succ] at c4
  go_wp2_with fail
  refine (fit1 g _ s (be 17664 2 ++ be 36 2 ++ be 0 4 ++ be x.tl 1) _ HW.out.wr x.pr (by omega) (by omega) (by simp [be_length, HLim.out.1, HLim.out.2]; try omega)).mono ?_
  rintro e4 w4 ⟨rfl, l4, hw, hn⟩
  have HV := Lib.hid (HW.out.step hw hn)
  clear hw hn HW c4
  have HW := HV
  clear HV
  go_wp2_with fail
  refine (fit2 g _ s (be 17664 2 ++ be 36 2 ++ be 0 4 ++ be x.tl 1 ++ be x.pr 1) _ HW.out.wr sm (by omega) (by omega) (by simp [be_length, HLim.out.1, HLim.out.2]; try omega)).mono ?_
  rintro e5 w5 ⟨rfl, l5, hw, hn⟩
  have HV := Lib.hid (HW.out.step hw hn)
  clear hw hn HW
  have HW := HV
  clear HV
  have c6 := HW.out.box.cell 0
  simp only [List.getElem?_toArray, List.getElem?_cons_zero, List.getElem?_cons_succ] at c6
  go_wp2_with fail
  refine (fit4 g _ s (be 17664 2 ++ be 36 2 ++ be 0 4 ++ be x.tl 1 ++ be x.pr 1 ++ be sm 2) _ HW.out.wr x.hs (by omega) (by omega) (by simp [be_length, HLim.out.1, HLim.out.2]; try omega)).mono ?_
  rintro e6 w6 ⟨rfl, l6, hw, hn⟩
  have HV := Lib.hid (HW.out.step hw hn)
  clear hw hn HW c6
  have HW := HV
  clear HV
  have c7 := HW.out.box.cell 1
  simp only [List.getElem?_toArray, List.getElem?_cons_zero, List.getElem?_cons_succ] at c7
  go_wp2_with fail
  refine (fit4 g _ s (be 17664 2 ++ be 36 2 ++ be 0 4 ++ be x.tl 1 ++ be x.pr 1 ++ be sm 2 ++ be x.hs 4) _ HW.out.wr x.hd (by omega) (by omega) (by simp [be_length, HLim.out.1, HLim.out.2]; try omega)).mono ?_
  rintro e7 w7 ⟨rfl, l7, hw, hn⟩
  have HV := Lib.hid (HW.out.step hw hn)
  clear hw hn HW c7
  have HW := HV
  clear HV
  go_wp2_with fail
  refine (woutL g _ _ _ HW.out.wr).mono ?_
  rintro e w10 ⟨⟨v, rfl, hv⟩, hb10⟩
  rw [WS.add_out, HLim.out.2, List.nil_append, HFin.out] at hv
  have hb : Below w.heap.size w w10 := (HW.out.nx.below (by simp) (Nat.le_refl _)).1.trans (hb10.mono (HW.out.nx.below (by simp) (Nat.le_refl _)).1.size)
  have hsz := (HW.out.nx.below (by simp) (Nat.le_refl _)).1.size
  have HC : Hid (Copied w10 w.heap.size v (hdr x sm)) := Lib.hid (by
    rcases hv with h | ⟨h', c', rfl, h2, h3⟩
    · exact .inl h
    · exact .inr ⟨h', c', rfl, h2, by omega⟩)
  have HBl := Lib.hid hb
  rcases hv with ⟨rfl, h⟩ | ⟨h', c', rfl, h2, h3⟩
  · exact absurd (congrArg List.length h) (by rw [hdr_len]; simp)
  clear h2 h3 hb hb10 HW hsz
  go_wp2_with fail
  go_ret
  exact ⟨⟨_, rfl, HC.out⟩, HBl.out⟩

set_option maxHeartbeats 2000000 in
theorem header_false (x : FR) (hx : x.okH) (hp : pd x.pr = false) (sm : Int) (hs0 : 0 ≤ sm) (hs1 : sm ≤ 65535) (w : World) :
    Calls Try.prog 123 #[.agg x.hc, .int .u16 sm] w fun e w' => (∃ v, e = .returned v ∧ Copied w' w.heap.size v (hdr x sm)) ∧ Below w.heap.size w w' := by
  unfold FR.hc
  obtain ⟨hhs0, hhs1⟩ := hx.hs
  obtain ⟨hhd0, hhd1⟩ := hx.hd
  obtain ⟨htl0, htl1⟩ := hx.tl
  obtain ⟨hpr0, hpr1⟩ := hx.pr
  obtain ⟨hsp0, hsp1⟩ := hx.sp
  obtain ⟨hdp0, hdp1⟩ := hx.dp
  have HFin : Hid (be 17664 2 ++ be 28 2 ++ be 0 4 ++ be x.tl 1 ++ be x.pr 1 ++ be sm 2 ++ be x.hs 4 ++ be x.hd 4 = hdr x sm) := Lib.hid (by unfold hdr hsz; rw [hp]; rfl)
  clear hx
  go_enter Try.func123, Try.ntmps123
  go_wp2_with fail
  refine (ported_any _ _).mono ?_
  rintro e w9 ⟨rfl, rfl⟩
  rw [hp]
  obtain ⟨W0, hW0⟩ : ∃ W0, w.alloc (.cells #[.int .u32 x.hs, .int .u32 x.hd, .int .i64 x.tl, .int .i64 x.pr, .int .i64 x.sp, .int .i64 x.dp] 106) = W0 := ⟨_, rfl⟩
  have HB0 : Hid (Has W0 w.heap.size 106 #[.int .u32 x.hs, .int .u32 x.hd, .int .i64 x.tl, .int .i64 x.pr, .int .i64 x.sp, .int .i64 x.dp]) := Lib.hid (hW0 ▸ Has.new _ _ _)
  have HL0 : Hid (Below w.heap.size w W0) := Lib.hid (hW0 ▸ (Below.refl _ w).alloc (Nat.le_refl _) _)
  rw [hW0]
  clear hW0
  go_wp2_with fail
  refine (wnewL 20 (by omega) _).mono ?_
  rintro e w8 ⟨g, l8, rfl, hwr, hk8, hb8⟩
  obtain ⟨s, hs⟩ : ∃ s : WS, (⟨20, [], []⟩ : WS) = s := ⟨_, rfl⟩
  have HLim : Hid (s.lim = 20 ∧ s.out = []) := Lib.hid (by rw [← hs]; exact ⟨rfl, rfl⟩)
  rw [hs, ← WS.add_nil s] at hwr
  have HW := Lib.hid (PB.mk (w := w) (l0 := []) (B := w.heap.size) hwr (HB0.out.below hb8) (fun hk => by have := hk8 _ hk; have := HB0.out.lt; omega) ⟨(turn_below (HL0.out.trans (hb8.mono HL0.out.size)) []), fun k hk => .inr (by have := hk8 k hk; have := HL0.out.size; omega)⟩)
  clear hwr hk8 hb8 hs hp HB0 HL0
  go_wp2_with fail
  refine (fit2 g _ s ([]) _ HW.out.wr 17664 (by omega) (by omega) (by simp [be_length, HLim.out.1, HLim.out.2]; try omega)).mono ?_
  rintro e0 w0 ⟨rfl, l0, hw, hn⟩
  have HV := Lib.hid (HW.out.step hw hn)
  clear hw hn HW
  have HW := HV
  clear HV
  go_wp2_with fail
  refine (fit2 g _ s (be 17664 2) _ HW.out.wr 28 (by omega) (by omega) (by simp [be_length, HLim.out.1, HLim.out.2]; try omega)).mono ?_
  rintro e1 w1 ⟨rfl, l1, hw, hn⟩
  have HV := Lib.hid (HW.out.step hw hn)
  clear hw hn HW
  have HW := HV
  clear HV
  go_wp2_with fail
  refine (fit4 g _ s (be 17664 2 ++ be 28 2) _ HW.out.wr 0 (by omega) (by omega) (by simp [be_length, HLim.out.1, HLim.out.2]; try omega)).mono ?_
  rintro e2 w2 ⟨rfl, l2, hw, hn⟩
  have HV := Lib.hid (HW.out.step hw hn)
  clear hw hn HW
  have HW := HV
  clear HV
  have c3 := HW.out.box.cell 2
  simp only [List.getElem?_toArray, List.getElem?_cons_zero, List.getElem?_cons_succ] at c3
  go_wp2_with fail
  refine (fit1 g _ s (be 17664 2 ++ be 28 2 ++ be 0 4) _ HW.out.wr x.tl (by omega) (by omega) (by simp [be_length, HLim.out.1, HLim.out.2]; try omega)).mono ?_
  rintro e3 w3 ⟨rfl, l3, hw, hn⟩
  have HV := Lib.hid (HW.out.step hw hn)
  clear hw hn HW c3
  have HW := HV
  clear HV
  have c4 := HW.out.box.cell 3
  simp only [List.getElem?_toArray, List.getElem?_cons_zero, List.getElem?_cons_succ] at c4
  go_wp2_with fail
  refine (fit1 g _ s (be 17664 2 ++ be 28 2 ++ be 0 4 ++ be x.tl 1) _ HW.out.wr x.pr (by omega) (by omega) (by simp [be_length, HLim.out.1, HLim.out.2]; try omega)).mono ?_
  rintro e4 w4 ⟨rfl, l4, hw, hn⟩
  have HV := Lib.hid (HW.out.step hw hn)
  clear hw hn HW c4
  have HW := HV
  clear HV
  go_wp2_with fail
  refine (fit2 g _ s (be 17664 2 ++ be 28 2 ++ be 0 4 ++ be x.tl 1 ++ be x.pr 1) _ HW.out.wr sm (by omega) (by omega) (by simp [be_length, HLim.out.1, HLim.out.2]; try omega)).mono ?_
  rintro e5 w5 ⟨rfl, l5, hw, hn⟩
  have HV := Lib.hid (HW.out.step hw hn)
  clear hw hn HW
  have HW := HV
  clear HV
  have c6 := HW.out.box.cell 0
  simp only [List.getElem?_toArray, List.getElem?_cons_zero, List.getElem?_cons_succ] at c6
  go_wp2_with fail
  refine (fit4 g _ s (be 17664 2 ++ be 28 2 ++ be 0 4 ++ be x.tl 1 ++ be x.pr 1 ++ be sm 2) _ HW.out.wr x.hs (by omega) (by omega) (by simp [be_length, HLim.out.1, HLim.out.2]; try omega)).mono ?_
  rintro e6 w6 ⟨rfl, l6, hw, hn⟩
  have HV := Lib.hid (HW.out.step hw hn)
  clear hw hn HW c6
  have HW := HV
  clear HV
  have c7 := HW.out.box.cell 1
  simp only [List.getElem?_toArray, List.getElem?_cons_zero, List.getElem?_cons_succ] at c7
  go_wp2_with fail
  refine (fit4 g _ s (be 17664 2 ++ be 28 2 ++ be 0 4 ++ be x.tl 1 ++ be x.pr 1 ++ be sm 2 ++ be x.hs 4) _ HW.out.wr x.hd (by omega) (by omega) (by simp [be_length, HLim.out.1, HLim.out.2]; try omega)).mono ?_
  rintro e7 w7 ⟨rfl, l7, hw, hn⟩
  have HV := Lib.hid (HW.out.step hw hn)
  clear hw hn HW c7
  have HW := HV
  clear HV
  go_wp2_with fail
  refine (woutL g _ _ _ HW.out.wr).mono ?_
  rintro e w10 ⟨⟨v, rfl, hv⟩, hb10⟩
  rw [WS.add_out, HLim.out.2, List.nil_append, HFin.out] at hv
  have hb : Below w.heap.size w w10 := (HW.out.nx.below (by simp) (Nat.le_refl _)).1.trans (hb10.mono (HW.out.nx.below (by simp) (Nat.le_refl _)).1.size)
  have hsz := (HW.out.nx.below (by simp) (Nat.le_refl _)).1.size
  have HC : Hid (Copied w10 w.heap.size v (hdr x sm)) := Lib.hid (by
    rcases hv with h | ⟨h', c', rfl, h2, h3⟩
    · exact .inl h
    · exact .inr ⟨h', c', rfl, h2, by omega⟩)
  have HBl := Lib.hid hb
  rcases hv with ⟨rfl, h⟩ | ⟨h', c', rfl, h2, h3⟩
  · exact absurd (congrArg List.length h) (by rw [hdr_len]; simp)
  clear h2 h3 hb hb10 HW hsz
  go_wp2_with fail
  go_ret
  exact ⟨⟨_, rfl, HC.out⟩, HBl.out⟩

theorem header_any (x : FR) (hx : x.okH) (sm : Int) (hs0 : 0 ≤ sm) (hs1 : sm ≤ 65535) (w : World) :
    Calls Try.prog 123 #[.agg x.hc, .int .u16 sm] w fun e w' => (∃ v, e = .returned v ∧ Copied w' w.heap.size v (hdr x sm)) ∧ Below w.heap.size w w' := by
  cases hp : pd x.pr
  · exact header_false x hx hp sm hs0 hs1 w
  · exact header_true x hx hp sm hs0 hs1 w

end Go.Proofs.Ytgdfpmnbofnjfaa
