/- Packets: what is written of each kind. -/
import Derived.Test.YtgdfpmnbofnjfaaZPa
import Derived.Test.YtgdfpmnbofnjfaaZWr
import Derived.Test.YtgdfpmnbofnjfaaZLw
import Derived.Lib.SlBytesConst
import Derived.Deep.RegionHeld3
import Derived.Deep.DeepCutAuto
namespace Go.Proofs.Ytgdfpmnbofnjfaa
open Go.RowKit Go.Shelf
set_option linter.unusedVariables false
set_option linter.unusedSimpArgs false
set_option maxRecDepth 100000


def WS.add (s : WS) (xs : List Int) : WS := { s with out := s.out ++ xs }
theorem WS.add_nil (s : WS) : s.add [] = s := by simp [WS.add]
theorem WS.add_out (s : WS) (xs : List Int) : (s.add xs).out = s.out ++ xs := rfl
theorem WS.put_add {s : WS} {L : List Int} {v : Int} {m : Nat} (h1 : v < 256 ^ m) (hr : s.out.length + (L.length + m) ≤ s.lim) : (s.add L).put v m = (0, s.add (L ++ be v m)) := by
  unfold WS.put
  rw [if_neg (by omega), if_neg (by simp [WS.add]; omega)]
  simp [WS.add]
theorem WS.putB_add {s : WS} {L xs : List Int} (hr : s.out.length + (L.length + xs.length) ≤ s.lim) : (s.add L).putB xs = (0, s.add (L ++ xs)) := by
  unfold WS.putB
  rw [if_neg (by simp [WS.add]; omega)]
  simp [WS.add]

/-- A number that fits was written. -/
def Fit (g : Nat) (l : List Nat) (s : WS) (w : World) (e : Ending) (w' : World) : Prop := e = .returned (.int .i64 0) ∧ ∃ l', WrL w' l' g s ∧ Next w l w' l'

theorem fit1 (g : Nat) (l : List Nat) (s : WS) (L : List Int) (w : World) (H : WrL w l g (s.add L)) (v : Int) (h0 : 0 ≤ v) (h1 : v < 256 ^ 1) (hr : s.out.length + (L.length + 1) ≤ s.lim) :
    Calls Try.prog 65 #[.pointer (some ⟨g, 0, none⟩), .int .u64 v] w (Fit g l (s.add (L ++ be v 1)) w) := by
  have hp := WS.put_add (s := s) (L := L) h1 hr
  have h := wU1L g l (s.add L) w H v h0 (by omega)
  rw [hp] at h
  exact h

theorem fit2 (g : Nat) (l : List Nat) (s : WS) (L : List Int) (w : World) (H : WrL w l g (s.add L)) (v : Int) (h0 : 0 ≤ v) (h1 : v < 256 ^ 2) (hr : s.out.length + (L.length + 2) ≤ s.lim) :
    Calls Try.prog 53 #[.pointer (some ⟨g, 0, none⟩), .int .u64 v] w (Fit g l (s.add (L ++ be v 2)) w) := by
  have hp := WS.put_add (s := s) (L := L) h1 hr
  have h := wU2L g l (s.add L) w H v h0 (by omega)
  rw [hp] at h
  exact h

theorem fit4 (g : Nat) (l : List Nat) (s : WS) (L : List Int) (w : World) (H : WrL w l g (s.add L)) (v : Int) (h0 : 0 ≤ v) (h1 : v < 256 ^ 4) (hr : s.out.length + (L.length + 4) ≤ s.lim) :
    Calls Try.prog 64 #[.pointer (some ⟨g, 0, none⟩), .int .u64 v] w (Fit g l (s.add (L ++ be v 4)) w) := by
  have hp := WS.put_add (s := s) (L := L) h1 hr
  have h := wU4L g l (s.add L) w H v h0 (by omega)
  rw [hp] at h
  exact h

theorem fit6 (g : Nat) (l : List Nat) (s : WS) (L : List Int) (w : World) (H : WrL w l g (s.add L)) (v : Int) (h0 : 0 ≤ v) (h1 : v < 256 ^ 6) (hr : s.out.length + (L.length + 6) ≤ s.lim) :
    Calls Try.prog 52 #[.pointer (some ⟨g, 0, none⟩), .int .u64 v] w (Fit g l (s.add (L ++ be v 6)) w) := by
  have hp := WS.put_add (s := s) (L := L) h1 hr
  have h := wU6L g l (s.add L) w H v h0 (by omega)
  rw [hp] at h
  exact h

theorem fit8 (g : Nat) (l : List Nat) (s : WS) (L : List Int) (w : World) (H : WrL w l g (s.add L)) (v : Int) (h0 : 0 ≤ v) (h1 : v < 256 ^ 8) (hr : s.out.length + (L.length + 8) ≤ s.lim) :
    Calls Try.prog 54 #[.pointer (some ⟨g, 0, none⟩), .int .u64 v] w (Fit g l (s.add (L ++ be v 8)) w) := by
  have hp := WS.put_add (s := s) (L := L) h1 hr
  have h := wU8L g l (s.add L) w H v h0 (by omega)
  rw [hp] at h
  exact h

theorem fitB (g : Nat) (l : List Nat) (s : WS) (L : List Int) (w : World) (H : WrL w l g (s.add L)) (h0 m c : Nat) (xs : List Int) (hm : xs.length = m) (hx : ∀ v ∈ xs, 0 ≤ v ∧ v ≤ 255) (hsl : Sl w h0 0 xs) (hfar : h0 ∉ l) (hlt : h0 < w.heap.size) (hr : s.out.length + (L.length + xs.length) ≤ s.lim) (hm2 : xs.length ≤ 1000000) :
    Calls Try.prog 118 #[.pointer (some ⟨g, 0, none⟩), .slice (some ⟨h0, 0, none⟩) m c] w (Fit g l (s.add (L ++ xs)) w) := by
  obtain ⟨A, cc, b, n, hl, hw⟩ := H
  subst hl
  have h := (wbytes _ _ _ _ _ _ _ hw h0 0 m c xs hm (by omega) hx hsl hfar hlt).mono fun _ _ h => h.next
  have hp := WS.putB_add (s := s) (L := L) (xs := xs) hr
  rw [hp] at h
  exact h

/-- Between two calls: the writer, and a box of one's own. -/
structure PB (w : World) (l0 : List Nat) (g B : Nat) (t : TypeId) (cs : Array Value) (s : WS) (l : List Nat) (W : World) : Prop where
  wr : WrL W l g s
  box : Has W B t cs
  far : B ∉ l
  nx : Next w l0 W l
theorem PB.step {w W W' : World} {l0 l l' : List Nat} {g B : Nat} {t : TypeId} {cs : Array Value} {s s' : WS} (H : PB w l0 g B t cs s l W) (hw : WrL W' l' g s') (hn : Next W l W' l') : PB w l0 g B t cs s' l' W' :=
  ⟨hw, H.box.turn hn.1 H.far, fun hk => by
    rcases hn.2 B hk with h | h
    · exact H.far h
    · have := H.box.lt; omega, H.nx.trans hn⟩
theorem PB.below {w W W' : World} {l0 l : List Nat} {g B : Nat} {t : TypeId} {cs : Array Value} {s : WS} (H : PB w l0 g B t cs s l W) (hb : Below W.heap.size W W') : PB w l0 g B t cs s l W' :=
  ⟨H.wr.below hb, H.box.below hb, H.far, H.nx.trans ⟨turn_below hb l, fun k hk => .inl hk⟩⟩
theorem Next.alloc {w W : World} {l0 l : List Nat} (h : Next w l0 W l) (o : Obj) : Next w l0 (W.alloc o) l := ⟨h.1.alloc o, h.2⟩
theorem PB.start {w W : World} {l0 l : List Nat} {g : Nat} {s : WS} (t : TypeId) (cs : Array Value) (H : WrL W l g s) (hn : Next w l0 W l) : PB w l0 g W.heap.size t cs s l (W.alloc (.cells cs t)) :=
  ⟨H.below ((Below.refl _ W).alloc (Nat.le_refl _) _), Has.new _ _ _, fun h => by have := H.lt _ h; omega, hn.alloc _⟩

/-- The IPv4 header. -/
def hsz (x : FR) : Int := if pd x.pr then 36 else 28
def hdr (x : FR) (s : Int) : List Int := be 17664 2 ++ be (hsz x) 2 ++ be 0 4 ++ be x.tl 1 ++ be x.pr 1 ++ be s 2 ++ be x.hs 4 ++ be x.hd 4
theorem hdr_len (x : FR) (s : Int) : (hdr x s).length = 20 := by simp [hdr, be_length]
theorem hdr_byte (x : FR) (s : Int) : ∀ v ∈ hdr x s, 0 ≤ v ∧ v ≤ 255 := by
  intro v hv
  simp only [hdr, List.mem_append] at hv
  rcases hv with ((((((h | h) | h) | h) | h) | h) | h) | h <;> exact be_byte _ _ _ h
/-- The parts as bytes. -/
def bodyA (x : FR) : List Int := [0, 1, 8, 0, 6, 4] ++ be x.op 2 ++ be x.sm 6 ++ be x.si 4 ++ be x.tm 6 ++ be x.ti 4
def hdrS (x : FR) : List Int := hdr x (sumP (hdr x 0))
def bodyH (x : FR) : List Int := if pd x.pr then hdrS x ++ be x.sp 2 ++ be x.dp 2 ++ be 16 2 ++ be 0 2 else hdrS x

structure FR.okA (x : FR) : Prop where
  op : 0 ≤ x.op ∧ x.op ≤ 2
  sm : 0 ≤ x.sm ∧ x.sm ≤ 281474976710655
  si : 0 ≤ x.si ∧ x.si < 4294967296
  tm : 0 ≤ x.tm ∧ x.tm ≤ 281474976710655
  ti : 0 ≤ x.ti ∧ x.ti < 4294967296
structure FR.okH (x : FR) : Prop where
  hs : 0 ≤ x.hs ∧ x.hs < 4294967296
  hd : 0 ≤ x.hd ∧ x.hd < 4294967296
  tl : 0 ≤ x.tl ∧ x.tl ≤ 255
  pr : 0 ≤ x.pr ∧ x.pr ≤ 255
  sp : 0 ≤ x.sp ∧ x.sp ≤ 65535
  dp : 0 ≤ x.dp ∧ x.dp ≤ 65535
theorem sumP_le (bs : List Int) (h : ∀ v ∈ bs, 0 ≤ v ∧ v ≤ 255) : 0 ≤ sumP bs ∧ sumP bs ≤ 65535 := by
  have key : ∀ (n : Nat) (l : List Int) (hn : l.length ≤ n) (hl : ∀ v ∈ l, 0 ≤ v ∧ v ≤ 255), ∀ v ∈ nums l, 0 ≤ v ∧ v ≤ 65535 := by
    intro n
    induction n with
    | zero => intro l hn hl v hv; obtain rfl := List.eq_nil_of_length_eq_zero (Nat.le_zero.1 hn); simp [nums] at hv
    | succ n ih =>
      intro l hn hl v hv
      match l with
      | [] => simp [nums] at hv
      | [a] =>
        have := hl a (by simp)
        simp [nums] at hv
        omega
      | a :: b :: r =>
        have h1 := hl a (by simp)
        have h2 := hl b (by simp)
        simp only [nums, List.mem_cons] at hv
        rcases hv with rfl | hv
        · omega
        · exact ih r (by simp at hn; omega) (fun u hu => hl u (by simp [hu])) v hv
  have k2 : ∀ (l : List Int) (s : Int), 0 ≤ s ∧ s ≤ 65535 → (∀ v ∈ l, 0 ≤ v ∧ v ≤ 65535) → 0 ≤ l.foldl stp s ∧ l.foldl stp s ≤ 65535 := by
    intro l
    induction l with
    | nil => exact fun s h _ => h
    | cons x l ih => exact fun s h hl => ih _ (stp_le h.1 h.2 (hl x (by simp)).1 (hl x (by simp)).2) (fun v hv => hl v (by simp [hv]))
  have := k2 (nums bs) 0 (by omega) (key _ bs (Nat.le_refl _) h)
  unfold sumP sacc
  omega

set_option maxHeartbeats 2000000 in
theorem header_true (x : FR) (hx : x.okH) (hp : pd x.pr = true) (sm : Int) (hs0 : 0 ≤ sm) (hs1 : sm ≤ 65535) (w : World) :
    Calls Try.prog 123 #[.agg x.hc, .int .u16 sm] w fun e w' => (∃ v, e = .returned v ∧ Copied w' w.heap.size v (hdr x sm)) ∧ Below w.heap.size w w' := by
  unfold FR.hc
  obtain ⟨hhs0, hhs1⟩ := hx.hs
  obtain ⟨hhd0, hhd1⟩ := hx.hd
  obtain ⟨htl0, htl1⟩ := hx.tl
  obtain ⟨hpr0, hpr1⟩ := hx.pr
  obtain ⟨hsp0, hsp1⟩ := hx.sp
  obtain ⟨hdp0, hdp1⟩ := hx.dp
  have HFin : Hid (be 17664 2 ++ be 36 2 ++ be 0 4 ++ be x.tl 1 ++ be x.pr 1 ++ be sm 2 ++ be x.hs 4 ++ be x.hd 4 = hdr x sm) := Lib.hid (by unfold hdr hsz; rw [hp]; rfl)
  clear hx
  go_enter Try.func123, Try.ntmps123
  go_wp2_with fail
  refine (ported_any _ _).mono ?_
  rintro e w9 ⟨rfl, rfl⟩
  rw [hp]
  obtain ⟨W0, hW0⟩ : ∃ W0, w.alloc (.cells #[.int .u32 x.hs, .int .u32 x.hd, .int .i64 x.tl, .int .i64 x.pr, .int .i64 x.sp, .int .i64 x.dp] 106) = W0 := ⟨_, rfl⟩
  have HB0 : Hid (Has W0 w.heap.size 106 #[.int .u32 x.hs, .int .u32 x.hd, .int .i64 x.tl, .int .i64 x.pr, .int .i64 x.sp, .int .i64 x.dp]) := Lib.hid (hW0 ▸ Has.new _ _ _)
  have HL0 : Hid (Below w.heap.size w W0) := Lib.hid (hW0 ▸ (Below.refl _ w).alloc (Nat.le_refl _) _)
  rw [hW0]
  clear hW0
  go_wp2_with fail
  refine (wnewL 20 (by omega) _).mono ?_
  rintro e w8 ⟨g, l8, rfl, hwr, hk8, hb8⟩
  obtain ⟨s, hs⟩ : ∃ s : WS, (⟨20, [], []⟩ : WS) = s := ⟨_, rfl⟩
  have HLim : Hid (s.lim = 20 ∧ s.out = []) := Lib.hid (by rw [← hs]; exact ⟨rfl, rfl⟩)
  rw [hs, ← WS.add_nil s] at hwr
  have HW := Lib.hid (PB.mk (w := w) (l0 := []) (B := w.heap.size) hwr (HB0.out.below hb8) (fun hk => by have := hk8 _ hk; have := HB0.out.lt; omega) ⟨(turn_below (HL0.out.trans (hb8.mono HL0.out.size)) []), fun k hk => .inr (by have := hk8 k hk; have := HL0.out.size; omega)⟩)
  clear hwr hk8 hb8 hs hp HB0 HL0
  go_wp2_with fail
  refine (fit2 g _ s ([]) _ HW.out.wr 17664 (by omega) (by omega) (by simp [be_length, HLim.out.1, HLim.out.2]; try omega)).mono ?_
  rintro e0 w0 ⟨rfl, l0, hw, hn⟩
  have HV := Lib.hid (HW.out.step hw hn)
  clear hw hn HW
  have HW := HV
  clear HV
  go_wp2_with fail
  refine (fit2 g _ s (be 17664 2) _ HW.out.wr 36 (by omega) (by omega) (by simp [be_length, HLim.out.1, HLim.out.2]; try omega)).mono ?_
  rintro e1 w1 ⟨rfl, l1, hw, hn⟩
  have HV := Lib.hid (HW.out.step hw hn)
  clear hw hn HW
  have HW := HV
  clear HV
  go_wp2_with fail
  refine (fit4 g _ s (be 17664 2 ++ be 36 2) _ HW.out.wr 0 (by omega) (by omega) (by simp [be_length, HLim.out.1, HLim.out.2]; try omega)).mono ?_
  rintro e2 w2 ⟨rfl, l2, hw, hn⟩
  have HV := Lib.hid (HW.out.step hw hn)
  clear hw hn HW
  have HW := HV
  clear HV
  have c3 := HW.out.box.cell 2
  simp only [List.getElem?_toArray, List.getElem?_cons_zero, List.getElem?_cons_succ] at c3
  go_wp2_with fail
  refine (fit1 g _ s (be 17664 2 ++ be 36 2 ++ be 0 4) _ HW.out.wr x.tl (by omega) (by omega) (by simp [be_length, HLim.out.1, HLim.out.2]; try omega)).mono ?_
  rintro e3 w3 ⟨rfl, l3, hw, hn⟩
  have HV := Lib.hid (HW.out.step hw hn)
  clear hw hn HW c3
  have HW := HV
  clear HV
  have c4 := HW.out.box.cell 3
  simp only [List.getElem?_toArray, List.getElem?_cons_zero, List.getElem?_cons_succ] at c4
  go_wp2_with fail
  refine (fit1 g _ s (be 17664 2 ++ be 36 2 ++ be 0 4 ++ be x.tl 1) _ HW.out.wr x.pr (by omega) (by omega) (by simp [be_length, HLim.out.1, HLim.out.2]; try omega)).mono ?_
  rintro e4 w4 ⟨rfl, l4, hw, hn⟩
  have HV := Lib.hid (HW.out.step hw hn)
  clear hw hn HW c4
  have HW := HV
  clear HV
  go_wp2_with fail
  refine (fit2 g _ s (be 17664 2 ++ be 36 2 ++ be 0 4 ++ be x.tl 1 ++ be x.pr 1) _ HW.out.wr sm (by omega) (by omega) (by simp [be_length, HLim.out.1, HLim.out.2]; try omega)).mono ?_
  rintro e5 w5 ⟨rfl, l5, hw, hn⟩
  have HV := Lib.hid (HW.out.step hw hn)
  clear hw hn HW
  have HW := HV
  clear HV
  have c6 := HW.out.box.cell 0
  simp only [List.getElem?_toArray, List.getElem?_cons_zero, List.getElem?_cons_succ] at c6
  go_wp2_with fail
  refine (fit4 g _ s (be 17664 2 ++ be 36 2 ++ be 0 4 ++ be x.tl 1 ++ be x.pr 1 ++ be sm 2) _ HW.out.wr x.hs (by omega) (by omega) (by simp [be_length, HLim.out.1, HLim.out.2]; try omega)).mono ?_
  rintro e6 w6 ⟨rfl, l6, hw, hn⟩
  have HV := Lib.hid (HW.out.step hw hn)
  clear hw hn HW c6
  have HW := HV
  clear HV
  have c7 := HW.out.box.cell 1
  simp only [List.getElem?_toArray, List.getElem?_cons_zero, List.getElem?_cons_succ] at c7
  go_wp2_with fail
  refine (fit4 g _ s (be 17664 2 ++ be 36 2 ++ be 0 4 ++ be x.tl 1 ++ be x.pr 1 ++ be sm 2 ++ be x.hs 4) _ HW.out.wr x.hd (by omega) (by omega) (by simp [be_length, HLim.out.1, HLim.out.2]; try omega)).mono ?_
  rintro e7 w7 ⟨rfl, l7, hw, hn⟩
  have HV := Lib.hid (HW.out.step hw hn)
  clear hw hn HW c7
  have HW := HV
  clear HV
  go_wp2_with fail
  refine (woutL g _ _ _ HW.out.wr).mono ?_
  rintro e w10 ⟨⟨v, rfl, hv⟩, hb10⟩
  rw [WS.add_out, HLim.out.2, List.nil_append, HFin.out] at hv
  have hb : Below w.heap.size w w10 := (HW.out.nx.below (by simp) (Nat.le_refl _)).1.trans (hb10.mono (HW.out.nx.below (by simp) (Nat.le_refl _)).1.size)
  have hsz := (HW.out.nx.below (by simp) (Nat.le_refl _)).1.size
  have HC : Hid (Copied w10 w.heap.size v (hdr x sm)) := Lib.hid (by
    rcases hv with h | ⟨h', c', rfl, h2, h3⟩
    · exact .inl h
    · exact .inr ⟨h', c', rfl, h2, by omega⟩)
  have HBl := Lib.hid hb
  rcases hv with ⟨rfl, h⟩ | ⟨h', c', rfl, h2, h3⟩
  · exact absurd (congrArg List.length h) (by rw [hdr_len]; simp)
  clear h2 h3 hb hb10 HW hsz
  go_wp2_with fail
  go_ret
  exact ⟨⟨_, rfl, HC.out⟩, HBl.out⟩

set_option maxHeartbeats 2000000 in
theorem header_false (x : FR) (hx : x.okH) (hp : pd x.pr = false) (sm : Int) (hs0 : 0 ≤ sm) (hs1 : sm ≤ 65535) (w : World) :
    Calls Try.prog 123 #[.agg x.hc, .int .u16 sm] w fun e w' => (∃ v, e = .returned v ∧ Copied w' w.heap.size v (hdr x sm)) ∧ Below w.heap.size w w' := by
  unfold FR.hc
  obtain ⟨hhs0, hhs1⟩ := hx.hs
  obtain ⟨hhd0, hhd1⟩ := hx.hd
  obtain ⟨htl0, htl1⟩ := hx.tl
  obtain ⟨hpr0, hpr1⟩ := hx.pr
  obtain ⟨hsp0, hsp1⟩ := hx.sp
  obtain ⟨hdp0, hdp1⟩ := hx.dp
  have HFin : Hid (be 17664 2 ++ be 28 2 ++ be 0 4 ++ be x.tl 1 ++ be x.pr 1 ++ be sm 2 ++ be x.hs 4 ++ be x.hd 4 = hdr x sm) := Lib.hid (by unfold hdr hsz; rw [hp]; rfl)
  clear hx
  go_enter Try.func123, Try.ntmps123
  go_wp2_with fail
  refine (ported_any _ _).mono ?_
  rintro e w9 ⟨rfl, rfl⟩
  rw [hp]
  obtain ⟨W0, hW0⟩ : ∃ W0, w.alloc (.cells #[.int .u32 x.hs, .int .u32 x.hd, .int .i64 x.tl, .int .i64 x.pr, .int .i64 x.sp, .int .i64 x.dp] 106) = W0 := ⟨_, rfl⟩
  have HB0 : Hid (Has W0 w.heap.size 106 #[.int .u32 x.hs, .int .u32 x.hd, .int .i64 x.tl, .int .i64 x.pr, .int .i64 x.sp, .int .i64 x.dp]) := Lib.hid (hW0 ▸ Has.new _ _ _)
  have HL0 : Hid (Below w.heap.size w W0) := Lib.hid (hW0 ▸ (Below.refl _ w).alloc (Nat.le_refl _) _)
  rw [hW0]
  clear hW0
  go_wp2_with fail
  refine (wnewL 20 (by omega) _).mono ?_
  rintro e w8 ⟨g, l8, rfl, hwr, hk8, hb8⟩
  obtain ⟨s, hs⟩ : ∃ s : WS, (⟨20, [], []⟩ : WS) = s := ⟨_, rfl⟩
  have HLim : Hid (s.lim = 20 ∧ s.out = []) := Lib.hid (by rw [← hs]; exact ⟨rfl, rfl⟩)
  rw [hs, ← WS.add_nil s] at hwr
  have HW := Lib.hid (PB.mk (w := w) (l0 := []) (B := w.heap.size) hwr (HB0.out.below hb8) (fun hk => by have := hk8 _ hk; have := HB0.out.lt; omega) ⟨(turn_below (HL0.out.trans (hb8.mono HL0.out.size)) []), fun k hk => .inr (by have := hk8 k hk; have := HL0.out.size; omega)⟩)
  clear hwr hk8 hb8 hs hp HB0 HL0
  go_wp2_with fail
  refine (fit2 g _ s ([]) _ HW.out.wr 17664 (by omega) (by omega) (by simp [be_length, HLim.out.1, HLim.out.2]; try omega)).mono ?_
  rintro e0 w0 ⟨rfl, l0, hw, hn⟩
  have HV := Lib.hid (HW.out.step hw hn)
  clear hw hn HW
  have HW := HV
  clear HV
  go_wp2_with fail
  refine (fit2 g _ s (be 17664 2) _ HW.out.wr 28 (by omega) (by omega) (by simp [be_length, HLim.out.1, HLim.out.2]; try omega)).mono ?_
  rintro e1 w1 ⟨rfl, l1, hw, hn⟩
  have HV := Lib.hid (HW.out.step hw hn)
  clear hw hn HW
  have HW := HV
  clear HV
  go_wp2_with fail
  refine (fit4 g _ s (be 17664 2 ++ be 28 2) _ HW.out.wr 0 (by omega) (by omega) (by simp [be_length, HLim.out.1, HLim.out.2]; try omega)).mono ?_
  rintro e2 w2 ⟨rfl, l2, hw, hn⟩
  have HV := Lib.hid (HW.out.step hw hn)
  clear hw hn HW
  have HW := HV
  clear HV
  have c3 := HW.out.box.cell 2
  simp only [List.getElem?_toArray, List.getElem?_cons_zero, List.getElem?_cons_succ] at c3
  go_wp2_with fail
  refine (fit1 g _ s (be 17664 2 ++ be 28 2 ++ be 0 4) _ HW.out.wr x.tl (by omega) (by omega) (by simp [be_length, HLim.out.1, HLim.out.2]; try omega)).mono ?_
  rintro e3 w3 ⟨rfl, l3, hw, hn⟩
  have HV := Lib.hid (HW.out.step hw hn)
  clear hw hn HW c3
  have HW := HV
  clear HV
  have c4 := HW.out.box.cell 3
  simp only [List.getElem?_toArray, List.getElem?_cons_zero, List.getElem?_cons_succ] at c4
  go_wp2_with fail
  refine (fit1 g _ s (be 17664 2 ++ be 28 2 ++ be 0 4 ++ be x.tl 1) _ HW.out.wr x.pr (by omega) (by omega) (by simp [be_length, HLim.out.1, HLim.out.2]; try omega)).mono ?_
  rintro e4 w4 ⟨rfl, l4, hw, hn⟩
  have HV := Lib.hid (HW.out.step hw hn)
  clear hw hn HW c4
  have HW := HV
  clear HV
  go_wp2_with fail
  refine (fit2 g _ s (be 17664 2 ++ be 28 2 ++ be 0 4 ++ be x.tl 1 ++ be x.pr 1) _ HW.out.wr sm (by omega) (by omega) (by simp [be_length, HLim.out.1, HLim.out.2]; try omega)).mono ?_
  rintro e5 w5 ⟨rfl, l5, hw, hn⟩
  have HV := Lib.hid (HW.out.step hw hn)
  clear hw hn HW
  have HW := HV
  clear HV
  have c6 := HW.out.box.cell 0
  simp only [List.getElem?_toArray, List.getElem?_cons_zero, List.getElem?_cons_succ] at c6
  go_wp2_with fail
  refine (fit4 g _ s (be 17664 2 ++ be 28 2 ++ be 0 4 ++ be x.tl 1 ++ be x.pr 1 ++ be sm 2) _ HW.out.wr x.hs (by omega) (by omega) (by simp [be_length, HLim.out.1, HLim.out.2]; try omega)).mono ?_
  rintro e6 w6 ⟨rfl, l6, hw, hn⟩
  have HV := Lib.hid (HW.out.step hw hn)
  clear hw hn HW c6
  have HW := HV
  clear HV
  have c7 := HW.out.box.cell 1
  simp only [List.getElem?_toArray, List.getElem?_cons_zero, List.getElem?_cons_succ] at c7
  go_wp2_with fail
  refine (fit4 g _ s (be 17664 2 ++ be 28 2 ++ be 0 4 ++ be x.tl 1 ++ be x.pr 1 ++ be sm 2 ++ be x.hs 4) _ HW.out.wr x.hd (by omega) (by omega) (by simp [be_length, HLim.out.1, HLim.out.2]; try omega)).mono ?_
  rintro e7 w7 ⟨rfl, l7, hw, hn⟩
  have HV := Lib.hid (HW.out.step hw hn)
  clear hw hn HW c7
  have HW := HV
  clear HV
  go_wp2_with fail
  refine (woutL g _ _ _ HW.out.wr).mono ?_
  rintro e w10 ⟨⟨v, rfl, hv⟩, hb10⟩
  rw [WS.add_out, HLim.out.2, List.nil_append, HFin.out] at hv
  have hb : Below w.heap.size w w10 := (HW.out.nx.below (by simp) (Nat.le_refl _)).1.trans (hb10.mono (HW.out.nx.below (by simp) (Nat.le_refl _)).1.size)
  have hsz := (HW.out.nx.below (by simp) (Nat.le_refl _)).1.size
  have HC : Hid (Copied w10 w.heap.size v (hdr x sm)) := Lib.hid (by
    rcases hv with h | ⟨h', c', rfl, h2, h3⟩
    · exact .inl h
    · exact .inr ⟨h', c', rfl, h2, by omega⟩)
  have HBl := Lib.hid hb
  rcases hv with ⟨rfl, h⟩ | ⟨h', c', rfl, h2, h3⟩
  · exact absurd (congrArg List.length h) (by rw [hdr_len]; simp)
  clear h2 h3 hb hb10 HW hsz
  go_wp2_with fail
  go_ret
  exact ⟨⟨_, rfl, HC.out⟩, HBl.out⟩

theorem header_any (x : FR) (hx : x.okH) (sm : Int) (hs0 : 0 ≤ sm) (hs1 : sm ≤ 65535) (w : World) :
    Calls Try.prog 123 #[.agg x.hc, .int .u16 sm] w fun e w' => (∃ v, e = .returned v ∧ Copied w' w.heap.size v (hdr x sm)) ∧ Below w.heap.size w w' := by
  cases hp : pd x.pr
  · exact header_false x hx hp sm hs0 hs1 w
  · exact header_true x hx hp sm hs0 hs1 w

end Go.Proofs.Ytgdfpmnbofnjfaa

namespace Go.Proofs.Ytgdfpmnbofnjfaa
open Go.RowKit Go.Shelf
set_option linter.unusedVariables false
set_option linter.unusedSimpArgs false
set_option maxRecDepth 100000


theorem dwrite (g : Nat) (l : List Nat) (s : WS) (w : World) (H : WrL w l g s) :
    Calls Try.prog 114 #[.agg #[], .pointer (some ⟨g, 0, none⟩)] w fun e w' => e = .returned (.tuple #[]) ∧ ∃ l', WrL w' l' g (s.add []) ∧ Next w l w' l' := by
  have HH := Lib.hid H
  clear H
  go_enter Try.func114, Try.ntmps114
  go_wp2_with fail
  go_end0
  refine ⟨rfl, l, ?_, (Next.refl w l).alloc _⟩
  rw [WS.add_nil]
  exact HH.out.below ((Below.refl _ w).alloc (Nat.le_refl _) _)

set_option maxHeartbeats 2000000 in
theorem awrite (x : FR) (hx : x.okA) (g : Nat) (l : List Nat) (s0 : WS) (L0 : List Int) (w : World) (H : WrL w l g (s0.add L0)) (hr : s0.out.length + (L0.length + 28) ≤ s0.lim) :
    Calls Try.prog 117 #[.agg x.ac, .pointer (some ⟨g, 0, none⟩)] w fun e w' => e = .returned (.tuple #[]) ∧ ∃ l', WrL w' l' g (s0.add (L0 ++ bodyA x)) ∧ Next w l w' l' := by
  unfold FR.ac
  obtain ⟨s, hs⟩ : ∃ s, s0.add L0 = s := ⟨_, rfl⟩
  have HLim : Hid (s.out.length + 28 ≤ s.lim ∧ True) := Lib.hid (by rw [← hs]; simp [WS.add]; omega)
  have HF : Hid (s.add (bodyA x) = s0.add (L0 ++ bodyA x)) := Lib.hid (by rw [← hs]; simp [WS.add])
  rw [hs] at H
  clear hs hr
  obtain ⟨hop0, hop1⟩ := hx.op
  obtain ⟨hsm0, hsm1⟩ := hx.sm
  obtain ⟨hsi0, hsi1⟩ := hx.si
  obtain ⟨htm0, htm1⟩ := hx.tm
  obtain ⟨hti0, hti1⟩ := hx.ti
  clear hx
  have HW := Lib.hid (PB.start (s := s.add []) 105 #[.int .i64 x.op, .int .u64 x.sm, .int .u32 x.si, .int .u64 x.tm, .int .u32 x.ti] (by rw [WS.add_nil]; exact H) (Next.refl w l))
  clear H
  go_enter Try.func117, Try.ntmps117
  obtain ⟨W1, hW1⟩ : ∃ W1, w.alloc (.cells #[.int .i64 x.op, .int .u64 x.sm, .int .u32 x.si, .int .u64 x.tm, .int .u32 x.ti] 105) = W1 := ⟨_, rfl⟩
  have hsz : W1.heap.size = w.heap.size + 1 := by rw [← hW1]; simp
  have hcv := Lib.run_convert_bytes_const (P := Try.prog) W1 40 5 #[.int .u8 0, .int .u8 1, .int .u8 8, .int .u8 0, .int .u8 6, .int .u8 4] 6 6 Try.underlying40 Try.underlying5
  simp only [List.size_toArray, List.length_cons, List.length_nil, Nat.reduceAdd] at hcv
  go_upto_region 1 with fail
  try rw [hW1] at HW
  try rw [hW1]
  clear hW1
  have HSz := Lib.hid hsz
  clear hsz
  go_wp2_with fail
  obtain ⟨W2, hW2⟩ : ∃ W2, W1.alloc (.cells #[.int .u8 0, .int .u8 1, .int .u8 8, .int .u8 0, .int .u8 6, .int .u8 4] 5 (6, 7)) = W2 := ⟨_, rfl⟩
  have HSl : Hid (Sl W2 W1.heap.size 0 [0, 1, 8, 0, 6, 4]) := Lib.hid (by
    intro j hj
    rw [← hW2, Nat.zero_add, World.cell?_alloc_mark]
    have h6 : j = 0 ∨ j = 1 ∨ j = 2 ∨ j = 3 ∨ j = 4 ∨ j = 5 := by simp at hj; omega
    rcases h6 with rfl | rfl | rfl | rfl | rfl | rfl <;> rfl)
  have HW2 : Hid (PB w l g w.heap.size 105 #[.int .i64 x.op, .int .u64 x.sm, .int .u32 x.si, .int .u64 x.tm, .int .u32 x.ti] (s.add []) l W2) := Lib.hid (HW.out.below (hW2 ▸ (Below.refl _ W1).alloc (Nat.le_refl _) _))
  have HFar : Hid (W1.heap.size ∉ l ∧ W1.heap.size < W2.heap.size) := Lib.hid ⟨fun h => Nat.lt_irrefl _ (HW.out.wr.lt _ h), by rw [← hW2]; simp⟩
  rw [hW2]
  clear hW2 hcv HW
  refine (fitB g _ s [] _ HW2.out.wr W1.heap.size 6 6 [0, 1, 8, 0, 6, 4] rfl (by decide) HSl.out HFar.out.1 HFar.out.2 (by have := HLim.out.1; simp; omega) (by decide)).mono ?_
  rintro e w9 ⟨rfl, l9, hw, hn⟩
  have HW := Lib.hid (HW2.out.step hw hn)
  clear hw hn HW2 HFar HSl
  have c0 := HW.out.box.cell 0
  simp only [List.getElem?_toArray, List.getElem?_cons_zero, List.getElem?_cons_succ] at c0
  go_wp2_with fail
  refine (fit2 g _ s ([] ++ [0, 1, 8, 0, 6, 4]) _ HW.out.wr x.op (by omega) (by omega) (by have := HLim.out.1; simp [be_length]; omega)).mono ?_
  rintro e0 w0 ⟨rfl, l0, hw, hn⟩
  have HV := Lib.hid (HW.out.step hw hn)
  clear hw hn HW c0
  have HW := HV
  clear HV
  have c1 := HW.out.box.cell 1
  simp only [List.getElem?_toArray, List.getElem?_cons_zero, List.getElem?_cons_succ] at c1
  go_wp2_with fail
  refine (fit6 g _ s ([] ++ [0, 1, 8, 0, 6, 4] ++ be x.op 2) _ HW.out.wr x.sm (by omega) (by omega) (by have := HLim.out.1; simp [be_length]; omega)).mono ?_
  rintro e1 w1 ⟨rfl, l1, hw, hn⟩
  have HV := Lib.hid (HW.out.step hw hn)
  clear hw hn HW c1
  have HW := HV
  clear HV
  have c2 := HW.out.box.cell 2
  simp only [List.getElem?_toArray, List.getElem?_cons_zero, List.getElem?_cons_succ] at c2
  go_wp2_with fail
  refine (fit4 g _ s ([] ++ [0, 1, 8, 0, 6, 4] ++ be x.op 2 ++ be x.sm 6) _ HW.out.wr x.si (by omega) (by omega) (by have := HLim.out.1; simp [be_length]; omega)).mono ?_
  rintro e2 w2 ⟨rfl, l2, hw, hn⟩
  have HV := Lib.hid (HW.out.step hw hn)
  clear hw hn HW c2
  have HW := HV
  clear HV
  have c3 := HW.out.box.cell 3
  simp only [List.getElem?_toArray, List.getElem?_cons_zero, List.getElem?_cons_succ] at c3
  go_wp2_with fail
  refine (fit6 g _ s ([] ++ [0, 1, 8, 0, 6, 4] ++ be x.op 2 ++ be x.sm 6 ++ be x.si 4) _ HW.out.wr x.tm (by omega) (by omega) (by have := HLim.out.1; simp [be_length]; omega)).mono ?_
  rintro e3 w3 ⟨rfl, l3, hw, hn⟩
  have HV := Lib.hid (HW.out.step hw hn)
  clear hw hn HW c3
  have HW := HV
  clear HV
  have c4 := HW.out.box.cell 4
  simp only [List.getElem?_toArray, List.getElem?_cons_zero, List.getElem?_cons_succ] at c4
  go_wp2_with fail
  refine (fit4 g _ s ([] ++ [0, 1, 8, 0, 6, 4] ++ be x.op 2 ++ be x.sm 6 ++ be x.si 4 ++ be x.tm 6) _ HW.out.wr x.ti (by omega) (by omega) (by have := HLim.out.1; simp [be_length]; omega)).mono ?_
  rintro e4 w4 ⟨rfl, l4, hw, hn⟩
  have HV := Lib.hid (HW.out.step hw hn)
  clear hw hn HW c4
  have HW := HV
  clear HV
  go_wp2_with fail
  go_end0
  refine ⟨rfl, _, ?_, HW.out.nx⟩
  rw [← HF.out]
  exact HW.out.wr


theorem header_c (x : FR) (hx : x.okH) (w : World) (sm : Int) (hs : 0 ≤ sm ∧ sm ≤ 65535) :
    Calls Try.prog 123 #[.agg x.hc, .int .u16 sm] w fun e w' => ∃ b c, e = .returned (.slice (some ⟨b, 0, none⟩) 20 c) ∧ Row w' b c (hdr x sm) ∧ w.heap.size ≤ b ∧ Below w.heap.size w w' := by
  refine (header_any x hx sm hs.1 hs.2 w).mono ?_
  rintro e w' ⟨⟨v, rfl, hv⟩, hb⟩
  rcases hv with ⟨rfl, h⟩ | ⟨b, c, rfl, h2, h3⟩
  · exact absurd (congrArg List.length h) (by rw [hdr_len]; simp)
  · rw [hdr_len]
    exact ⟨b, c, rfl, h2, h3, hb⟩
theorem has6 {W : World} {B : Nat} {t : TypeId} {a0 a1 a2 a3 a4 a5 : Value} (h : Has W B t #[a0, a1, a2, a3, a4, a5]) : W.cell? ⟨B, 0, none⟩ = some a0 ∧ W.cell? ⟨B, 1, none⟩ = some a1 ∧ W.cell? ⟨B, 2, none⟩ = some a2 ∧ W.cell? ⟨B, 3, none⟩ = some a3 ∧ W.cell? ⟨B, 4, none⟩ = some a4 ∧ W.cell? ⟨B, 5, none⟩ = some a5 := ⟨h.cell 0, h.cell 1, h.cell 2, h.cell 3, h.cell 4, h.cell 5⟩
theorem row_arr {w : World} {b c : Nat} {xs : List Int} {n : Nat} (h : Row w b c xs) (hn : xs.length = n) : Arr w (.slice (some ⟨b, 0, none⟩) n c) xs := by
  subst hn
  exact .inr ⟨_, c, rfl, Sl.at_ h.all⟩

set_option maxHeartbeats 2000000 in
theorem hwrite_true (x : FR) (hx : x.okH) (hp : pd x.pr = true) (g : Nat) (l : List Nat) (s0 : WS) (L0 : List Int) (w : World) (H : WrL w l g (s0.add L0)) (hr : s0.out.length + (L0.length + 28) ≤ s0.lim) :
    Calls Try.prog 121 #[.agg x.hc, .pointer (some ⟨g, 0, none⟩)] w fun e w' => e = .returned (.tuple #[]) ∧ ∃ l', WrL w' l' g (s0.add (L0 ++ bodyH x)) ∧ Next w l w' l' := by
  obtain ⟨s, hs⟩ : ∃ s, s0.add L0 = s := ⟨_, rfl⟩
  have HLim : Hid (s.out.length + 28 ≤ s.lim ∧ True) := Lib.hid (by rw [← hs]; simp [WS.add]; omega)
  have HF : Hid (s.add (bodyH x) = s0.add (L0 ++ bodyH x)) := Lib.hid (by rw [← hs]; simp [WS.add])
  rw [hs] at H
  clear hs hr
  have HC : Hid (∀ (W : World) (sm : Int), 0 ≤ sm ∧ sm ≤ 65535 → Calls Try.prog 123 #[.agg #[.int .u32 x.hs, .int .u32 x.hd, .int .i64 x.tl, .int .i64 x.pr, .int .i64 x.sp, .int .i64 x.dp], .int .u16 sm] W fun e w' => ∃ b c, e = .returned (.slice (some ⟨b, 0, none⟩) 20 c) ∧ Row w' b c (hdr x sm) ∧ W.heap.size ≤ b ∧ Below W.heap.size W w') := Lib.hid (fun W sm h => header_c x hx W sm h)
  unfold FR.hc
  obtain ⟨hhs0, hhs1⟩ := hx.hs
  obtain ⟨hhd0, hhd1⟩ := hx.hd
  obtain ⟨htl0, htl1⟩ := hx.tl
  obtain ⟨hpr0, hpr1⟩ := hx.pr
  obtain ⟨hsp0, hsp1⟩ := hx.sp
  obtain ⟨hdp0, hdp1⟩ := hx.dp
  have HBy : Hid (∀ sm, ∀ v ∈ hdr x sm, 0 ≤ v ∧ v ≤ 255) := Lib.hid (hdr_byte x)
  obtain ⟨q, hq⟩ : ∃ q, sumP (hdr x 0) = q := ⟨_, rfl⟩
  have HQs : Hid (hdrS x = hdr x q) := Lib.hid (by unfold hdrS; rw [hq])
  obtain ⟨hq0, hq1⟩ : 0 ≤ q ∧ q ≤ 65535 := hq ▸ sumP_le _ (hdr_byte x 0)
  have HP := Lib.hid hp
  have HQq := Lib.hid hq
  clear hx hp hq
  obtain ⟨cs, hcs⟩ : ∃ cs : Array Value, #[.int .u32 x.hs, .int .u32 x.hd, .int .i64 x.tl, .int .i64 x.pr, .int .i64 x.sp, .int .i64 x.dp] = cs := ⟨_, rfl⟩
  have HW := Lib.hid (PB.start (s := s.add []) 106 #[.int .u32 x.hs, .int .u32 x.hd, .int .i64 x.tl, .int .i64 x.pr, .int .i64 x.sp, .int .i64 x.dp] (by rw [WS.add_nil]; exact H) (Next.refl w l))
  clear H hcs cs
  go_enter Try.func121, Try.ntmps121
  obtain ⟨W1, hW1⟩ : ∃ W1, w.alloc (.cells #[.int .u32 x.hs, .int .u32 x.hd, .int .i64 x.tl, .int .i64 x.pr, .int .i64 x.sp, .int .i64 x.dp] 106) = W1 := ⟨_, rfl⟩
  go_upto_region 1 with fail
  try rw [hW1] at HW
  try rw [hW1]
  clear hW1
  have HQ : Hid (PB w l g w.heap.size 106 #[.int .u32 x.hs, .int .u32 x.hd, .int .i64 x.tl, .int .i64 x.pr, .int .i64 x.sp, .int .i64 x.dp] (s.add []) l W1.drew) := Lib.hid (HW.out.below (Below.refl _ W1).drew)
  clear HW
  go_wp2_with fail
  go_region_held3 (fun w' => w'.cell? ⟨w.heap.size, 0, none⟩ = some (.int .u32 x.hs) ∧ w'.cell? ⟨w.heap.size, 1, none⟩ = some (.int .u32 x.hd) ∧ w'.cell? ⟨w.heap.size, 2, none⟩ = some (.int .i64 x.tl) ∧ w'.cell? ⟨w.heap.size, 3, none⟩ = some (.int .i64 x.pr) ∧ w'.cell? ⟨w.heap.size, 4, none⟩ = some (.int .i64 x.sp) ∧ w'.cell? ⟨w.heap.size, 5, none⟩ = some (.int .i64 x.dp))
    (first | exact has6 HQ2.out.box | exact has6 HQ.out.box)
    (first
      | (go_at_call 123; refine (HC.out _ _ (by omega)).mono ?_; rintro e w2 ⟨b, c, rfl, hrow, hsz, hb⟩; have HLt := Lib.hid (And.intro hrow hsz); have HFar := Lib.hid (fun hk => Nat.lt_irrefl _ (Nat.lt_of_lt_of_le (HQ.out.wr.lt _ hk) hsz)); have HQ := Lib.hid (HQ.out.below hb); clear hrow hsz hb)
      | (go_at_call 75; refine (sum_arr _ (hdr x 0) _ (row_arr HLt.out.1 (hdr_len x 0)) (by rw [hdr_len]; decide) (HBy.out 0)).mono ?_; rintro e w3 ⟨rfl, hb⟩; rw [HQq.out]; have HQ := Lib.hid (HQ.out.below hb); clear hb)
      | (go_at_call 118; refine (fitB g l s [] _ HQ.out.wr b 20 c (hdr x q) (hdr_len x q) (HBy.out q) HLt.out.1.all HFar.out HLt.out.1.lt (by have := HLim.out.1; rw [hdr_len]; simp; omega) (by rw [hdr_len]; decide)).mono ?_; rintro e w4 ⟨rfl, l4, hw, hn⟩; have HQ2 := Lib.hid (HQ.out.step hw hn); clear hw hn))
  have HW := HQ2
  clear HQ2 HQ HLt HFar
  have c3 := HW.out.box.cell 3
  simp only [List.getElem?_toArray, List.getElem?_cons_zero, List.getElem?_cons_succ] at c3
  go_wp2_with fail
  refine (ported_any _ _).mono ?_
  rintro e w9 ⟨rfl, rfl⟩
  rw [HP.out]
  clear c3
  have c10 := HW.out.box.cell 4
  simp only [List.getElem?_toArray, List.getElem?_cons_zero, List.getElem?_cons_succ] at c10
  go_wp2_with fail
  refine (fit2 g _ s ([] ++ hdr x q) _ HW.out.wr x.sp (by omega) (by omega) (by have := HLim.out.1; simp [be_length, hdr_len]; omega)).mono ?_
  rintro e10 w10 ⟨rfl, l10, hw, hn⟩
  have HV := Lib.hid (HW.out.step hw hn)
  clear hw hn HW c10
  have HW := HV
  clear HV
  have c11 := HW.out.box.cell 5
  simp only [List.getElem?_toArray, List.getElem?_cons_zero, List.getElem?_cons_succ] at c11
  go_wp2_with fail
  refine (fit2 g _ s ([] ++ hdr x q ++ be x.sp 2) _ HW.out.wr x.dp (by omega) (by omega) (by have := HLim.out.1; simp [be_length, hdr_len]; omega)).mono ?_
  rintro e11 w11 ⟨rfl, l11, hw, hn⟩
  have HV := Lib.hid (HW.out.step hw hn)
  clear hw hn HW c11
  have HW := HV
  clear HV
  go_wp2_with fail
  refine (fit2 g _ s ([] ++ hdr x q ++ be x.sp 2 ++ be x.dp 2) _ HW.out.wr 16 (by omega) (by omega) (by have := HLim.out.1; simp [be_length, hdr_len]; omega)).mono ?_
  rintro e12 w12 ⟨rfl, l12, hw, hn⟩
  have HV := Lib.hid (HW.out.step hw hn)
  clear hw hn HW
  have HW := HV
  clear HV
  go_wp2_with fail
  refine (fit2 g _ s ([] ++ hdr x q ++ be x.sp 2 ++ be x.dp 2 ++ be 16 2) _ HW.out.wr 0 (by omega) (by omega) (by have := HLim.out.1; simp [be_length, hdr_len]; omega)).mono ?_
  rintro e13 w13 ⟨rfl, l13, hw, hn⟩
  have HV := Lib.hid (HW.out.step hw hn)
  clear hw hn HW
  have HW := HV
  clear HV
  have HFin : Hid ([] ++ hdr x q ++ be x.sp 2 ++ be x.dp 2 ++ be 16 2 ++ be 0 2 = bodyH x) := Lib.hid (by unfold bodyH; rw [HP.out, HQs.out]; rfl)
  go_wp2_with fail
  go_end0
  refine ⟨rfl, _, ?_, HW.out.nx⟩
  rw [← HF.out, ← HFin.out]
  exact HW.out.wr

set_option maxHeartbeats 2000000 in
theorem hwrite_false (x : FR) (hx : x.okH) (hp : pd x.pr = false) (g : Nat) (l : List Nat) (s0 : WS) (L0 : List Int) (w : World) (H : WrL w l g (s0.add L0)) (hr : s0.out.length + (L0.length + 28) ≤ s0.lim) :
    Calls Try.prog 121 #[.agg x.hc, .pointer (some ⟨g, 0, none⟩)] w fun e w' => e = .returned (.tuple #[]) ∧ ∃ l', WrL w' l' g (s0.add (L0 ++ bodyH x)) ∧ Next w l w' l' := by
  obtain ⟨s, hs⟩ : ∃ s, s0.add L0 = s := ⟨_, rfl⟩
  have HLim : Hid (s.out.length + 28 ≤ s.lim ∧ True) := Lib.hid (by rw [← hs]; simp [WS.add]; omega)
  have HF : Hid (s.add (bodyH x) = s0.add (L0 ++ bodyH x)) := Lib.hid (by rw [← hs]; simp [WS.add])
  rw [hs] at H
  clear hs hr
  have HC : Hid (∀ (W : World) (sm : Int), 0 ≤ sm ∧ sm ≤ 65535 → Calls Try.prog 123 #[.agg #[.int .u32 x.hs, .int .u32 x.hd, .int .i64 x.tl, .int .i64 x.pr, .int .i64 x.sp, .int .i64 x.dp], .int .u16 sm] W fun e w' => ∃ b c, e = .returned (.slice (some ⟨b, 0, none⟩) 20 c) ∧ Row w' b c (hdr x sm) ∧ W.heap.size ≤ b ∧ Below W.heap.size W w') := Lib.hid (fun W sm h => header_c x hx W sm h)
  unfold FR.hc
  obtain ⟨hhs0, hhs1⟩ := hx.hs
  obtain ⟨hhd0, hhd1⟩ := hx.hd
  obtain ⟨htl0, htl1⟩ := hx.tl
  obtain ⟨hpr0, hpr1⟩ := hx.pr
  obtain ⟨hsp0, hsp1⟩ := hx.sp
  obtain ⟨hdp0, hdp1⟩ := hx.dp
  have HBy : Hid (∀ sm, ∀ v ∈ hdr x sm, 0 ≤ v ∧ v ≤ 255) := Lib.hid (hdr_byte x)
  obtain ⟨q, hq⟩ : ∃ q, sumP (hdr x 0) = q := ⟨_, rfl⟩
  have HQs : Hid (hdrS x = hdr x q) := Lib.hid (by unfold hdrS; rw [hq])
  obtain ⟨hq0, hq1⟩ : 0 ≤ q ∧ q ≤ 65535 := hq ▸ sumP_le _ (hdr_byte x 0)
  have HP := Lib.hid hp
  have HQq := Lib.hid hq
  clear hx hp hq
  obtain ⟨cs, hcs⟩ : ∃ cs : Array Value, #[.int .u32 x.hs, .int .u32 x.hd, .int .i64 x.tl, .int .i64 x.pr, .int .i64 x.sp, .int .i64 x.dp] = cs := ⟨_, rfl⟩
  have HW := Lib.hid (PB.start (s := s.add []) 106 #[.int .u32 x.hs, .int .u32 x.hd, .int .i64 x.tl, .int .i64 x.pr, .int .i64 x.sp, .int .i64 x.dp] (by rw [WS.add_nil]; exact H) (Next.refl w l))
  clear H hcs cs
  go_enter Try.func121, Try.ntmps121
  obtain ⟨W1, hW1⟩ : ∃ W1, w.alloc (.cells #[.int .u32 x.hs, .int .u32 x.hd, .int .i64 x.tl, .int .i64 x.pr, .int .i64 x.sp, .int .i64 x.dp] 106) = W1 := ⟨_, rfl⟩
  go_upto_region 1 with fail
  try rw [hW1] at HW
  try rw [hW1]
  clear hW1
  have HQ : Hid (PB w l g w.heap.size 106 #[.int .u32 x.hs, .int .u32 x.hd, .int .i64 x.tl, .int .i64 x.pr, .int .i64 x.sp, .int .i64 x.dp] (s.add []) l W1.drew) := Lib.hid (HW.out.below (Below.refl _ W1).drew)
  clear HW
  go_wp2_with fail
  go_region_held3 (fun w' => w'.cell? ⟨w.heap.size, 0, none⟩ = some (.int .u32 x.hs) ∧ w'.cell? ⟨w.heap.size, 1, none⟩ = some (.int .u32 x.hd) ∧ w'.cell? ⟨w.heap.size, 2, none⟩ = some (.int .i64 x.tl) ∧ w'.cell? ⟨w.heap.size, 3, none⟩ = some (.int .i64 x.pr) ∧ w'.cell? ⟨w.heap.size, 4, none⟩ = some (.int .i64 x.sp) ∧ w'.cell? ⟨w.heap.size, 5, none⟩ = some (.int .i64 x.dp))
    (first | exact has6 HQ2.out.box | exact has6 HQ.out.box)
    (first
      | (go_at_call 123; refine (HC.out _ _ (by omega)).mono ?_; rintro e w2 ⟨b, c, rfl, hrow, hsz, hb⟩; have HLt := Lib.hid (And.intro hrow hsz); have HFar := Lib.hid (fun hk => Nat.lt_irrefl _ (Nat.lt_of_lt_of_le (HQ.out.wr.lt _ hk) hsz)); have HQ := Lib.hid (HQ.out.below hb); clear hrow hsz hb)
      | (go_at_call 75; refine (sum_arr _ (hdr x 0) _ (row_arr HLt.out.1 (hdr_len x 0)) (by rw [hdr_len]; decide) (HBy.out 0)).mono ?_; rintro e w3 ⟨rfl, hb⟩; rw [HQq.out]; have HQ := Lib.hid (HQ.out.below hb); clear hb)
      | (go_at_call 118; refine (fitB g l s [] _ HQ.out.wr b 20 c (hdr x q) (hdr_len x q) (HBy.out q) HLt.out.1.all HFar.out HLt.out.1.lt (by have := HLim.out.1; rw [hdr_len]; simp; omega) (by rw [hdr_len]; decide)).mono ?_; rintro e w4 ⟨rfl, l4, hw, hn⟩; have HQ2 := Lib.hid (HQ.out.step hw hn); clear hw hn))
  have HW := HQ2
  clear HQ2 HQ HLt HFar
  have c3 := HW.out.box.cell 3
  simp only [List.getElem?_toArray, List.getElem?_cons_zero, List.getElem?_cons_succ] at c3
  go_wp2_with fail
  refine (ported_any _ _).mono ?_
  rintro e w9 ⟨rfl, rfl⟩
  rw [HP.out]
  clear c3
  have HFin : Hid ([] ++ hdr x q = bodyH x) := Lib.hid (by unfold bodyH; rw [HP.out, HQs.out]; rfl)
  go_wp2_with fail
  go_end0
  refine ⟨rfl, _, ?_, HW.out.nx⟩
  rw [← HF.out, ← HFin.out]
  exact HW.out.wr

theorem hwrite (x : FR) (hx : x.okH) (g : Nat) (l : List Nat) (s0 : WS) (L0 : List Int) (w : World) (H : WrL w l g (s0.add L0)) (hr : s0.out.length + (L0.length + 28) ≤ s0.lim) :
    Calls Try.prog 121 #[.agg x.hc, .pointer (some ⟨g, 0, none⟩)] w fun e w' => e = .returned (.tuple #[]) ∧ ∃ l', WrL w' l' g (s0.add (L0 ++ bodyH x)) ∧ Next w l w' l' := by
  cases hp : pd x.pr
  · exact hwrite_false x hx hp g l s0 L0 w H hr
  · exact hwrite_true x hx hp g l s0 L0 w H hr

end Go.Proofs.Ytgdfpmnbofnjfaa

namespace Go.Proofs.Ytgdfpmnbofnjfaa
open Go.RowKit Go.Shelf
set_option linter.unusedVariables false
set_option linter.unusedSimpArgs false
set_option maxRecDepth 100000


/-- The type, the part and the whole of an encoded frame. -/
def fcode (k : Int) : Int := if k = 1 then 2054 else if k = 2 then 2048 else 34997
def fbody (x : FR) : List Int := if x.k = 1 then bodyA x else if x.k = 2 then bodyH x else []
def fenc (x : FR) : List Int := be x.d 6 ++ be x.s 6 ++ be (fcode x.k) 2 ++ fbody x ++ be x.da 8

theorem bodyH_len (x : FR) : (bodyH x).length ≤ 28 := by
  unfold bodyH
  split <;> simp [be_length, hdrS, hdr_len]

theorem big_no {n : Int} (h : ¬ big n = true) : n ≤ 281474976710655 := by
  unfold big at h
  simp at h
  exact h
theorem wi_le {n m : Int} (h : wi n m = true) : 0 ≤ n ∧ n ≤ m := by
  unfold wi at h
  simpa using h
theorem fchk_zero {x : FR} (h : fchk x = 0) : x.s ≤ 281474976710655 ∧ x.d ≤ 281474976710655 ∧ mc x.s = false ∧ perr x = 0 ∧ (x.k = 1 → ackA x = 0) ∧ (x.k = 2 → ackH x = 0) := by
  unfold fchk at h
  split at h
  · omega
  rename_i h1
  split at h
  · omega
  rename_i h2
  split at h
  · contradiction
  rename_i h3
  refine ⟨big_no (fun h => h1 (.inl h)), big_no (fun h => h1 (.inr h)), by simpa using h2, by simpa using h3, fun hk => ?_, fun hk => ?_⟩
  · rw [if_pos hk] at h; exact h
  · rw [if_neg (by omega), if_pos hk] at h; exact h
theorem FR.ty.okA {x : FR} (hx : x.ty) (h : ackA x = 0) : x.okA := by
  unfold ackA at h
  split at h
  · omega
  split at h
  · omega
  split at h
  · omega
  rename_i h1 h2 h3
  exact ⟨by omega, ⟨hx.sm.1, big_no h2⟩, hx.si, ⟨hx.tm.1, big_no h3⟩, hx.ti⟩
theorem ackH_zero {x : FR} (h : ackH x = 0) : (wi x.tl 255 = true ∧ wi x.pr 255 = true ∧ wi x.sp 65535 = true ∧ wi x.dp 65535 = true) ∧ (pd x.pr = false → x.sp = 0 ∧ x.dp = 0) := by
  unfold ackH at h
  split at h
  · omega
  split at h
  · omega
  rename_i h1 h2
  refine ⟨by simpa [and_assoc] using h1, fun hp => ?_⟩
  by_cases h3 : x.sp = 0 ∧ x.dp = 0
  · exact h3
  · exact absurd ⟨hp, by omega⟩ h2
theorem FR.ty.okH {x : FR} (hx : x.ty) (h : ackH x = 0) : x.okH := by
  obtain ⟨⟨h1, h2, h3, h4⟩, _⟩ := ackH_zero h
  exact ⟨hx.hs, hx.hd, wi_le h1, wi_le h2, wi_le h3, wi_le h4⟩

/-- What Bytes returns for a valid frame. -/
def Enc (w : World) (x : FR) (e : Ending) (w' : World) : Prop := ∃ b c, e = .returned (.tuple #[.slice (some ⟨b, 0, none⟩) (fenc x).length c, .int .i64 0]) ∧ Row w' b c (fenc x) ∧ w.heap.size ≤ b ∧ Below w.heap.size w w'

set_option maxHeartbeats 2000000 in
theorem bytes_no (x : FR) (hx : x.ty) (hc : fchk x ≠ 0) (w : World) :
    Calls Try.prog 27 #[.agg x.cs] w fun e w' => e = .returned (.tuple #[.slice none 0 0, .int .i64 (fchk x)]) ∧ Below w.heap.size w w' := by
  have HChk : Hid (∀ W : World, Calls Try.prog 31 #[.agg #[.int .u64 x.s, .int .u64 x.d, .int .i64 x.k, .int .i64 x.op, .int .u64 x.sm, .int .u32 x.si, .int .u64 x.tm, .int .u32 x.ti, .int .u32 x.hs, .int .u32 x.hd, .int .i64 x.tl, .int .i64 x.pr, .int .i64 x.sp, .int .i64 x.dp, .int .u64 x.da]] W fun e w' => e = .returned (.int .i64 (fchk x)) ∧ Below W.heap.size W w') := Lib.hid (fun W => check_any x hx W)
  obtain ⟨er, her⟩ : ∃ er, fchk x = er := ⟨_, rfl⟩
  have HE := Lib.hid her
  rw [her] at hc ⊢
  have hne : (er != 0) = true := by simpa using hc
  have HB : Hid (∀ o, Below w.heap.size w (w.alloc o)) := Lib.hid (fun o => (Below.refl _ w).alloc (Nat.le_refl _) _)
  clear her hc hx
  unfold FR.cs
  go_enter Try.func27, Try.ntmps27
  go_wp2_with (first | (go_at_call 31; refine (HChk.out _).mono ?_; rintro e w1 ⟨rfl, hb⟩; rw [HE.out]; have HB1 := Lib.hid hb; clear hb))
  go_ret2
  exact ⟨rfl, (HB.out _).trans (HB1.out.mono (HB.out _).size)⟩

theorem code_d (w : World) : Calls Try.prog 113 #[.agg #[]] w fun e w' => e = .returned (.int .u64 34997) ∧ Below w.heap.size w w' := by
  go_enter Try.func113, Try.ntmps113
  go_wp2
  go_ret
  exact ⟨rfl, (Below.refl _ w).alloc (Nat.le_refl _) _⟩
theorem code_a (x : FR) (w : World) : Calls Try.prog 116 #[.agg x.ac] w fun e w' => e = .returned (.int .u64 2054) ∧ Below w.heap.size w w' := by
  unfold FR.ac
  go_enter Try.func116, Try.ntmps116
  go_wp2
  go_ret
  exact ⟨rfl, (Below.refl _ w).alloc (Nat.le_refl _) _⟩
theorem code_h (x : FR) (w : World) : Calls Try.prog 120 #[.agg x.hc] w fun e w' => e = .returned (.int .u64 2048) ∧ Below w.heap.size w w' := by
  unfold FR.hc
  go_enter Try.func120, Try.ntmps120
  go_wp2
  go_ret
  exact ⟨rfl, (Below.refl _ w).alloc (Nat.le_refl _) _⟩
theorem dwrite_l (g : Nat) (l : List Nat) (s : WS) (L : List Int) (w : World) (H : WrL w l g (s.add L)) :
    Calls Try.prog 114 #[.agg #[], .pointer (some ⟨g, 0, none⟩)] w fun e w' => e = .returned (.tuple #[]) ∧ ∃ l', WrL w' l' g (s.add (L ++ [])) ∧ Next w l w' l' := by
  refine (dwrite g l _ w H).mono ?_
  rintro e w' ⟨rfl, l', h1, h2⟩
  refine ⟨rfl, l', ?_, h2⟩
  rw [List.append_nil]
  rwa [WS.add_nil] at h1

theorem meth_code_d (n : Nat) (w : World) : (method (n + 1) 104 (.agg #[]) "leafmesh/packet.code").run Try.prog w = .ok (113, (.agg #[])) w := by kernel_rfl
theorem meth_write_d (n : Nat) (w : World) : (method (n + 1) 104 (.agg #[]) "leafmesh/packet.write").run Try.prog w = .ok (114, (.agg #[])) w := by kernel_rfl
theorem meth_code_a (x : FR) (n : Nat) (w : World) : (method (n + 1) 105 (.agg x.ac) "leafmesh/packet.code").run Try.prog w = .ok (116, (.agg x.ac)) w := by kernel_rfl
theorem meth_write_a (x : FR) (n : Nat) (w : World) : (method (n + 1) 105 (.agg x.ac) "leafmesh/packet.write").run Try.prog w = .ok (117, (.agg x.ac)) w := by kernel_rfl
theorem meth_code_h (x : FR) (n : Nat) (w : World) : (method (n + 1) 106 (.agg x.hc) "leafmesh/packet.code").run Try.prog w = .ok (120, (.agg x.hc)) w := by kernel_rfl
theorem meth_write_h (x : FR) (n : Nat) (w : World) : (method (n + 1) 106 (.agg x.hc) "leafmesh/packet.write").run Try.prog w = .ok (121, (.agg x.hc)) w := by kernel_rfl
set_option maxHeartbeats 4000000 in
theorem bytes_0 (x : FR) (hx : x.ty) (hc : fchk x = 0) (hk : x.k = 0) (w : World) : Calls Try.prog 27 #[.agg x.cs] w (Enc w x) := by
  have HChk : Hid (∀ W : World, Calls Try.prog 31 #[.agg #[.int .u64 x.s, .int .u64 x.d, .int .i64 x.k, .int .i64 x.op, .int .u64 x.sm, .int .u32 x.si, .int .u64 x.tm, .int .u32 x.ti, .int .u32 x.hs, .int .u32 x.hd, .int .i64 x.tl, .int .i64 x.pr, .int .i64 x.sp, .int .i64 x.dp, .int .u64 x.da]] W fun e w' => e = .returned (.int .i64 0) ∧ Below W.heap.size W w') := Lib.hid (fun W => hc ▸ check_any x hx W)
  obtain ⟨hs1, hd1, _, hpe, h1, h2⟩ := fchk_zero hc
  have HPart : Hid (∀ W : World, Calls Try.prog 50 #[.agg #[.int .u64 x.s, .int .u64 x.d, .int .i64 x.k, .int .i64 x.op, .int .u64 x.sm, .int .u32 x.si, .int .u64 x.tm, .int .u32 x.ti, .int .u32 x.hs, .int .u32 x.hd, .int .i64 x.tl, .int .i64 x.pr, .int .i64 x.sp, .int .i64 x.dp, .int .u64 x.da]] W fun e w' => e = .returned (.tuple #[.iface 104 (.agg #[]), .int .i64 0]) ∧ Below W.heap.size W w') := Lib.hid (fun W => (part_any x W).mono fun e w' ⟨he, hb⟩ => ⟨by
    rw [he, if_pos hpe, hpe]
    unfold prt
    rw [if_pos hk], hb⟩)
  have HFin : Hid (be x.d 6 ++ be x.s 6 ++ be 34997 2 ++ [] ++ be x.da 8 = fenc x) := Lib.hid (by unfold fenc fcode fbody; rw [hk]; rfl)
  have HLen : Hid ((fenc x).length ≤ 50) := Lib.hid (by rw [← HFin.out]; simp [be_length])
  have hs0 := hx.s.1
  have hd0 := hx.d.1
  obtain ⟨hda0, hda1⟩ := hx.da
  have hme := meth_code_d
  have hmw := meth_write_d
  clear hx hc hpe h1 h2 hk
  unfold FR.cs
  go_enter Try.func27, Try.ntmps27
  obtain ⟨W0, hW0⟩ : ∃ W0, w.alloc (.cells #[.int .u64 x.s, .int .u64 x.d, .int .i64 x.k, .int .i64 x.op, .int .u64 x.sm, .int .u32 x.si, .int .u64 x.tm, .int .u32 x.ti, .int .u32 x.hs, .int .u32 x.hd, .int .i64 x.tl, .int .i64 x.pr, .int .i64 x.sp, .int .i64 x.dp, .int .u64 x.da] 32) = W0 := ⟨_, rfl⟩
  have HB0 : Hid (Has W0 w.heap.size 32 #[.int .u64 x.s, .int .u64 x.d, .int .i64 x.k, .int .i64 x.op, .int .u64 x.sm, .int .u32 x.si, .int .u64 x.tm, .int .u32 x.ti, .int .u32 x.hs, .int .u32 x.hd, .int .i64 x.tl, .int .i64 x.pr, .int .i64 x.sp, .int .i64 x.dp, .int .u64 x.da]) := Lib.hid (hW0 ▸ Has.new _ _ _)
  have HL0 : Hid (Below w.heap.size w W0) := Lib.hid (hW0 ▸ (Below.refl _ w).alloc (Nat.le_refl _) _)
  go_upto_region 1 with fail
  try rw [hW0]
  clear hW0
  have c0 := HB0.out.cell 0
  have c1 := HB0.out.cell 1
  have c2 := HB0.out.cell 2
  have c3 := HB0.out.cell 3
  have c4 := HB0.out.cell 4
  have c5 := HB0.out.cell 5
  have c6 := HB0.out.cell 6
  have c7 := HB0.out.cell 7
  have c8 := HB0.out.cell 8
  have c9 := HB0.out.cell 9
  have c10 := HB0.out.cell 10
  have c11 := HB0.out.cell 11
  have c12 := HB0.out.cell 12
  have c13 := HB0.out.cell 13
  have c14 := HB0.out.cell 14
  simp only [List.getElem?_toArray, List.getElem?_cons_zero, List.getElem?_cons_succ] at c0 c1 c2 c3 c4 c5 c6 c7 c8 c9 c10 c11 c12 c13 c14
  go_wp2_with fail
  refine (HChk.out _).mono ?_
  rintro e w1 ⟨rfl, hb1⟩
  have HB1 := Lib.hid (HB0.out.below hb1)
  have HL1 := Lib.hid (HL0.out.trans (hb1.mono HL0.out.size))
  clear hb1 HB0 HL0 c0 c1 c2 c3 c4 c5 c6 c7 c8 c9 c10 c11 c12 c13 c14
  have c0 := HB1.out.cell 0
  have c1 := HB1.out.cell 1
  have c2 := HB1.out.cell 2
  have c3 := HB1.out.cell 3
  have c4 := HB1.out.cell 4
  have c5 := HB1.out.cell 5
  have c6 := HB1.out.cell 6
  have c7 := HB1.out.cell 7
  have c8 := HB1.out.cell 8
  have c9 := HB1.out.cell 9
  have c10 := HB1.out.cell 10
  have c11 := HB1.out.cell 11
  have c12 := HB1.out.cell 12
  have c13 := HB1.out.cell 13
  have c14 := HB1.out.cell 14
  simp only [List.getElem?_toArray, List.getElem?_cons_zero, List.getElem?_cons_succ] at c0 c1 c2 c3 c4 c5 c6 c7 c8 c9 c10 c11 c12 c13 c14
  go_wp2_with fail
  refine (HPart.out _).mono ?_
  rintro e w2 ⟨rfl, hb2⟩
  have HB2 := Lib.hid (HB1.out.below hb2)
  have HL2 := Lib.hid (HL1.out.trans (hb2.mono HL1.out.size))
  clear hb2 HB1 HL1 c0 c1 c2 c3 c4 c5 c6 c7 c8 c9 c10 c11 c12 c13 c14
  go_wp2_with fail
  refine (wnewL 50 (by omega) _).mono ?_
  rintro e w8 ⟨g, l8, rfl, hwr, hk8, hb8⟩
  obtain ⟨s, hs⟩ : ∃ s : WS, (⟨50, [], []⟩ : WS) = s := ⟨_, rfl⟩
  have HLim : Hid (s.lim = 50 ∧ s.out = []) := Lib.hid (by rw [← hs]; exact ⟨rfl, rfl⟩)
  rw [hs, ← WS.add_nil s] at hwr
  have HW := Lib.hid (PB.mk (w := w) (l0 := []) (B := w.heap.size) hwr (HB2.out.below hb8) (fun hk => by have := hk8 _ hk; have := HB2.out.lt; omega) ⟨(turn_below (HL2.out.trans (hb8.mono HL2.out.size)) []), fun k hk => .inr (by have := hk8 k hk; have := HL2.out.size; omega)⟩)
  clear hwr hk8 hb8 hs HB2 HL2
  have c20 := HW.out.box.cell 1
  simp only [List.getElem?_toArray, List.getElem?_cons_zero, List.getElem?_cons_succ] at c20
  go_wp2_with fail
  refine (fit6 g _ s ([]) _ HW.out.wr x.d (by omega) (by omega) (by simp [be_length, HLim.out.1, HLim.out.2]; try omega)).mono ?_
  rintro e20 w20 ⟨rfl, l20, hw, hn⟩
  have HV := Lib.hid (HW.out.step hw hn)
  clear hw hn HW c20
  have HW := HV
  clear HV
  have c21 := HW.out.box.cell 0
  simp only [List.getElem?_toArray, List.getElem?_cons_zero, List.getElem?_cons_succ] at c21
  go_wp2_with fail
  refine (fit6 g _ s (be x.d 6) _ HW.out.wr x.s (by omega) (by omega) (by simp [be_length, HLim.out.1, HLim.out.2]; try omega)).mono ?_
  rintro e21 w21 ⟨rfl, l21, hw, hn⟩
  have HV := Lib.hid (HW.out.step hw hn)
  clear hw hn HW c21
  have HW := HV
  clear HV
  go_wp2_with fail
  refine (code_d _).mono ?_
  rintro e w22 ⟨rfl, hb⟩
  have HV := Lib.hid (HW.out.below hb)
  clear hb HW
  have HW := HV
  clear HV
  go_wp2_with fail
  refine (fit2 g _ s (be x.d 6 ++ be x.s 6) _ HW.out.wr 34997 (by omega) (by omega) (by simp [be_length, HLim.out.1, HLim.out.2]; try omega)).mono ?_
  rintro e23 w23 ⟨rfl, l23, hw, hn⟩
  have HV := Lib.hid (HW.out.step hw hn)
  clear hw hn HW
  have HW := HV
  clear HV
  go_wp2_with fail
  refine (dwrite_l g _ s (be x.d 6 ++ be x.s 6 ++ be 34997 2) _ HW.out.wr).mono ?_
  rintro e w24 ⟨rfl, l24, hw, hn⟩
  have HV := Lib.hid (HW.out.step hw hn)
  clear hw hn HW
  have HW := HV
  clear HV
  have c25 := HW.out.box.cell 14
  simp only [List.getElem?_toArray, List.getElem?_cons_zero, List.getElem?_cons_succ] at c25
  go_wp2_with fail
  refine (fit8 g _ s (be x.d 6 ++ be x.s 6 ++ be 34997 2 ++ []) _ HW.out.wr x.da (by omega) (by omega) (by simp [be_length, HLim.out.1, HLim.out.2]; try omega)).mono ?_
  rintro e25 w25 ⟨rfl, l25, hw, hn⟩
  have HV := Lib.hid (HW.out.step hw hn)
  clear hw hn HW c25
  have HW := HV
  clear HV
  go_wp2_with fail
  refine (woutL g _ _ _ HW.out.wr).mono ?_
  rintro e w10 ⟨⟨v, rfl, hv⟩, hb10⟩
  rw [WS.add_out, HLim.out.2, List.nil_append, HFin.out] at hv
  have hb : Below w.heap.size w w10 := (HW.out.nx.below (by simp) (Nat.le_refl _)).1.trans (hb10.mono (HW.out.nx.below (by simp) (Nat.le_refl _)).1.size)
  have hsz := (HW.out.nx.below (by simp) (Nat.le_refl _)).1.size
  rcases hv with ⟨rfl, h⟩ | ⟨h', c', rfl, h2, h3⟩
  · exact absurd (congrArg List.length h) (by rw [← HFin.out]; simp [be_length]; try omega)
  have HE : Hid (Row w10 h' c' (fenc x) ∧ w.heap.size ≤ h' ∧ Below w.heap.size w w10) := Lib.hid ⟨h2, by omega, hb⟩
  clear h2 h3 hb hb10 HW hsz
  go_wp2_with fail
  go_ret2
  exact ⟨h', c', rfl, HE.out⟩

set_option maxHeartbeats 4000000 in
theorem bytes_1 (x : FR) (hx : x.ty) (hc : fchk x = 0) (hk : x.k = 1) (w : World) : Calls Try.prog 27 #[.agg x.cs] w (Enc w x) := by
  have HChk : Hid (∀ W : World, Calls Try.prog 31 #[.agg #[.int .u64 x.s, .int .u64 x.d, .int .i64 x.k, .int .i64 x.op, .int .u64 x.sm, .int .u32 x.si, .int .u64 x.tm, .int .u32 x.ti, .int .u32 x.hs, .int .u32 x.hd, .int .i64 x.tl, .int .i64 x.pr, .int .i64 x.sp, .int .i64 x.dp, .int .u64 x.da]] W fun e w' => e = .returned (.int .i64 0) ∧ Below W.heap.size W w') := Lib.hid (fun W => hc ▸ check_any x hx W)
  obtain ⟨hs1, hd1, _, hpe, h1, h2⟩ := fchk_zero hc
  have HPart : Hid (∀ W : World, Calls Try.prog 50 #[.agg #[.int .u64 x.s, .int .u64 x.d, .int .i64 x.k, .int .i64 x.op, .int .u64 x.sm, .int .u32 x.si, .int .u64 x.tm, .int .u32 x.ti, .int .u32 x.hs, .int .u32 x.hd, .int .i64 x.tl, .int .i64 x.pr, .int .i64 x.sp, .int .i64 x.dp, .int .u64 x.da]] W fun e w' => e = .returned (.tuple #[.iface 105 (.agg x.ac), .int .i64 0]) ∧ Below W.heap.size W w') := Lib.hid (fun W => (part_any x W).mono fun e w' ⟨he, hb⟩ => ⟨by
    rw [he, if_pos hpe, hpe]
    unfold prt
    rw [if_neg (by omega), if_pos hk], hb⟩)
  have HOk : Hid x.okA := Lib.hid (hx.okA (h1 hk))
  have HFin : Hid (be x.d 6 ++ be x.s 6 ++ be 2054 2 ++ bodyA x ++ be x.da 8 = fenc x) := Lib.hid (by unfold fenc fcode fbody; rw [hk]; rfl)
  have HLen : Hid ((fenc x).length ≤ 50) := Lib.hid (by rw [← HFin.out]; simp [be_length, bodyA])
  have hs0 := hx.s.1
  have hd0 := hx.d.1
  obtain ⟨hda0, hda1⟩ := hx.da
  have hme := meth_code_a x
  have hmw := meth_write_a x
  clear hx hc hpe h1 h2 hk
  unfold FR.cs
  go_enter Try.func27, Try.ntmps27
  obtain ⟨W0, hW0⟩ : ∃ W0, w.alloc (.cells #[.int .u64 x.s, .int .u64 x.d, .int .i64 x.k, .int .i64 x.op, .int .u64 x.sm, .int .u32 x.si, .int .u64 x.tm, .int .u32 x.ti, .int .u32 x.hs, .int .u32 x.hd, .int .i64 x.tl, .int .i64 x.pr, .int .i64 x.sp, .int .i64 x.dp, .int .u64 x.da] 32) = W0 := ⟨_, rfl⟩
  have HB0 : Hid (Has W0 w.heap.size 32 #[.int .u64 x.s, .int .u64 x.d, .int .i64 x.k, .int .i64 x.op, .int .u64 x.sm, .int .u32 x.si, .int .u64 x.tm, .int .u32 x.ti, .int .u32 x.hs, .int .u32 x.hd, .int .i64 x.tl, .int .i64 x.pr, .int .i64 x.sp, .int .i64 x.dp, .int .u64 x.da]) := Lib.hid (hW0 ▸ Has.new _ _ _)
  have HL0 : Hid (Below w.heap.size w W0) := Lib.hid (hW0 ▸ (Below.refl _ w).alloc (Nat.le_refl _) _)
  go_upto_region 1 with fail
  try rw [hW0]
  clear hW0
  have c0 := HB0.out.cell 0
  have c1 := HB0.out.cell 1
  have c2 := HB0.out.cell 2
  have c3 := HB0.out.cell 3
  have c4 := HB0.out.cell 4
  have c5 := HB0.out.cell 5
  have c6 := HB0.out.cell 6
  have c7 := HB0.out.cell 7
  have c8 := HB0.out.cell 8
  have c9 := HB0.out.cell 9
  have c10 := HB0.out.cell 10
  have c11 := HB0.out.cell 11
  have c12 := HB0.out.cell 12
  have c13 := HB0.out.cell 13
  have c14 := HB0.out.cell 14
  simp only [List.getElem?_toArray, List.getElem?_cons_zero, List.getElem?_cons_succ] at c0 c1 c2 c3 c4 c5 c6 c7 c8 c9 c10 c11 c12 c13 c14
  go_wp2_with fail
  refine (HChk.out _).mono ?_
  rintro e w1 ⟨rfl, hb1⟩
  have HB1 := Lib.hid (HB0.out.below hb1)
  have HL1 := Lib.hid (HL0.out.trans (hb1.mono HL0.out.size))
  clear hb1 HB0 HL0 c0 c1 c2 c3 c4 c5 c6 c7 c8 c9 c10 c11 c12 c13 c14
  have c0 := HB1.out.cell 0
  have c1 := HB1.out.cell 1
  have c2 := HB1.out.cell 2
  have c3 := HB1.out.cell 3
  have c4 := HB1.out.cell 4
  have c5 := HB1.out.cell 5
  have c6 := HB1.out.cell 6
  have c7 := HB1.out.cell 7
  have c8 := HB1.out.cell 8
  have c9 := HB1.out.cell 9
  have c10 := HB1.out.cell 10
  have c11 := HB1.out.cell 11
  have c12 := HB1.out.cell 12
  have c13 := HB1.out.cell 13
  have c14 := HB1.out.cell 14
  simp only [List.getElem?_toArray, List.getElem?_cons_zero, List.getElem?_cons_succ] at c0 c1 c2 c3 c4 c5 c6 c7 c8 c9 c10 c11 c12 c13 c14
  go_wp2_with fail
  refine (HPart.out _).mono ?_
  rintro e w2 ⟨rfl, hb2⟩
  have HB2 := Lib.hid (HB1.out.below hb2)
  have HL2 := Lib.hid (HL1.out.trans (hb2.mono HL1.out.size))
  clear hb2 HB1 HL1 c0 c1 c2 c3 c4 c5 c6 c7 c8 c9 c10 c11 c12 c13 c14
  go_wp2_with fail
  refine (wnewL 50 (by omega) _).mono ?_
  rintro e w8 ⟨g, l8, rfl, hwr, hk8, hb8⟩
  obtain ⟨s, hs⟩ : ∃ s : WS, (⟨50, [], []⟩ : WS) = s := ⟨_, rfl⟩
  have HLim : Hid (s.lim = 50 ∧ s.out = []) := Lib.hid (by rw [← hs]; exact ⟨rfl, rfl⟩)
  rw [hs, ← WS.add_nil s] at hwr
  have HW := Lib.hid (PB.mk (w := w) (l0 := []) (B := w.heap.size) hwr (HB2.out.below hb8) (fun hk => by have := hk8 _ hk; have := HB2.out.lt; omega) ⟨(turn_below (HL2.out.trans (hb8.mono HL2.out.size)) []), fun k hk => .inr (by have := hk8 k hk; have := HL2.out.size; omega)⟩)
  clear hwr hk8 hb8 hs HB2 HL2
  have c20 := HW.out.box.cell 1
  simp only [List.getElem?_toArray, List.getElem?_cons_zero, List.getElem?_cons_succ] at c20
  go_wp2_with fail
  refine (fit6 g _ s ([]) _ HW.out.wr x.d (by omega) (by omega) (by simp [be_length, HLim.out.1, HLim.out.2]; try omega)).mono ?_
  rintro e20 w20 ⟨rfl, l20, hw, hn⟩
  have HV := Lib.hid (HW.out.step hw hn)
  clear hw hn HW c20
  have HW := HV
  clear HV
  have c21 := HW.out.box.cell 0
  simp only [List.getElem?_toArray, List.getElem?_cons_zero, List.getElem?_cons_succ] at c21
  go_wp2_with fail
  refine (fit6 g _ s (be x.d 6) _ HW.out.wr x.s (by omega) (by omega) (by simp [be_length, HLim.out.1, HLim.out.2]; try omega)).mono ?_
  rintro e21 w21 ⟨rfl, l21, hw, hn⟩
  have HV := Lib.hid (HW.out.step hw hn)
  clear hw hn HW c21
  have HW := HV
  clear HV
  go_wp2_with fail
  refine (code_a x _).mono ?_
  rintro e w22 ⟨rfl, hb⟩
  have HV := Lib.hid (HW.out.below hb)
  clear hb HW
  have HW := HV
  clear HV
  go_wp2_with fail
  refine (fit2 g _ s (be x.d 6 ++ be x.s 6) _ HW.out.wr 2054 (by omega) (by omega) (by simp [be_length, HLim.out.1, HLim.out.2]; try omega)).mono ?_
  rintro e23 w23 ⟨rfl, l23, hw, hn⟩
  have HV := Lib.hid (HW.out.step hw hn)
  clear hw hn HW
  have HW := HV
  clear HV
  go_wp2_with fail
  refine (awrite x HOk.out g _ s (be x.d 6 ++ be x.s 6 ++ be 2054 2) _ HW.out.wr (by simp [be_length, HLim.out.1, HLim.out.2]; try omega)).mono ?_
  rintro e w24 ⟨rfl, l24, hw, hn⟩
  have HV := Lib.hid (HW.out.step hw hn)
  clear hw hn HW
  have HW := HV
  clear HV
  have c25 := HW.out.box.cell 14
  simp only [List.getElem?_toArray, List.getElem?_cons_zero, List.getElem?_cons_succ] at c25
  go_wp2_with fail
  refine (fit8 g _ s (be x.d 6 ++ be x.s 6 ++ be 2054 2 ++ bodyA x) _ HW.out.wr x.da (by omega) (by omega) (by simp [be_length, bodyA, HLim.out.1, HLim.out.2]; try omega)).mono ?_
  rintro e25 w25 ⟨rfl, l25, hw, hn⟩
  have HV := Lib.hid (HW.out.step hw hn)
  clear hw hn HW c25
  have HW := HV
  clear HV
  go_wp2_with fail
  refine (woutL g _ _ _ HW.out.wr).mono ?_
  rintro e w10 ⟨⟨v, rfl, hv⟩, hb10⟩
  rw [WS.add_out, HLim.out.2, List.nil_append, HFin.out] at hv
  have hb : Below w.heap.size w w10 := (HW.out.nx.below (by simp) (Nat.le_refl _)).1.trans (hb10.mono (HW.out.nx.below (by simp) (Nat.le_refl _)).1.size)
  have hsz := (HW.out.nx.below (by simp) (Nat.le_refl _)).1.size
  rcases hv with ⟨rfl, h⟩ | ⟨h', c', rfl, h2, h3⟩
  · exact absurd (congrArg List.length h) (by rw [← HFin.out]; simp [be_length]; try omega)
  have HE : Hid (Row w10 h' c' (fenc x) ∧ w.heap.size ≤ h' ∧ Below w.heap.size w w10) := Lib.hid ⟨h2, by omega, hb⟩
  clear h2 h3 hb hb10 HW hsz
  go_wp2_with fail
  go_ret2
  exact ⟨h', c', rfl, HE.out⟩

set_option maxHeartbeats 4000000 in
theorem bytes_2 (x : FR) (hx : x.ty) (hc : fchk x = 0) (hk : x.k = 2) (w : World) : Calls Try.prog 27 #[.agg x.cs] w (Enc w x) := by
  have HChk : Hid (∀ W : World, Calls Try.prog 31 #[.agg #[.int .u64 x.s, .int .u64 x.d, .int .i64 x.k, .int .i64 x.op, .int .u64 x.sm, .int .u32 x.si, .int .u64 x.tm, .int .u32 x.ti, .int .u32 x.hs, .int .u32 x.hd, .int .i64 x.tl, .int .i64 x.pr, .int .i64 x.sp, .int .i64 x.dp, .int .u64 x.da]] W fun e w' => e = .returned (.int .i64 0) ∧ Below W.heap.size W w') := Lib.hid (fun W => hc ▸ check_any x hx W)
  obtain ⟨hs1, hd1, _, hpe, h1, h2⟩ := fchk_zero hc
  have HPart : Hid (∀ W : World, Calls Try.prog 50 #[.agg #[.int .u64 x.s, .int .u64 x.d, .int .i64 x.k, .int .i64 x.op, .int .u64 x.sm, .int .u32 x.si, .int .u64 x.tm, .int .u32 x.ti, .int .u32 x.hs, .int .u32 x.hd, .int .i64 x.tl, .int .i64 x.pr, .int .i64 x.sp, .int .i64 x.dp, .int .u64 x.da]] W fun e w' => e = .returned (.tuple #[.iface 106 (.agg x.hc), .int .i64 0]) ∧ Below W.heap.size W w') := Lib.hid (fun W => (part_any x W).mono fun e w' ⟨he, hb⟩ => ⟨by
    rw [he, if_pos hpe, hpe]
    unfold prt
    rw [if_neg (by omega), if_neg (by omega)], hb⟩)
  have HOk : Hid x.okH := Lib.hid (hx.okH (h2 hk))
  have HFin : Hid (be x.d 6 ++ be x.s 6 ++ be 2048 2 ++ bodyH x ++ be x.da 8 = fenc x) := Lib.hid (by unfold fenc fcode fbody; rw [hk]; rfl)
  have HLen : Hid ((fenc x).length ≤ 50) := Lib.hid (by rw [← HFin.out]; simp [be_length, bodyH]; split <;> simp [be_length, hdrS, hdr_len])
  have hs0 := hx.s.1
  have hd0 := hx.d.1
  obtain ⟨hda0, hda1⟩ := hx.da
  have hme := meth_code_h x
  have hmw := meth_write_h x
  clear hx hc hpe h1 h2 hk
  unfold FR.cs
  go_enter Try.func27, Try.ntmps27
  obtain ⟨W0, hW0⟩ : ∃ W0, w.alloc (.cells #[.int .u64 x.s, .int .u64 x.d, .int .i64 x.k, .int .i64 x.op, .int .u64 x.sm, .int .u32 x.si, .int .u64 x.tm, .int .u32 x.ti, .int .u32 x.hs, .int .u32 x.hd, .int .i64 x.tl, .int .i64 x.pr, .int .i64 x.sp, .int .i64 x.dp, .int .u64 x.da] 32) = W0 := ⟨_, rfl⟩
  have HB0 : Hid (Has W0 w.heap.size 32 #[.int .u64 x.s, .int .u64 x.d, .int .i64 x.k, .int .i64 x.op, .int .u64 x.sm, .int .u32 x.si, .int .u64 x.tm, .int .u32 x.ti, .int .u32 x.hs, .int .u32 x.hd, .int .i64 x.tl, .int .i64 x.pr, .int .i64 x.sp, .int .i64 x.dp, .int .u64 x.da]) := Lib.hid (hW0 ▸ Has.new _ _ _)
  have HL0 : Hid (Below w.heap.size w W0) := Lib.hid (hW0 ▸ (Below.refl _ w).alloc (Nat.le_refl _) _)
  go_upto_region 1 with fail
  try rw [hW0]
  clear hW0
  have c0 := HB0.out.cell 0
  have c1 := HB0.out.cell 1
  have c2 := HB0.out.cell 2
  have c3 := HB0.out.cell 3
  have c4 := HB0.out.cell 4
  have c5 := HB0.out.cell 5
  have c6 := HB0.out.cell 6
  have c7 := HB0.out.cell 7
  have c8 := HB0.out.cell 8
  have c9 := HB0.out.cell 9
  have c10 := HB0.out.cell 10
  have c11 := HB0.out.cell 11
  have c12 := HB0.out.cell 12
  have c13 := HB0.out.cell 13
  have c14 := HB0.out.cell 14
  simp only [List.getElem?_toArray, List.getElem?_cons_zero, List.getElem?_cons_succ] at c0 c1 c2 c3 c4 c5 c6 c7 c8 c9 c10 c11 c12 c13 c14
  go_wp2_with fail
  refine (HChk.out _).mono ?_
  rintro e w1 ⟨rfl, hb1⟩
  have HB1 := Lib.hid (HB0.out.below hb1)
  have HL1 := Lib.hid (HL0.out.trans (hb1.mono HL0.out.size))
  clear hb1 HB0 HL0 c0 c1 c2 c3 c4 c5 c6 c7 c8 c9 c10 c11 c12 c13 c14
  have c0 := HB1.out.cell 0
  have c1 := HB1.out.cell 1
  have c2 := HB1.out.cell 2
  have c3 := HB1.out.cell 3
  have c4 := HB1.out.cell 4
  have c5 := HB1.out.cell 5
  have c6 := HB1.out.cell 6
  have c7 := HB1.out.cell 7
  have c8 := HB1.out.cell 8
  have c9 := HB1.out.cell 9
  have c10 := HB1.out.cell 10
  have c11 := HB1.out.cell 11
  have c12 := HB1.out.cell 12
  have c13 := HB1.out.cell 13
  have c14 := HB1.out.cell 14
  simp only [List.getElem?_toArray, List.getElem?_cons_zero, List.getElem?_cons_succ] at c0 c1 c2 c3 c4 c5 c6 c7 c8 c9 c10 c11 c12 c13 c14
  go_wp2_with fail
  refine (HPart.out _).mono ?_
  rintro e w2 ⟨rfl, hb2⟩
  have HB2 := Lib.hid (HB1.out.below hb2)
  have HL2 := Lib.hid (HL1.out.trans (hb2.mono HL1.out.size))
  clear hb2 HB1 HL1 c0 c1 c2 c3 c4 c5 c6 c7 c8 c9 c10 c11 c12 c13 c14
  go_wp2_with fail
  refine (wnewL 50 (by omega) _).mono ?_
  rintro e w8 ⟨g, l8, rfl, hwr, hk8, hb8⟩
  obtain ⟨s, hs⟩ : ∃ s : WS, (⟨50, [], []⟩ : WS) = s := ⟨_, rfl⟩
  have HLim : Hid (s.lim = 50 ∧ s.out = []) := Lib.hid (by rw [← hs]; exact ⟨rfl, rfl⟩)
  rw [hs, ← WS.add_nil s] at hwr
  have HW := Lib.hid (PB.mk (w := w) (l0 := []) (B := w.heap.size) hwr (HB2.out.below hb8) (fun hk => by have := hk8 _ hk; have := HB2.out.lt; omega) ⟨(turn_below (HL2.out.trans (hb8.mono HL2.out.size)) []), fun k hk => .inr (by have := hk8 k hk; have := HL2.out.size; omega)⟩)
  clear hwr hk8 hb8 hs HB2 HL2
  have c20 := HW.out.box.cell 1
  simp only [List.getElem?_toArray, List.getElem?_cons_zero, List.getElem?_cons_succ] at c20
  go_wp2_with fail
  refine (fit6 g _ s ([]) _ HW.out.wr x.d (by omega) (by omega) (by simp [be_length, HLim.out.1, HLim.out.2]; try omega)).mono ?_
  rintro e20 w20 ⟨rfl, l20, hw, hn⟩
  have HV := Lib.hid (HW.out.step hw hn)
  clear hw hn HW c20
  have HW := HV
  clear HV
  have c21 := HW.out.box.cell 0
  simp only [List.getElem?_toArray, List.getElem?_cons_zero, List.getElem?_cons_succ] at c21
  go_wp2_with fail
  refine (fit6 g _ s (be x.d 6) _ HW.out.wr x.s (by omega) (by omega) (by simp [be_length, HLim.out.1, HLim.out.2]; try omega)).mono ?_
  rintro e21 w21 ⟨rfl, l21, hw, hn⟩
  have HV := Lib.hid (HW.out.step hw hn)
  clear hw hn HW c21
  have HW := HV
  clear HV
  go_wp2_with fail
  refine (code_h x _).mono ?_
  rintro e w22 ⟨rfl, hb⟩
  have HV := Lib.hid (HW.out.below hb)
  clear hb HW
  have HW := HV
  clear HV
  go_wp2_with fail
  refine (fit2 g _ s (be x.d 6 ++ be x.s 6) _ HW.out.wr 2048 (by omega) (by omega) (by simp [be_length, HLim.out.1, HLim.out.2]; try omega)).mono ?_
  rintro e23 w23 ⟨rfl, l23, hw, hn⟩
  have HV := Lib.hid (HW.out.step hw hn)
  clear hw hn HW
  have HW := HV
  clear HV
  go_wp2_with fail
  refine (hwrite x HOk.out g _ s (be x.d 6 ++ be x.s 6 ++ be 2048 2) _ HW.out.wr (by simp [be_length, HLim.out.1, HLim.out.2]; try omega)).mono ?_
  rintro e w24 ⟨rfl, l24, hw, hn⟩
  have HV := Lib.hid (HW.out.step hw hn)
  clear hw hn HW
  have HW := HV
  clear HV
  have c25 := HW.out.box.cell 14
  simp only [List.getElem?_toArray, List.getElem?_cons_zero, List.getElem?_cons_succ] at c25
  go_wp2_with fail
  refine (fit8 g _ s (be x.d 6 ++ be x.s 6 ++ be 2048 2 ++ bodyH x) _ HW.out.wr x.da (by omega) (by omega) (by have h28 := bodyH_len x; have h1 := HLim.out.1; have h2 := HLim.out.2; rw [h1, h2]; simp only [List.length_append, be_length, List.length_nil]; omega)).mono ?_
  rintro e25 w25 ⟨rfl, l25, hw, hn⟩
  have HV := Lib.hid (HW.out.step hw hn)
  clear hw hn HW c25
  have HW := HV
  clear HV
  go_wp2_with fail
  refine (woutL g _ _ _ HW.out.wr).mono ?_
  rintro e w10 ⟨⟨v, rfl, hv⟩, hb10⟩
  rw [WS.add_out, HLim.out.2, List.nil_append, HFin.out] at hv
  have hb : Below w.heap.size w w10 := (HW.out.nx.below (by simp) (Nat.le_refl _)).1.trans (hb10.mono (HW.out.nx.below (by simp) (Nat.le_refl _)).1.size)
  have hsz := (HW.out.nx.below (by simp) (Nat.le_refl _)).1.size
  rcases hv with ⟨rfl, h⟩ | ⟨h', c', rfl, h2, h3⟩
  · exact absurd (congrArg List.length h) (by rw [← HFin.out]; simp [be_length]; try omega)
  have HE : Hid (Row w10 h' c' (fenc x) ∧ w.heap.size ≤ h' ∧ Below w.heap.size w w10) := Lib.hid ⟨h2, by omega, hb⟩
  clear h2 h3 hb hb10 HW hsz
  go_wp2_with fail
  go_ret2
  exact ⟨h', c', rfl, HE.out⟩

theorem bytes_yes (x : FR) (hx : x.ty) (hc : fchk x = 0) (w : World) : Calls Try.prog 27 #[.agg x.cs] w (Enc w x) := by
  rcases perr_k (fchk_zero hc).2.2.2.1 with h | h | h
  · exact bytes_0 x hx hc h w
  · exact bytes_1 x hx hc h w
  · exact bytes_2 x hx hc h w

end Go.Proofs.Ytgdfpmnbofnjfaa
