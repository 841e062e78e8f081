/- Routes read: what the program makes of a value, of a piece, of bytes; pure. -/
import Derived.Test.YtjachhgcoioohaaNlG
import Derived.Test.YtjachhgcoioohaaRdF
import Derived.Test.YtjachhgcoioohaaBkA
namespace Go.Proofs.Ytjachhgcoioohaa
open Go.RowKit Go.Maps
set_option linter.unusedVariables false
set_option linter.unusedSimpArgs false
set_option maxRecDepth 100000

/-- A reader behind some bytes more, and these bytes. -/
abbrev RS.t (s : RS) (m : Int) : RS := (s.take m).2
def RS.x (s : RS) (m : Int) : List Int := (s.take m).1.getD []
/-- The bytes that are left. -/
def RS.left (s : RS) : Nat := s.st + s.bs.length - s.p

/-- What readESI gives: ten bytes, or zeros. -/
def ten (xs : List Int) (i : Nat) : Int := xs.getD i 0
/-- A route that begins so. -/
def beg (k rd : Int) (X : List Int) (tag : Int) : NL := ⟨k, rd, ten X 0, ten X 1, ten X 2, ten X 3, ten X 4, ten X 5, ten X 6, ten X 7, ten X 8, ten X 9, tag, 0, 0, false, 0, 0, 0, 0, 0⟩
def start (k : Int) (s : RS) : NL := beg k (s.got 8) ((s.t 8).x 10) (((s.t 8).t 10).got 4)
def startS (s : RS) : RS := ((s.t 8).t 10).t 4

def g1 (s : RS) : NL := { start 1 s with l1 := (startS s).got 3 }
def g2 (s : RS) : NL :=
  let s5 := ((startS s).t 1).t 6
  let h := s5.got 1 == 32
  let s6 := s5.t 1
  let s7 := if h then s6.t 4 else s6
  let s8 := s7.t 3
  { start 2 s with mac := ((startS s).t 1).got 6, has := h, ip := if h then s6.got 4 else 0, l1 := s7.got 3, l2 := if 0 < s8.left then s8.got 3 else 0 }
def g3 (s : RS) : NL := { beg 3 (s.got 8) [] ((s.t 8).got 4) with has := ((s.t 8).t 4).got 1 == 32, ip := (((s.t 8).t 4).t 1).got 4 }
def g4 (s : RS) : NL := { beg 4 (s.got 8) ((s.t 8).x 10) 0 with has := ((s.t 8).t 10).got 1 == 32, ip := (((s.t 8).t 10).t 1).got 4 }
def g5 (s : RS) : NL := { start 5 s with pl := (startS s).got 1, pip := ((startS s).t 1).got 4, gw := (((startS s).t 1).t 4).got 4, l1 := ((((startS s).t 1).t 4).t 4).got 3 }
/-- What the coding of a kind reads. -/
def gss : Nat → RS → NL
  | 1 => g1
  | 2 => g2
  | 3 => g3
  | 4 => g4
  | _ => g5

/-- No bytes but these are left, and there is no fault. -/
structure RS.rest (s : RS) (R : List Int) : Prop where
  ok : s.ef = 0
  lo : s.st ≤ s.p
  hi : s.p ≤ s.st + s.bs.length
  eq : s.bs.drop (s.p - s.st) = R
theorem RS.rest.len {s : RS} {R : List Int} (h : s.rest R) : s.left = R.length := by
  have h1 := h.lo
  have h2 := h.hi
  rw [← h.eq]
  simp [RS.left]
  omega
theorem RS.rest.take {s : RS} {B R : List Int} (h : s.rest (B ++ R)) : s.take (B.length : Nat) = (some B, s.t (B.length : Nat)) ∧ (s.t (B.length : Nat)).rest R := by
  have h1 := h.lo
  have h2 := h.hi
  have hl := h.len
  simp only [RS.left, List.length_append] at hl
  have e := take_c (s := s) B.length h.ok (by omega)
  rw [h.eq] at e
  have e2 : (B ++ R).take B.length = B := by simp
  rw [e2] at e
  have e3 : s.t (B.length : Nat) = { s with p := s.p + B.length } := by show (s.take _).2 = _; rw [e]
  refine ⟨by rw [e3]; exact e, ?_⟩
  rw [e3]
  refine ⟨h.ok, by show s.st ≤ s.p + B.length; omega, by show s.p + B.length ≤ s.st + s.bs.length; omega, ?_⟩
  show s.bs.drop (s.p + B.length - s.st) = R
  rw [show s.p + B.length - s.st = (s.p - s.st) + B.length by omega, ← List.drop_drop, h.eq]
  simp
theorem RS.rest.num {s : RS} {R : List Int} {v : Int} {m : Nat} (h : s.rest (be v m ++ R)) (h0 : 0 ≤ v) (h1 : v < 256 ^ m) : s.got m = v ∧ (s.t (m : Nat)).rest R := by
  have hk := h.take
  rw [be_length] at hk
  refine ⟨?_, hk.2⟩
  unfold RS.got
  rw [hk.1]
  simp [num_be_fit v m h0 h1]
theorem RS.rest.row {s : RS} {B R : List Int} {m : Nat} (h : s.rest (B ++ R)) (hm : B.length = m) : s.x (m : Nat) = B ∧ (s.t (m : Nat)).rest R := by
  subst hm
  exact ⟨by unfold RS.x; rw [h.take.1]; rfl, h.take.2⟩

/-- What is read of the start of a value. -/
theorem rest_start {s : RS} {x : NL} (hx : x.ok) {R : List Int} (h : s.rest ((be x.rd 8 ++ x.esi ++ be x.tag 4) ++ R)) (k : Int) :
    start k s = ⟨k, x.rd, x.e0, x.e1, x.e2, x.e3, x.e4, x.e5, x.e6, x.e7, x.e8, x.e9, x.tag, 0, 0, false, 0, 0, 0, 0, 0⟩ ∧ (startS s).rest R := by
  rw [List.append_assoc, List.append_assoc] at h
  obtain ⟨a1, b1⟩ := h.num hx.rd.1 (by have := hx.rd.2; omega)
  obtain ⟨a2, b2⟩ := b1.row x.esi_len
  obtain ⟨a3, b3⟩ := b2.num hx.tag.1 (by have := hx.tag.2; omega)
  refine ⟨?_, b3⟩
  have e : start k s = beg k (s.got 8) ((s.t (8 : Nat)).x (10 : Nat)) (((s.t (8 : Nat)).t (10 : Nat)).got 4) := rfl
  rw [e, a1, a2, a3]
  rfl

theorem gss_val {s : RS} {x : NL} {k : Nat} (hk : x.k = k) (h1 : 1 ≤ k) (h5 : k ≤ 5) (hx : x.ok) (hs : x.same (x.sh k) = true) (h : s.rest (x.val k)) : gss k s = x := by
  have hs := NL.same_iff.1 hs
  have hip := hx.ip
  have hmac := hx.mac
  have hl1 := hx.l1
  have hl2 := hx.l2
  have hgw := hx.gw
  have hpip := hx.pip
  have hpl := hx.pl
  have h6 : k = 1 ∨ k = 2 ∨ k = 3 ∨ k = 4 ∨ k = 5 := by omega
  rcases h6 with rfl | rfl | rfl | rfl | rfl
  · show g1 s = x
    have h : s.rest ((be x.rd 8 ++ x.esi ++ be x.tag 4) ++ (be x.l1 3 ++ [])) := by rw [List.append_nil]; exact h
    obtain ⟨a, b⟩ := rest_start hx h 1
    obtain ⟨c, _⟩ := b.num hl1.1 (by omega)
    have e : g1 s = { start 1 s with l1 := (startS s).got 3 } := rfl
    rw [e, a, c]
    refine Eq.trans ?_ hs.symm
    show _ = x.sh1
    unfold NL.sh1
    rw [hk]
    rfl
  · show g2 s = x
    have h : s.rest ((be x.rd 8 ++ x.esi ++ be x.tag 4) ++ (be 48 1 ++ (be x.mac 6 ++ ((if x.has then be 32 1 ++ be x.ip 4 else be 0 1) ++ (be x.l1 3 ++ ((if x.l2 = 0 then [] else be x.l2 3))))))) := by
      have h' : s.rest x.val2 := h
      simpa only [NL.val2, List.append_assoc] using h'
    obtain ⟨a, b⟩ := rest_start hx h 2
    obtain ⟨_, b⟩ := b.num (by omega) (by omega)
    obtain ⟨cm, b⟩ := b.num hmac.1 (by omega)
    have e : g2 s = { start 2 s with mac := ((startS s).t (1 : Nat)).got 6, has := (((startS s).t (1 : Nat)).t (6 : Nat)).got 1 == 32, ip := if ((((startS s).t (1 : Nat)).t (6 : Nat)).got 1 == 32) then ((((startS s).t (1 : Nat)).t (6 : Nat)).t (1 : Nat)).got 4 else 0, l1 := (if ((((startS s).t (1 : Nat)).t (6 : Nat)).got 1 == 32) then ((((startS s).t (1 : Nat)).t (6 : Nat)).t (1 : Nat)).t (4 : Nat) else ((((startS s).t (1 : Nat)).t (6 : Nat)).t (1 : Nat))).got 3, l2 := if 0 < ((if ((((startS s).t (1 : Nat)).t (6 : Nat)).got 1 == 32) then ((((startS s).t (1 : Nat)).t (6 : Nat)).t (1 : Nat)).t (4 : Nat) else ((((startS s).t (1 : Nat)).t (6 : Nat)).t (1 : Nat))).t (3 : Nat)).left then ((if ((((startS s).t (1 : Nat)).t (6 : Nat)).got 1 == 32) then ((((startS s).t (1 : Nat)).t (6 : Nat)).t (1 : Nat)).t (4 : Nat) else ((((startS s).t (1 : Nat)).t (6 : Nat)).t (1 : Nat))).t (3 : Nat)).got 3 else 0 } := rfl
    rw [e, a, cm]
    obtain ⟨s5, hs5⟩ : ∃ s5, ((startS s).t (1 : Nat)).t (6 : Nat) = s5 := ⟨_, rfl⟩
    rw [hs5] at b ⊢
    have key : ∀ (s7 : RS), s7.rest (be x.l1 3 ++ (if x.l2 = 0 then [] else be x.l2 3)) → s7.got 3 = x.l1 ∧ (if 0 < (s7.t (3 : Nat)).left then (s7.t (3 : Nat)).got 3 else 0) = x.l2 := by
      intro s7 h7
      obtain ⟨c, d⟩ := h7.num hl1.1 (by omega)
      refine ⟨c, ?_⟩
      have hlen := d.len
      by_cases h0 : x.l2 = 0
      · rw [if_pos h0] at hlen
        rw [hlen, h0]
        rfl
      · rw [if_neg h0] at hlen d
        rw [hlen, be_length, if_pos (by omega)]
        have d' : (s7.t (3 : Nat)).rest (be x.l2 3 ++ []) := by rw [List.append_nil]; exact d
        exact (d'.num hl2.1 (by omega)).1
    by_cases hh : x.has = true
    · rw [hh, if_pos rfl, List.append_assoc] at b
      obtain ⟨c1, b⟩ := b.num (by omega) (by omega)
      obtain ⟨c2, b⟩ := b.num hip.1 (by omega)
      obtain ⟨d1, d2⟩ := key _ b
      rw [c1]
      simp only [show ((32 : Int) == 32) = true from rfl, if_true]
      rw [c2, d1, d2]
      refine Eq.trans ?_ hs.symm
      show _ = x.sh2
      unfold NL.sh2
      rw [hh, hk]
      rfl
    · have hh : x.has = false := by simpa using hh
      rw [hh, if_neg (by decide)] at b
      obtain ⟨c1, b⟩ := b.num (by omega) (by omega)
      obtain ⟨d1, d2⟩ := key _ b
      rw [c1]
      simp only [show ((0 : Int) == 32) = false from rfl, Bool.false_eq_true, if_false]
      rw [d1, d2]
      refine Eq.trans ?_ hs.symm
      show _ = x.sh2
      unfold NL.sh2
      rw [hh, hk]
      rfl
  · show g3 s = x
    have h : s.rest (be x.rd 8 ++ (be x.tag 4 ++ (be 32 1 ++ (be x.ip 4 ++ [])))) := by
      have h' : s.rest x.val3 := h
      simpa only [NL.val3, List.append_assoc, List.append_nil] using h'
    obtain ⟨a1, b⟩ := h.num hx.rd.1 (by have := hx.rd.2; omega)
    obtain ⟨a2, b⟩ := b.num hx.tag.1 (by have := hx.tag.2; omega)
    obtain ⟨a3, b⟩ := b.num (by omega) (by omega)
    obtain ⟨a4, b⟩ := b.num hip.1 (by omega)
    have e : g3 s = { beg 3 (s.got 8) [] ((s.t (8 : Nat)).got 4) with has := ((s.t (8 : Nat)).t (4 : Nat)).got 1 == 32, ip := (((s.t (8 : Nat)).t (4 : Nat)).t (1 : Nat)).got 4 } := rfl
    rw [e, a1, a2, a3, a4]
    refine Eq.trans ?_ hs.symm
    show _ = x.sh3
    unfold NL.sh3
    rw [hk]
    rfl
  · show g4 s = x
    have h : s.rest (be x.rd 8 ++ (x.esi ++ (be 32 1 ++ (be x.ip 4 ++ [])))) := by
      have h' : s.rest x.val4 := h
      simpa only [NL.val4, List.append_assoc, List.append_nil] using h'
    obtain ⟨a1, b⟩ := h.num hx.rd.1 (by have := hx.rd.2; omega)
    obtain ⟨a2, b⟩ := b.row x.esi_len
    obtain ⟨a3, b⟩ := b.num (by omega) (by omega)
    obtain ⟨a4, b⟩ := b.num hip.1 (by omega)
    have e : g4 s = { beg 4 (s.got 8) ((s.t (8 : Nat)).x (10 : Nat)) 0 with has := ((s.t (8 : Nat)).t (10 : Nat)).got 1 == 32, ip := (((s.t (8 : Nat)).t (10 : Nat)).t (1 : Nat)).got 4 } := rfl
    rw [e, a1, a2, a3, a4]
    refine Eq.trans ?_ hs.symm
    show _ = x.sh4
    unfold NL.sh4
    rw [hk]
    rfl
  · show g5 s = x
    have h : s.rest ((be x.rd 8 ++ x.esi ++ be x.tag 4) ++ (be x.pl 1 ++ (be x.pip 4 ++ (be x.gw 4 ++ (be x.l1 3 ++ []))))) := by
      have h' : s.rest x.val5 := h
      simpa only [NL.val5, List.append_assoc, List.append_nil] using h'
    obtain ⟨a, b⟩ := rest_start hx h 5
    obtain ⟨a1, b⟩ := b.num hpl.1 (by omega)
    obtain ⟨a2, b⟩ := b.num hpip.1 (by omega)
    obtain ⟨a3, b⟩ := b.num hgw.1 (by omega)
    obtain ⟨a4, b⟩ := b.num hl1.1 (by omega)
    have e : g5 s = { start 5 s with pl := (startS s).got 1, pip := ((startS s).t (1 : Nat)).got 4, gw := (((startS s).t (1 : Nat)).t (4 : Nat)).got 4, l1 := ((((startS s).t (1 : Nat)).t (4 : Nat)).t (4 : Nat)).got 3 } := rfl
    rw [e, a, a1, a2, a3, a4]
    refine Eq.trans ?_ hs.symm
    show _ = x.sh5
    unfold NL.sh5
    rw [hk]
    rfl

/-- A route of zeros. -/
def nl0 : NL := ⟨0, 0, 0, 0, 0, 0, 0, 0, 0, 0, 0, 0, 0, 0, 0, false, 0, 0, 0, 0, 0⟩
/-- The reader behind the two bytes at the start of a piece, and the size that is said. -/
abbrev ps0 (p : List Int) : RS := ⟨p, 0, 0, 0, 0⟩
abbrev pk (p : List Int) : Int := (ps0 p).got 1
abbrev pn (p : List Int) : Int := ((ps0 p).t 1).got 1
abbrev pr (p : List Int) : RS := ((ps0 p).t 1).t 1
/-- What a piece is decoded to: a route, or why there is none. -/
def dec (p : List Int) : NL × Int :=
  if ((pr p).t (pn p)).ef ≠ 0 then (nl0, ((pr p).t (pn p)).ef)
  else if pk p < 1 ∨ 5 < pk p then (nl0, 6)
  else if chk (gss (pk p).toNat ((pr p).sub (pn p))) ≠ 0 ∨ enc (gss (pk p).toNat ((pr p).sub (pn p))) ≠ p then (nl0, 3)
  else (gss (pk p).toNat ((pr p).sub (pn p)), 0)

theorem rest0 (p : List Int) : (ps0 p).rest p := ⟨rfl, Nat.le_refl _, by simp, by simp⟩

/-- A route that was written is read. -/
theorem dec_enc {x : NL} (hx : x.ty) (hc : chk x = 0) : dec (enc x) = (x, 0) := by
  have hok := hx.ok hc
  obtain ⟨h1, h2, _⟩ := chk_zero hc
  obtain ⟨k, hk⟩ : ∃ k : Nat, x.k = k := ⟨x.k.toNat, by omega⟩
  have hkn : x.k.toNat = k := by omega
  have hvl := NL.val_len x k
  rw [hkn] at h2
  have e : enc x = [(k : Int)] ++ ([((x.val k).length : Int)] ++ x.val k) := by simp [enc, hkn, hk]
  have hr := rest0 (enc x)
  rw [e] at hr
  have b1 : ∀ v : Int, num [v] = v := fun v => by simp [num]
  have t1 := hr.take
  have t2 := t1.2.take
  have hk1 : pk (enc x) = k := by
    show (((ps0 (enc x)).take ((1 : Nat) : Int)).1.map num).getD 0 = k
    rw [e, show ((1 : Nat) : Int) = (([(k : Int)].length : Nat) : Int) from rfl, t1.1]
    simp [b1]
  have hn1 : pn (enc x) = ((x.val k).length : Nat) := by
    show ((((ps0 (enc x)).t 1).take ((1 : Nat) : Int)).1.map num).getD 0 = _
    rw [e]
    have := t2.1
    simp only [List.length_singleton] at this
    have h' : ((ps0 ([(k : Int)] ++ ([((x.val k).length : Int)] ++ x.val k))).t 1).take ((1 : Nat) : Int) = _ := this
    rw [h']
    simp [b1]
  have hrs : (pr (enc x)).rest (x.val k) := by
    have := t2.2
    rw [← e] at this
    exact this
  have hrs' : (pr (enc x)).rest (x.val k ++ []) := by rw [List.append_nil]; exact hrs
  have t3 := hrs'.take
  have hsub : ((pr (enc x)).sub (pn (enc x))).rest (x.val k) := by
    rw [hn1]
    unfold RS.sub
    rw [t3.1]
    exact ⟨t3.2.ok, Nat.le_refl _, by simp, by simp⟩
  have hg := gss_val hk (by omega) (by omega) hok h2 hsub
  unfold dec
  rw [hk1, if_neg (by rw [hn1]; simp [t3.2.ok]), if_neg (by omega)]
  rw [show ((k : Int)).toNat = k by omega, hg, if_neg (by simp [hc])]

theorem dec_ok {p : List Int} (h : (dec p).2 = 0) : chk (dec p).1 = 0 ∧ enc (dec p).1 = p ∧ (dec p).1 = gss (pk p).toNat ((pr p).sub (pn p)) := by
  unfold dec at h ⊢
  by_cases h1 : ((pr p).t (pn p)).ef ≠ 0
  · rw [if_pos h1] at h; exact absurd h h1
  · rw [if_neg h1] at h ⊢
    by_cases h2 : pk p < 1 ∨ 5 < pk p
    · rw [if_pos h2] at h; cases h
    · rw [if_neg h2] at h ⊢
      by_cases h3 : chk (gss (pk p).toNat ((pr p).sub (pn p))) ≠ 0 ∨ enc (gss (pk p).toNat ((pr p).sub (pn p))) ≠ p
      · rw [if_pos h3] at h; cases h
      · rw [if_neg h3]
        have h3 := not_or.1 h3
        exact ⟨Classical.not_not.1 h3.1, Classical.not_not.1 h3.2, rfl⟩

end Go.Proofs.Ytjachhgcoioohaa
