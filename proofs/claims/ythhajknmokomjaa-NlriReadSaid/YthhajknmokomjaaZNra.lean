/- Routes read: what the program makes of a value, of a piece, of bytes; pure. -/
import Derived.Test.YthhajknmokomjaaZNlG
import Derived.Test.YthhajknmokomjaaZRd
import Derived.Test.YthhajknmokomjaaZLw
import Derived.Deep.MidRow
import Derived.Test.YthhajknmokomjaaZNoD
import Derived.Deep.RegionHeld3
import Derived.Deep.CutBlock
namespace Go.Proofs.Ythhajknmokomjaa
open Go.RowKit Go.Maps
set_option linter.unusedVariables false
set_option linter.unusedSimpArgs false
set_option maxRecDepth 100000

/-- A reader behind some bytes more, and these bytes. -/
abbrev RS.t (s : RS) (m : Int) : RS := (s.take m).2
def RS.x (s : RS) (m : Int) : List Int := (s.take m).1.getD []
/-- The bytes that are left. -/
def RS.left (s : RS) : Nat := s.st + s.bs.length - s.p

/-- What readESI gives: ten bytes, or zeros. -/
def ten (xs : List Int) (i : Nat) : Int := xs.getD i 0
/-- A route that begins so. -/
def beg (k rd : Int) (X : List Int) (tag : Int) : NL := ⟨k, rd, ten X 0, ten X 1, ten X 2, ten X 3, ten X 4, ten X 5, ten X 6, ten X 7, ten X 8, ten X 9, tag, 0, 0, false, 0, 0, 0, 0, 0⟩
def start (k : Int) (s : RS) : NL := beg k (s.got 8) ((s.t 8).x 10) (((s.t 8).t 10).got 4)
def startS (s : RS) : RS := ((s.t 8).t 10).t 4

def g1 (s : RS) : NL := { start 1 s with l1 := (startS s).got 3 }
def g2 (s : RS) : NL :=
  let s5 := ((startS s).t 1).t 6
  let h := s5.got 1 == 32
  let s6 := s5.t 1
  let s7 := if h then s6.t 4 else s6
  let s8 := s7.t 3
  { start 2 s with mac := ((startS s).t 1).got 6, has := h, ip := if h then s6.got 4 else 0, l1 := s7.got 3, l2 := if 0 < s8.left then s8.got 3 else 0 }
def g3 (s : RS) : NL := { beg 3 (s.got 8) [] ((s.t 8).got 4) with has := ((s.t 8).t 4).got 1 == 32, ip := (((s.t 8).t 4).t 1).got 4 }
def g4 (s : RS) : NL := { beg 4 (s.got 8) ((s.t 8).x 10) 0 with has := ((s.t 8).t 10).got 1 == 32, ip := (((s.t 8).t 10).t 1).got 4 }
def g5 (s : RS) : NL := { start 5 s with pl := (startS s).got 1, pip := ((startS s).t 1).got 4, gw := (((startS s).t 1).t 4).got 4, l1 := ((((startS s).t 1).t 4).t 4).got 3 }
/-- What the coding of a kind reads. -/
def gss : Nat → RS → NL
  | 1 => g1
  | 2 => g2
  | 3 => g3
  | 4 => g4
  | _ => g5

/-- No bytes but these are left, and there is no fault. -/
structure RS.rest (s : RS) (R : List Int) : Prop where
  ok : s.ef = 0
  lo : s.st ≤ s.p
  hi : s.p ≤ s.st + s.bs.length
  eq : s.bs.drop (s.p - s.st) = R
theorem RS.rest.len {s : RS} {R : List Int} (h : s.rest R) : s.left = R.length := by
  have h1 := h.lo
  have h2 := h.hi
  rw [← h.eq]
  simp [RS.left]
  omega
theorem RS.rest.take {s : RS} {B R : List Int} (h : s.rest (B ++ R)) : s.take (B.length : Nat) = (some B, s.t (B.length : Nat)) ∧ (s.t (B.length : Nat)).rest R := by
  have h1 := h.lo
  have h2 := h.hi
  have hl := h.len
  simp only [RS.left, List.length_append] at hl
  have e := take_c (s := s) B.length h.ok (by omega)
  rw [h.eq] at e
  have e2 : (B ++ R).take B.length = B := by simp
  rw [e2] at e
  have e3 : s.t (B.length : Nat) = { s with p := s.p + B.length } := by show (s.take _).2 = _; rw [e]
  refine ⟨by rw [e3]; exact e, ?_⟩
  rw [e3]
  refine ⟨h.ok, by show s.st ≤ s.p + B.length; omega, by show s.p + B.length ≤ s.st + s.bs.length; omega, ?_⟩
  show s.bs.drop (s.p + B.length - s.st) = R
  rw [show s.p + B.length - s.st = (s.p - s.st) + B.length by omega, ← List.drop_drop, h.eq]
  simp
theorem RS.rest.num {s : RS} {R : List Int} {v : Int} {m : Nat} (h : s.rest (be v m ++ R)) (h0 : 0 ≤ v) (h1 : v < 256 ^ m) : s.got m = v ∧ (s.t (m : Nat)).rest R := by
  have hk := h.take
  rw [be_length] at hk
  refine ⟨?_, hk.2⟩
  unfold RS.got
  rw [hk.1]
  simp [num_be_fit v m h0 h1]
theorem RS.rest.row {s : RS} {B R : List Int} {m : Nat} (h : s.rest (B ++ R)) (hm : B.length = m) : s.x (m : Nat) = B ∧ (s.t (m : Nat)).rest R := by
  subst hm
  exact ⟨by unfold RS.x; rw [h.take.1]; rfl, h.take.2⟩

/-- What is read of the start of a value. -/
theorem rest_start {s : RS} {x : NL} (hx : x.ok) {R : List Int} (h : s.rest ((be x.rd 8 ++ x.esi ++ be x.tag 4) ++ R)) (k : Int) :
    start k s = ⟨k, x.rd, x.e0, x.e1, x.e2, x.e3, x.e4, x.e5, x.e6, x.e7, x.e8, x.e9, x.tag, 0, 0, false, 0, 0, 0, 0, 0⟩ ∧ (startS s).rest R := by
  rw [List.append_assoc, List.append_assoc] at h
  obtain ⟨a1, b1⟩ := h.num hx.rd.1 (by have := hx.rd.2; omega)
  obtain ⟨a2, b2⟩ := b1.row x.esi_len
  obtain ⟨a3, b3⟩ := b2.num hx.tag.1 (by have := hx.tag.2; omega)
  refine ⟨?_, b3⟩
  have e : start k s = beg k (s.got 8) ((s.t (8 : Nat)).x (10 : Nat)) (((s.t (8 : Nat)).t (10 : Nat)).got 4) := rfl
  rw [e, a1, a2, a3]
  rfl

theorem gss_val {s : RS} {x : NL} {k : Nat} (hk : x.k = k) (h1 : 1 ≤ k) (h5 : k ≤ 5) (hx : x.ok) (hs : x.same (x.sh k) = true) (h : s.rest (x.val k)) : gss k s = x := by
  have hs := NL.same_iff.1 hs
  have hip := hx.ip
  have hmac := hx.mac
  have hl1 := hx.l1
  have hl2 := hx.l2
  have hgw := hx.gw
  have hpip := hx.pip
  have hpl := hx.pl
  have h6 : k = 1 ∨ k = 2 ∨ k = 3 ∨ k = 4 ∨ k = 5 := by omega
  rcases h6 with rfl | rfl | rfl | rfl | rfl
  · show g1 s = x
    have h : s.rest ((be x.rd 8 ++ x.esi ++ be x.tag 4) ++ (be x.l1 3 ++ [])) := by rw [List.append_nil]; exact h
    obtain ⟨a, b⟩ := rest_start hx h 1
    obtain ⟨c, _⟩ := b.num hl1.1 (by omega)
    have e : g1 s = { start 1 s with l1 := (startS s).got 3 } := rfl
    rw [e, a, c]
    refine Eq.trans ?_ hs.symm
    show _ = x.sh1
    unfold NL.sh1
    rw [hk]
    rfl
  · show g2 s = x
    have h : s.rest ((be x.rd 8 ++ x.esi ++ be x.tag 4) ++ (be 48 1 ++ (be x.mac 6 ++ ((if x.has then be 32 1 ++ be x.ip 4 else be 0 1) ++ (be x.l1 3 ++ ((if x.l2 = 0 then [] else be x.l2 3))))))) := by
      have h' : s.rest x.val2 := h
      simpa only [NL.val2, List.append_assoc] using h'
    obtain ⟨a, b⟩ := rest_start hx h 2
    obtain ⟨_, b⟩ := b.num (by omega) (by omega)
    obtain ⟨cm, b⟩ := b.num hmac.1 (by omega)
    have e : g2 s = { start 2 s with mac := ((startS s).t (1 : Nat)).got 6, has := (((startS s).t (1 : Nat)).t (6 : Nat)).got 1 == 32, ip := if ((((startS s).t (1 : Nat)).t (6 : Nat)).got 1 == 32) then ((((startS s).t (1 : Nat)).t (6 : Nat)).t (1 : Nat)).got 4 else 0, l1 := (if ((((startS s).t (1 : Nat)).t (6 : Nat)).got 1 == 32) then ((((startS s).t (1 : Nat)).t (6 : Nat)).t (1 : Nat)).t (4 : Nat) else ((((startS s).t (1 : Nat)).t (6 : Nat)).t (1 : Nat))).got 3, l2 := if 0 < ((if ((((startS s).t (1 : Nat)).t (6 : Nat)).got 1 == 32) then ((((startS s).t (1 : Nat)).t (6 : Nat)).t (1 : Nat)).t (4 : Nat) else ((((startS s).t (1 : Nat)).t (6 : Nat)).t (1 : Nat))).t (3 : Nat)).left then ((if ((((startS s).t (1 : Nat)).t (6 : Nat)).got 1 == 32) then ((((startS s).t (1 : Nat)).t (6 : Nat)).t (1 : Nat)).t (4 : Nat) else ((((startS s).t (1 : Nat)).t (6 : Nat)).t (1 : Nat))).t (3 : Nat)).got 3 else 0 } := rfl
    rw [e, a, cm]
    obtain ⟨s5, hs5⟩ : ∃ s5, ((startS s).t (1 : Nat)).t (6 : Nat) = s5 := ⟨_, rfl⟩
    rw [hs5] at b ⊢
    have key : ∀ (s7 : RS), s7.rest (be x.l1 3 ++ (if x.l2 = 0 then [] else be x.l2 3)) → s7.got 3 = x.l1 ∧ (if 0 < (s7.t (3 : Nat)).left then (s7.t (3 : Nat)).got 3 else 0) = x.l2 := by
      intro s7 h7
      obtain ⟨c, d⟩ := h7.num hl1.1 (by omega)
      refine ⟨c, ?_⟩
      have hlen := d.len
      by_cases h0 : x.l2 = 0
      · rw [if_pos h0] at hlen
        rw [hlen, h0]
        rfl
      · rw [if_neg h0] at hlen d
        rw [hlen, be_length, if_pos (by omega)]
        have d' : (s7.t (3 : Nat)).rest (be x.l2 3 ++ []) := by rw [List.append_nil]; exact d
        exact (d'.num hl2.1 (by omega)).1
    by_cases hh : x.has = true
    · rw [hh, if_pos rfl, List.append_assoc] at b
      obtain ⟨c1, b⟩ := b.num (by omega) (by omega)
      obtain ⟨c2, b⟩ := b.num hip.1 (by omega)
      obtain ⟨d1, d2⟩ := key _ b
      rw [c1]
      simp only [show ((32 : Int) == 32) = true from rfl, if_true]
      rw [c2, d1, d2]
      refine Eq.trans ?_ hs.symm
      show _ = x.sh2
      unfold NL.sh2
      rw [hh, hk]
      rfl
    · have hh : x.has = false := by simpa using hh
      rw [hh, if_neg (by decide)] at b
      obtain ⟨c1, b⟩ := b.num (by omega) (by omega)
      obtain ⟨d1, d2⟩ := key _ b
      rw [c1]
      simp only [show ((0 : Int) == 32) = false from rfl, Bool.false_eq_true, if_false]
      rw [d1, d2]
      refine Eq.trans ?_ hs.symm
      show _ = x.sh2
      unfold NL.sh2
      rw [hh, hk]
      rfl
  · show g3 s = x
    have h : s.rest (be x.rd 8 ++ (be x.tag 4 ++ (be 32 1 ++ (be x.ip 4 ++ [])))) := by
      have h' : s.rest x.val3 := h
      simpa only [NL.val3, List.append_assoc, List.append_nil] using h'
    obtain ⟨a1, b⟩ := h.num hx.rd.1 (by have := hx.rd.2; omega)
    obtain ⟨a2, b⟩ := b.num hx.tag.1 (by have := hx.tag.2; omega)
    obtain ⟨a3, b⟩ := b.num (by omega) (by omega)
    obtain ⟨a4, b⟩ := b.num hip.1 (by omega)
    have e : g3 s = { beg 3 (s.got 8) [] ((s.t (8 : Nat)).got 4) with has := ((s.t (8 : Nat)).t (4 : Nat)).got 1 == 32, ip := (((s.t (8 : Nat)).t (4 : Nat)).t (1 : Nat)).got 4 } := rfl
    rw [e, a1, a2, a3, a4]
    refine Eq.trans ?_ hs.symm
    show _ = x.sh3
    unfold NL.sh3
    rw [hk]
    rfl
  · show g4 s = x
    have h : s.rest (be x.rd 8 ++ (x.esi ++ (be 32 1 ++ (be x.ip 4 ++ [])))) := by
      have h' : s.rest x.val4 := h
      simpa only [NL.val4, List.append_assoc, List.append_nil] using h'
    obtain ⟨a1, b⟩ := h.num hx.rd.1 (by have := hx.rd.2; omega)
    obtain ⟨a2, b⟩ := b.row x.esi_len
    obtain ⟨a3, b⟩ := b.num (by omega) (by omega)
    obtain ⟨a4, b⟩ := b.num hip.1 (by omega)
    have e : g4 s = { beg 4 (s.got 8) ((s.t (8 : Nat)).x (10 : Nat)) 0 with has := ((s.t (8 : Nat)).t (10 : Nat)).got 1 == 32, ip := (((s.t (8 : Nat)).t (10 : Nat)).t (1 : Nat)).got 4 } := rfl
    rw [e, a1, a2, a3, a4]
    refine Eq.trans ?_ hs.symm
    show _ = x.sh4
    unfold NL.sh4
    rw [hk]
    rfl
  · show g5 s = x
    have h : s.rest ((be x.rd 8 ++ x.esi ++ be x.tag 4) ++ (be x.pl 1 ++ (be x.pip 4 ++ (be x.gw 4 ++ (be x.l1 3 ++ []))))) := by
      have h' : s.rest x.val5 := h
      simpa only [NL.val5, List.append_assoc, List.append_nil] using h'
    obtain ⟨a, b⟩ := rest_start hx h 5
    obtain ⟨a1, b⟩ := b.num hpl.1 (by omega)
    obtain ⟨a2, b⟩ := b.num hpip.1 (by omega)
    obtain ⟨a3, b⟩ := b.num hgw.1 (by omega)
    obtain ⟨a4, b⟩ := b.num hl1.1 (by omega)
    have e : g5 s = { start 5 s with pl := (startS s).got 1, pip := ((startS s).t (1 : Nat)).got 4, gw := (((startS s).t (1 : Nat)).t (4 : Nat)).got 4, l1 := ((((startS s).t (1 : Nat)).t (4 : Nat)).t (4 : Nat)).got 3 } := rfl
    rw [e, a, a1, a2, a3, a4]
    refine Eq.trans ?_ hs.symm
    show _ = x.sh5
    unfold NL.sh5
    rw [hk]
    rfl

/-- A route of zeros. -/
def nl0 : NL := ⟨0, 0, 0, 0, 0, 0, 0, 0, 0, 0, 0, 0, 0, 0, 0, false, 0, 0, 0, 0, 0⟩
/-- The reader behind the two bytes at the start of a piece, and the size that is said. -/
abbrev ps0 (p : List Int) : RS := ⟨p, 0, 0, 0, 0⟩
abbrev pk (p : List Int) : Int := (ps0 p).got 1
abbrev pn (p : List Int) : Int := ((ps0 p).t 1).got 1
abbrev pr (p : List Int) : RS := ((ps0 p).t 1).t 1
/-- What a piece is decoded to: a route, or why there is none. -/
def dec (p : List Int) : NL × Int :=
  if ((pr p).t (pn p)).ef ≠ 0 then (nl0, ((pr p).t (pn p)).ef)
  else if pk p < 1 ∨ 5 < pk p then (nl0, 6)
  else if chk (gss (pk p).toNat ((pr p).sub (pn p))) ≠ 0 ∨ enc (gss (pk p).toNat ((pr p).sub (pn p))) ≠ p then (nl0, 3)
  else (gss (pk p).toNat ((pr p).sub (pn p)), 0)

theorem rest0 (p : List Int) : (ps0 p).rest p := ⟨rfl, Nat.le_refl _, by simp, by simp⟩

/-- A route that was written is read. -/
theorem dec_enc {x : NL} (hx : x.ty) (hc : chk x = 0) : dec (enc x) = (x, 0) := by
  have hok := hx.ok hc
  obtain ⟨h1, h2, _⟩ := chk_zero hc
  obtain ⟨k, hk⟩ : ∃ k : Nat, x.k = k := ⟨x.k.toNat, by omega⟩
  have hkn : x.k.toNat = k := by omega
  have hvl := NL.val_len x k
  rw [hkn] at h2
  have e : enc x = [(k : Int)] ++ ([((x.val k).length : Int)] ++ x.val k) := by simp [enc, hkn, hk]
  have hr := rest0 (enc x)
  rw [e] at hr
  have b1 : ∀ v : Int, num [v] = v := fun v => by simp [num]
  have t1 := hr.take
  have t2 := t1.2.take
  have hk1 : pk (enc x) = k := by
    show (((ps0 (enc x)).take ((1 : Nat) : Int)).1.map num).getD 0 = k
    rw [e, show ((1 : Nat) : Int) = (([(k : Int)].length : Nat) : Int) from rfl, t1.1]
    simp [b1]
  have hn1 : pn (enc x) = ((x.val k).length : Nat) := by
    show ((((ps0 (enc x)).t 1).take ((1 : Nat) : Int)).1.map num).getD 0 = _
    rw [e]
    have := t2.1
    simp only [List.length_singleton] at this
    have h' : ((ps0 ([(k : Int)] ++ ([((x.val k).length : Int)] ++ x.val k))).t 1).take ((1 : Nat) : Int) = _ := this
    rw [h']
    simp [b1]
  have hrs : (pr (enc x)).rest (x.val k) := by
    have := t2.2
    rw [← e] at this
    exact this
  have hrs' : (pr (enc x)).rest (x.val k ++ []) := by rw [List.append_nil]; exact hrs
  have t3 := hrs'.take
  have hsub : ((pr (enc x)).sub (pn (enc x))).rest (x.val k) := by
    rw [hn1]
    unfold RS.sub
    rw [t3.1]
    exact ⟨t3.2.ok, Nat.le_refl _, by simp, by simp⟩
  have hg := gss_val hk (by omega) (by omega) hok h2 hsub
  unfold dec
  rw [hk1, if_neg (by rw [hn1]; simp [t3.2.ok]), if_neg (by omega)]
  rw [show ((k : Int)).toNat = k by omega, hg, if_neg (by simp [hc])]

theorem dec_ok {p : List Int} (h : (dec p).2 = 0) : chk (dec p).1 = 0 ∧ enc (dec p).1 = p ∧ (dec p).1 = gss (pk p).toNat ((pr p).sub (pn p)) := by
  unfold dec at h ⊢
  by_cases h1 : ((pr p).t (pn p)).ef ≠ 0
  · rw [if_pos h1] at h; exact absurd h h1
  · rw [if_neg h1] at h ⊢
    by_cases h2 : pk p < 1 ∨ 5 < pk p
    · rw [if_pos h2] at h; cases h
    · rw [if_neg h2] at h ⊢
      by_cases h3 : chk (gss (pk p).toNat ((pr p).sub (pn p))) ≠ 0 ∨ enc (gss (pk p).toNat ((pr p).sub (pn p))) ≠ p
      · rw [if_pos h3] at h; cases h
      · rw [if_neg h3]
        have h3 := not_or.1 h3
        exact ⟨Classical.not_not.1 h3.1, Classical.not_not.1 h3.2, rfl⟩

end Go.Proofs.Ythhajknmokomjaa

namespace Go.Proofs.Ythhajknmokomjaa
open Go.RowKit Go.Maps
set_option linter.unusedVariables false
set_option linter.unusedSimpArgs false
set_option maxRecDepth 100000

/-- The size of the first piece of some bytes. -/
def cut (b : List Int) : Nat := if b.length < 2 then b.length else min b.length (2 + (b.getD 1 0).toNat)
theorem cut_le (b : List Int) : cut b ≤ b.length := by unfold cut; split <;> omega
theorem cut_pos {b : List Int} (h : 0 < b.length) : 0 < cut b := by unfold cut; split <;> omega

/-- Where the pieces begin, from a position on. -/
def pos (bs : List Int) : Nat → Nat → List Nat
  | 0, _ => []
  | n + 1, i => if bs.length ≤ i then [] else i :: pos bs n (i + cut (bs.drop i))
def piece (bs : List Int) (i : Nat) : List Int := (bs.drop i).take (cut (bs.drop i))
/-- The routes of pieces, behind some. -/
def runp (bs : List Int) : List NL → List Nat → List NL × Int × Int
  | acc, [] => (acc, 0, 0)
  | acc, i :: r => if (dec (piece bs i)).2 ≠ 0 then ([], (dec (piece bs i)).2, i) else runp bs (acc ++ [(dec (piece bs i)).1]) r
/-- What Read answers. -/
def readP (bs : List Int) : List NL × Int × Int := runp bs [] (pos bs bs.length 0)

theorem pos_done {bs : List Int} {n i : Nat} (h : bs.length ≤ i) : pos bs n i = [] := by
  cases n with
  | zero => rfl
  | succ n => rw [pos, if_pos h]
/-- More fuel than bytes changes nothing. -/
theorem pos_fuel {bs : List Int} : ∀ (n m i : Nat), bs.length - i ≤ n → bs.length - i ≤ m → pos bs n i = pos bs m i
  | 0, m, i, h, _ => by rw [pos_done (by omega), pos_done (by omega)]
  | n + 1, 0, i, _, h => by rw [pos_done (by omega), pos_done (by omega)]
  | n + 1, m + 1, i, h1, h2 => by
    rw [pos, pos]
    by_cases h : bs.length ≤ i
    · rw [if_pos h, if_pos h]
    · rw [if_neg h, if_neg h]
      have := cut_pos (b := bs.drop i) (by simp; omega)
      rw [pos_fuel n m _ (by omega) (by omega)]
theorem pos_step {bs : List Int} {n i : Nat} (h : i < bs.length) (hn : bs.length - i ≤ n) : pos bs n i = i :: pos bs n (i + cut (bs.drop i)) := by
  have hc := cut_pos (b := bs.drop i) (by simp; omega)
  obtain ⟨m, rfl⟩ : ∃ m, n = m + 1 := ⟨n - 1, by omega⟩
  rw [pos, if_neg (by omega), pos_fuel (m + 1) m _ (by omega) (by omega)]

theorem pos_lt {bs : List Int} : ∀ (n i : Nat), ∀ j ∈ pos bs n i, i ≤ j ∧ j < bs.length
  | 0, i, j, h => by cases h
  | n + 1, i, j, h => by
    rw [pos] at h
    by_cases h0 : bs.length ≤ i
    · rw [if_pos h0] at h; cases h
    · rw [if_neg h0] at h
      rcases List.mem_cons.1 h with rfl | h
      · omega
      · have := pos_lt n _ j h
        omega

theorem runp_snoc {bs : List Int} : ∀ (is : List Nat) (acc : List NL) (r : List Nat), (∀ i ∈ is, (dec (piece bs i)).2 = 0) → runp bs acc (is ++ r) = runp bs (acc ++ is.map fun i => (dec (piece bs i)).1) r
  | [], acc, r, _ => by simp
  | i :: is, acc, r, h => by
    rw [List.cons_append, runp, if_neg (by rw [h i (by simp)]; simp), runp_snoc is _ r (fun j hj => h j (by simp [hj]))]
    simp
/-- All pieces are right. -/
theorem readP_all {bs : List Int} {is : List Nat} (he : pos bs bs.length 0 = is) (h : ∀ i ∈ is, (dec (piece bs i)).2 = 0) : readP bs = (is.map fun i => (dec (piece bs i)).1, 0, 0) := by
  have := runp_snoc is [] [] h
  rw [List.append_nil] at this
  rw [readP, he, this]
  simp [runp]
/-- A piece is wrong. -/
theorem readP_bad {bs : List Int} {is r : List Nat} {i : Nat} (he : pos bs bs.length 0 = is ++ i :: r) (h : ∀ j ∈ is, (dec (piece bs j)).2 = 0) (hi : (dec (piece bs i)).2 ≠ 0) : readP bs = ([], (dec (piece bs i)).2, (i : Int)) := by
  rw [readP, he, runp_snoc is [] (i :: r) h, runp, if_pos hi]

/-- The bytes of routes. -/
def encs (l : List NL) : List Int := (l.map enc).flatten
theorem encs_cons (x : NL) (l : List NL) : encs (x :: l) = enc x ++ encs l := by simp [encs]
theorem encs_snoc (l : List NL) (x : NL) : encs (l ++ [x]) = encs l ++ enc x := by simp [encs]
theorem encs_append (l m : List NL) : encs (l ++ m) = encs l ++ encs m := by simp [encs]

theorem cut_enc (x : NL) (R : List Int) : cut (enc x ++ R) = (enc x).length := by
  have h := enc_len x
  unfold cut
  rw [if_neg (by simp; omega)]
  have e : (enc x ++ R).getD 1 0 = ((x.val x.k.toNat).length : Int) := by simp [enc]
  rw [e]
  simp
  omega

theorem pos_encs {bs : List Int} : ∀ (l : List NL) (done : List Int), bs = done ++ encs l →
    ∃ is, pos bs bs.length done.length = is ∧ is.map (piece bs) = l.map enc
  | [], done, h => ⟨[], pos_done (by rw [h]; simp [encs]), rfl⟩
  | x :: l, done, h => by
    have hl := enc_len x
    rw [encs_cons] at h
    have hd : bs.drop done.length = enc x ++ encs l := by rw [h]; simp
    have hc : cut (bs.drop done.length) = (enc x).length := by rw [hd, cut_enc]
    obtain ⟨is, h1, h2⟩ := pos_encs (bs := bs) l (done ++ enc x) (by rw [h]; simp)
    refine ⟨done.length :: is, ?_, ?_⟩
    · rw [pos_step (by rw [h]; simp; omega) (by omega), hc]
      rw [List.length_append] at h1
      rw [h1]
    · rw [List.map_cons, List.map_cons, h2]
      congr 1
      rw [piece, hc, hd]
      simp

/-- **What was written is read.** -/
theorem readP_encs {l : List NL} (hl : ∀ x ∈ l, x.ty ∧ chk x = 0) : readP (encs l) = (l, 0, 0) := by
  obtain ⟨is, h1, h2⟩ := pos_encs (bs := encs l) l [] (by simp)
  have hdec : ∀ p ∈ l.map enc, (dec p).2 = 0 := by
    intro p hp
    obtain ⟨x, hx, rfl⟩ := List.mem_map.1 hp
    rw [dec_enc (hl x hx).1 (hl x hx).2]
  rw [readP_all h1 (fun i hi => hdec _ (by rw [← h2]; exact List.mem_map.2 ⟨i, hi, rfl⟩))]
  have e : (is.map fun i => (dec (piece (encs l) i)).1) = (is.map (piece (encs l))).map fun p => (dec p).1 := by simp
  rw [e, h2, List.map_map]
  have : l.map ((fun p => (dec p).1) ∘ enc) = l := by
    rw [List.map_congr_left (g := id)]
    · simp
    · intro x hx
      simp [dec_enc (hl x hx).1 (hl x hx).2]
  rw [this]

/-- What was read was written. -/
theorem runp_back {bs : List Int} : ∀ (n i : Nat) (acc : List NL), bs.length - i ≤ n → i ≤ bs.length → encs acc = bs.take i → (runp bs acc (pos bs n i)).2.1 = 0 →
    encs (runp bs acc (pos bs n i)).1 = bs ∧ (runp bs acc (pos bs n i)).2.2 = 0
  | 0, i, acc, h, hi, he, _ => by
    show encs acc = bs ∧ (0 : Int) = 0
    exact ⟨by rw [he, List.take_of_length_le (by omega)], rfl⟩
  | n + 1, i, acc, h, hi, he, h0 => by
    by_cases hd : bs.length ≤ i
    · rw [pos_done hd] at h0 ⊢
      exact ⟨by rw [runp, he, List.take_of_length_le hd], rfl⟩
    · have hc := cut_pos (b := bs.drop i) (by simp; omega)
      have hcl := cut_le (bs.drop i)
      simp only [List.length_drop] at hcl
      rw [pos, if_neg hd] at h0 ⊢
      rw [runp] at h0 ⊢
      by_cases hz : (dec (piece bs i)).2 ≠ 0
      · rw [if_pos hz] at h0; exact absurd h0 hz
      · rw [if_neg hz] at h0 ⊢
        have hk := dec_ok (Classical.not_not.1 hz)
        refine runp_back n _ _ (by omega) (by omega) ?_ h0
        rw [encs_snoc, he, hk.2.1, piece, List.take_add]
theorem readP_back {bs : List Int} (h : (readP bs).2.1 = 0) : encs (readP bs).1 = bs ∧ (readP bs).2.2 = 0 := runp_back bs.length 0 [] (by omega) (Nat.zero_le _) (by simp [encs]) h

theorem runp_mem {bs : List Int} : ∀ (is : List Nat) (acc : List NL), (∀ x ∈ acc, chk x = 0) → ∀ x ∈ (runp bs acc is).1, chk x = 0
  | [], acc, h => h
  | i :: is, acc, h => by
    rw [runp]
    by_cases hz : (dec (piece bs i)).2 ≠ 0
    · rw [if_pos hz]; simp
    · rw [if_neg hz]
      refine runp_mem is _ (fun x hx => ?_)
      rcases List.mem_append.1 hx with hx | hx
      · exact h x hx
      · rw [List.mem_singleton.1 hx]
        exact (dec_ok (Classical.not_not.1 hz)).1
theorem readP_chk (bs : List Int) : ∀ x ∈ (readP bs).1, chk x = 0 := runp_mem _ _ (by simp)

/-- A fault lies within the bytes, and there are no routes beside it. -/
theorem runp_fault {bs : List Int} : ∀ (is : List Nat) (acc : List NL), (∀ i ∈ is, i < bs.length) → (runp bs acc is).2.1 ≠ 0 → (runp bs acc is).1 = [] ∧ 0 ≤ (runp bs acc is).2.2 ∧ (runp bs acc is).2.2 < bs.length
  | [], acc, _, h => absurd rfl h
  | i :: is, acc, hi, h => by
    rw [runp] at h ⊢
    by_cases hz : (dec (piece bs i)).2 ≠ 0
    · rw [if_pos hz]
      have := hi i (by simp)
      exact ⟨rfl, by simp, by simpa using this⟩
    · rw [if_neg hz] at h ⊢
      exact runp_fault is _ (fun j hj => hi j (by simp [hj])) h
theorem readP_fault {bs : List Int} (h : (readP bs).2.1 ≠ 0) : (readP bs).1 = [] ∧ 0 ≤ (readP bs).2.2 ∧ (readP bs).2.2 < bs.length :=
  runp_fault _ _ (fun i hi => (pos_lt _ _ i hi).2) h

/-- A part of an encoded route is too short. -/
theorem dec_short {x : NL} {d : Nat} (hx : x.ty) (hc : chk x = 0) (h1 : 0 < d) (h2 : d < (enc x).length) : (dec ((enc x).take d)).2 = 4 := by
  have hok := hx.ok hc
  obtain ⟨hk, _⟩ := chk_zero hc
  have hvl := NL.val_len x x.k.toNat
  have hel := enc_len x
  have e : enc x = x.k :: ((x.val x.k.toNat).length : Int) :: x.val x.k.toNat := by simp [enc]
  obtain ⟨d, rfl⟩ : ∃ d', d = d' + 1 := ⟨d - 1, by omega⟩
  rw [e, List.take_succ_cons]
  cases d with
  | zero =>
    rw [List.take_zero]
    have e1 : (ps0 [x.k]).t 1 = ⟨[x.k], 0, 1, 0, 0⟩ := by
      show (RS.take _ ((1 : Nat) : Int)).2 = _
      rw [take_c 1 rfl (by simp)]
    have e2 : pr [x.k] = ⟨[x.k], 0, 1, 4, 1⟩ := by
      show ((ps0 _).t 1).t 1 = _
      rw [e1]
      show (RS.take _ ((1 : Nat) : Int)).2 = _
      rw [take_b _ rfl (.inr (by simp))]
      rfl
    have e4 : ((pr [x.k]).t (pn [x.k])).ef = 4 := by
      rw [e2]
      show (RS.take _ _).2.ef = 4
      rw [take_a _ (show (4 : Int) ≠ 0 by decide)]
    unfold dec
    rw [if_pos (by rw [e4]; decide), e4]
  | succ d =>
    rw [List.take_succ_cons]
    have hlt : ((x.val x.k.toNat).take d).length < (x.val x.k.toNat).length := by simp; omega
    generalize (x.val x.k.toNat).take d = V at hlt
    generalize (x.val x.k.toNat).length = m at hlt
    have e1 : (ps0 (x.k :: (m : Int) :: V)).t 1 = ⟨x.k :: (m : Int) :: V, 0, 1, 0, 0⟩ := by
      show (RS.take _ ((1 : Nat) : Int)).2 = _
      rw [take_c 1 rfl (by simp)]
    have e2 : pr (x.k :: (m : Int) :: V) = ⟨x.k :: (m : Int) :: V, 0, 2, 0, 0⟩ := by
      show ((ps0 _).t 1).t 1 = _
      rw [e1]
      show (RS.take _ ((1 : Nat) : Int)).2 = _
      rw [take_c 1 rfl (by simp)]
    have e3 : pn (x.k :: (m : Int) :: V) = m := by
      show ((ps0 _).t 1).got 1 = _
      rw [e1]
      show ((RS.take _ ((1 : Nat) : Int)).1.map num).getD 0 = _
      rw [take_c 1 rfl (by simp)]
      simp [num]
    have e4 : ((pr (x.k :: (m : Int) :: V)).t (pn (x.k :: (m : Int) :: V))).ef = 4 := by
      rw [e2, e3]
      show (RS.take _ _).2.ef = 4
      rw [take_b _ rfl (.inr (by simp; omega))]
    unfold dec
    rw [if_pos (by rw [e4]; decide), e4]

/-- Bytes that were written, cut inside of a route. -/
theorem readP_inside {l : List NL} {x : NL} {d : Nat} (hl : ∀ y ∈ l, y.ty ∧ chk y = 0) (hx : x.ty) (hc : chk x = 0) (h1 : 0 < d) (h2 : d < (enc x).length) : readP (encs l ++ (enc x).take d) = ([], 4, ((encs l).length : Int)) := by
  have hel := enc_len x
  obtain ⟨bs, hbs⟩ : ∃ bs, encs l ++ (enc x).take d = bs := ⟨_, rfl⟩
  have hcutl : cut ((enc x).take d) = d := by
    unfold cut
    have hlen : ((enc x).take d).length = d := by simp; omega
    by_cases h : d < 2
    · rw [if_pos (by omega), hlen]
    · rw [if_neg (by omega), hlen]
      have e : ((enc x).take d).getD 1 0 = ((x.val x.k.toNat).length : Int) := by
        obtain ⟨d, rfl⟩ : ∃ d', d = d' + 2 := ⟨d - 2, by omega⟩
        simp [enc]
      rw [e]
      simp
      omega
  have key : ∀ (l : List NL) (done : List Int), (∀ y ∈ l, y.ty ∧ chk y = 0) → bs = done ++ (encs l ++ (enc x).take d) →
      ∃ is r, pos bs bs.length done.length = is ++ (done ++ encs l).length :: r ∧ is.map (piece bs) = l.map enc := by
    intro l
    induction l with
    | nil =>
      intro done _ h
      have hlen : bs.length = done.length + d := by rw [h]; simp [encs]; omega
      refine ⟨[], pos bs bs.length (done.length + cut (bs.drop done.length)), ?_, rfl⟩
      rw [pos_step (by omega) (by omega)]
      simp [encs]
    | cons y l ih =>
      intro done hy h
      rw [encs_cons, List.append_assoc] at h
      have hd : bs.drop done.length = enc y ++ (encs l ++ (enc x).take d) := by rw [h]; simp
      have hcy : cut (bs.drop done.length) = (enc y).length := by rw [hd, cut_enc]
      have hyl := enc_len y
      obtain ⟨is, r, h1, h2⟩ := ih (done ++ enc y) (fun z hz => hy z (by simp [hz])) (by rw [h]; simp)
      refine ⟨done.length :: is, r, ?_, ?_⟩
      · rw [pos_step (by rw [h]; simp; omega) (by omega), hcy]
        rw [List.length_append] at h1
        rw [h1, encs_cons]
        simp [Nat.add_assoc]
      · rw [List.map_cons, List.map_cons, h2]
        congr 1
        rw [piece, hcy, hd]
        simp
  obtain ⟨is, r, h3, h4⟩ := key l [] hl (by rw [← hbs]; simp)
  simp only [List.nil_append, List.length_nil] at h3
  have hp : piece bs (encs l).length = (enc x).take d := by
    rw [piece, ← hbs]
    simp only [List.drop_left]
    rw [hcutl, List.take_take, Nat.min_self]
  have hdec : ∀ p ∈ l.map enc, (dec p).2 = 0 := by
    intro p hp
    obtain ⟨y, hy, rfl⟩ := List.mem_map.1 hp
    rw [dec_enc (hl y hy).1 (hl y hy).2]
  have hds := dec_short hx hc h1 h2
  rw [hbs, readP_bad h3 (fun i hi => hdec _ (by rw [← h4]; exact List.mem_map.2 ⟨i, hi, rfl⟩)) (by rw [hp, hds]; decide), hp, hds]

end Go.Proofs.Ythhajknmokomjaa

namespace Go.Proofs.Ythhajknmokomjaa
open Go.RowKit Go.Maps
set_option linter.unusedVariables false
set_option linter.unusedSimpArgs false
set_option maxRecDepth 100000

def NL.l (x : NL) : List Value := x.cs.toList
theorem NL.l_len (x : NL) : x.l.length = 21 := rfl
theorem NL.l_one (x : NL) : ∀ u ∈ x.l, u.oneCell' = true := by
  intro u hu
  have h := x.one
  rw [Array.all_eq_true_iff_forall_mem] at h
  exact h u (by simpa [NL.l] using hu)
theorem NL.l_arr (x : NL) : x.l.toArray = x.cs := by simp [NL.l]

def flatN (L : List NL) : List Value := L.flatMap NL.l
theorem flatN_nil : flatN [] = [] := rfl
theorem flatN_cons (x : NL) (L : List NL) : flatN (x :: L) = x.l ++ flatN L := by simp [flatN]
theorem flatN_len (L : List NL) : (flatN L).length = L.length * 21 := by
  induction L with
  | nil => rfl
  | cons x L ih => rw [flatN_cons, List.length_append, ih, NL.l_len, List.length_cons]; omega
theorem flatN_app (L M : List NL) : flatN (L ++ M) = flatN L ++ flatN M := by simp [flatN]
theorem flatN_one (L : List NL) : ∀ u ∈ flatN L, u.oneCell' = true := by
  intro u hu
  obtain ⟨x, _, hx⟩ := List.mem_flatMap.1 hu
  exact x.l_one u hx
theorem flatN_at (L : List NL) (i : Nat) (hi : i < L.length) (j : Nat) (hj : j < 21) : (flatN L)[i * 21 + j]? = L[i].l[j]? := by
  induction L generalizing i with
  | nil => simp at hi
  | cons x L ih =>
    rw [flatN_cons]
    cases i with
    | zero => rw [List.getElem?_append_left (by rw [NL.l_len]; omega)]; simp
    | succ i =>
      rw [List.getElem?_append_right (by rw [NL.l_len]; omega), NL.l_len]
      have := ih i (by simpa using hi)
      rw [show (i + 1) * 21 + j - 21 = i * 21 + j by omega, this]
      simp

/-- A slice of routes. -/
def Nls (w : World) (v : Value) (L : List NL) : Prop := (v = .slice none 0 0 ∧ L = []) ∨ ∃ b o c, v = .slice (some ⟨b, o, none⟩) L.length c ∧ w.rangeAt b o (flatN L)

theorem range_below {w w' : World} {b o : Nat} {cs : List Value} (h : w.rangeAt b o cs) (hb : Below w.heap.size w w') : w'.rangeAt b o cs := fun j v hv =>
  (hb.cell (p := ⟨b, o + j, none⟩) (cell_block (h j v hv))).trans (h j v hv)
theorem Nls.below {w w' : World} {v : Value} {L : List NL} (h : Nls w v L) (hb : Below w.heap.size w w') : Nls w' v L := by
  rcases h with h | ⟨b, o, c, h1, h2⟩
  · exact .inl h
  · exact .inr ⟨b, o, c, h1, range_below h2 hb⟩
theorem Nls.form {w : World} {v : Value} {L : List NL} (h : Nls w v L) : ∃ A c, v = .slice A L.length c := by
  rcases h with ⟨rfl, rfl⟩ | ⟨b, o, c, h, _⟩
  · exact ⟨none, 0, rfl⟩
  · exact ⟨_, c, h⟩
theorem range_at {w : World} {b o : Nat} {L : List NL} (h : w.rangeAt b o (flatN L)) (i : Nat) (hi : i < L.length) : w.rangeAt b (o + i * 21) L[i].l := fun j v hv => by
  have hj : j < 21 := by have := (List.getElem?_eq_some_iff.1 hv).1; rwa [NL.l_len] at this
  have := h (i * 21 + j) v (by rw [flatN_at L i hi j hj]; exact hv)
  rw [show o + i * 21 + j = o + (i * 21 + j) by omega]
  exact this

theorem info_nl : (Try.prog.info? 31).map (fun i => (i.zero, i.size)) = some (some nl0.v, 21) := by kernel_rfl
theorem nl_fit_l (x : NL) : (Try.prog.info? 31).map (·.size) = some x.l.length := nl_fit

/-- What the call owns reads as these routes. -/
theorem own_nls {w : World} {base : Nat} {v : Value} {L : List NL} (h : w.ownsRow base 31 21 v L.length (flatN L)) : Nls w v L := by
  rcases h.2 with ⟨h1, h0⟩ | ⟨g, cap, cur, h1, h2, h3, h4, h5, h6, h7⟩
  · exact .inl ⟨h1, List.length_eq_zero_iff.1 h0⟩
  · subst h1
    refine .inr ⟨g, 0, cap, rfl, fun j u hu => ?_⟩
    have hh : Has w g 31 cur := h3
    rw [Nat.zero_add, hh.cell j, ← Array.getElem?_toList]
    have hj : j < L.length * 21 := by
      have := (List.getElem?_eq_some_iff.1 hu).1
      rw [flatN_len] at this
      exact this
    rw [← h7, List.getElem?_take_of_lt hj] at hu
    exact hu

theorem own_keep {w w' : World} {base size n : Nat} {e : TypeId} {v : Value} {xs : List Value} (h : w.ownsRow base e size v n xs) (hb : Below w.heap.size w w') : w'.ownsRow base e size v n xs := by
  refine ⟨h.1, ?_⟩
  rcases h.2 with h0 | ⟨g, cap, cur, hv, hb', hg, r⟩
  · exact .inl h0
  · subst hv
    have hh : Has w g e cur := hg
    exact .inr ⟨g, cap, cur, rfl, hb', hh.below hb, r⟩

end Go.Proofs.Ythhajknmokomjaa

namespace Go.Proofs.Ythhajknmokomjaa
open Go.RowKit Go.Maps
set_option linter.unusedVariables false
set_option linter.unusedSimpArgs false
set_option maxRecDepth 100000

theorem Only.sets {B : Nat} {a : World} : ∀ (vs : List Value) (o : Nat) (w : World), Only a B w → Only a B (w.setCells B o vs)
  | [], _, _, h => h
  | v :: vs, o, w, h => Only.sets vs (o + 1) _ (only_set h (p := ⟨B, o, none⟩) (.inl rfl) v)
theorem Only.setsNew {g B : Nat} {a : World} (hB : a.heap.size ≤ B) : ∀ (vs : List Value) (o : Nat) (w : World), Only a g w → Only a g (w.setCells B o vs)
  | [], _, _, h => h
  | v :: vs, o, w, h => Only.setsNew hB vs (o + 1) _ (only_set h (p := ⟨B, o, none⟩) (.inr hB) v)

/-- A reader at work, a route in a block of the call's own, and a block of zeros for the result. -/
structure RB (w0 : World) (g h cap : Nat) (s : RS) (B R : Nat) (x : NL) (W : World) : Prop where
  rd : RdS W g h cap s
  box : Has W B 31 x.cs
  zer : Has W R 31 zcs
  gB : g ≠ B
  hB : h ≠ B
  gR : g ≠ R
  hR : h ≠ R
  BR : B ≠ R
  on : Only w0 g W
  nw : w0.heap.size ≤ B
  nr : w0.heap.size ≤ R
section
variable {w0 W W' : World} {g h cap B R : Nat} {s s' : RS} {x : NL}
theorem RB.call (H : RB w0 g h cap s B R x W) (r : RdS W' g h cap s') (o : Only W g W') : RB w0 g h cap s' B R x W' :=
  ⟨r, H.box.grown o (by rintro ⟨⟩; exact H.gB rfl), H.zer.grown o (by rintro ⟨⟩; exact H.gR rfl), H.gB, H.hB, H.gR, H.hR, H.BR, only_trans H.on o, H.nw, H.nr⟩
theorem RB.below (H : RB w0 g h cap s B R x W) (hb : Below W.heap.size W W') : RB w0 g h cap s B R x W' :=
  ⟨Rd.below H.rd hb, H.box.below hb, H.zer.below hb, H.gB, H.hB, H.gR, H.hR, H.BR, only_trans H.on (only_below hb g), H.nw, H.nr⟩
theorem RB.set (H : RB w0 g h cap s B R x W) (i : Nat) (u : Value) (x' : NL) (he : x.cs.setIfInBounds i u = x'.cs) : RB w0 g h cap s B R x' (W.setCell ⟨B, i, none⟩ u) :=
  ⟨Rd.grown H.rd (only_set (only_refl W B) (p := ⟨B, i, none⟩) (.inl rfl) u) (by rintro ⟨⟩; exact H.gB rfl) (by rintro ⟨⟩; exact H.hB rfl), he ▸ H.box.set_ i u, H.zer.far1 H.BR.symm, H.gB, H.hB, H.gR, H.hR, H.BR, only_set H.on (p := ⟨B, i, none⟩) (.inr H.nw) u, H.nw, H.nr⟩
theorem RB.sets (H : RB w0 g h cap s B R x W) (o : Nat) (vs : List Value) (x' : NL) (he : Go.Proofs.Ythhajknmokomjaa.sets x.cs o vs = x'.cs) : RB w0 g h cap s B R x' (W.setCells B o vs) :=
  ⟨Rd.grown H.rd (Only.sets vs o W (only_refl W B)) (by rintro ⟨⟩; exact H.gB rfl) (by rintro ⟨⟩; exact H.hB rfl), he ▸ Has.sets vs o W _ H.box, Has.far H.BR.symm vs o W H.zer, H.gB, H.hB, H.gR, H.hR, H.BR, Only.setsNew H.nw vs o W H.on, H.nw, H.nr⟩
theorem RB.start {w : World} (H : RdS w g h cap s) : RB w g h cap s (w.heap.size + 1) w.heap.size nl0 ((w.alloc (.cells zcs 31)).alloc (.cells zcs 31)) := by
  have hb : Below w.heap.size w ((w.alloc (.cells zcs 31)).alloc (.cells zcs 31)) := ((Below.refl _ w).alloc (Nat.le_refl _) _).alloc (by simp) _
  have hg : g < w.heap.size := H.blk.lt
  have hh : h < w.heap.size := by
    obtain ⟨_, hh, _⟩ := H.row
    exact hh.lt
  refine ⟨Rd.below H hb, ?_, (Has.new w _ _).below ((Below.refl _ _).alloc (Nat.le_refl _) _), by omega, by omega, by omega, by omega, by omega, only_below hb g, by omega, Nat.le_refl _⟩
  have h1 := Has.new (w.alloc (.cells zcs 31)) 31 zcs
  have h2 : Has ((w.alloc (.cells zcs 31)).alloc (.cells zcs 31)) (w.heap.size + 1) 31 zcs := by simpa using h1
  exact h2
theorem RB.row (H : RB w0 g h cap s B R x W) (x' : NL) : RB w0 g h cap s B R x' (W.setRow B x'.cs) := by
  have h1 : Only W B (W.setRow B x'.cs) := Only.row _
  have hs := H.on.size
  refine ⟨Rd.grown H.rd h1 (by rintro ⟨⟩; exact H.gB rfl) (by rintro ⟨⟩; exact H.hB rfl), setRow_heap _ _ _ _ _ _ H.box, H.zer.grown h1 (by rintro ⟨⟩; exact H.BR rfl), H.gB, H.hB, H.gR, H.hR, H.BR, ?_, H.nw, H.nr⟩
  exact ⟨h1.os.trans H.on.os, h1.tape.trans H.on.tape, h1.output.trans H.on.output, Nat.le_trans H.on.size h1.size, fun i hi hne => (h1.block i (Nat.lt_of_lt_of_le hi hs) (by rintro ⟨⟩; have := H.nw; omega)).trans (H.on.block i hi hne)⟩
/-- The result is written: the end. -/
theorem RB.end_ (H : RB w0 g h cap s B R x W) : RdS (W.setRow R x.cs) g h cap s ∧ Only w0 g (W.setRow R x.cs) := by
  have h1 : Only W R (W.setRow R x.cs) := Only.row _
  have hs := H.on.size
  exact ⟨Rd.grown H.rd h1 (by rintro ⟨⟩; exact H.gR rfl) (by rintro ⟨⟩; exact H.hR rfl), ⟨h1.os.trans H.on.os, h1.tape.trans H.on.tape, h1.output.trans H.on.output, Nat.le_trans H.on.size h1.size, fun i hi hne => (h1.block i (Nat.lt_of_lt_of_le hi hs) (by rintro ⟨⟩; have := H.nr; omega)).trans (H.on.block i hi hne)⟩⟩
end

theorem set_rd (x : NL) (v : Int) : x.cs.setIfInBounds 1 (.int .u64 v) = ({ x with rd := v } : NL).cs := by simp only [NL.cs, List.setIfInBounds_toArray, List.set_cons_zero, List.set_cons_succ]
theorem set_tag (x : NL) (v : Int) : x.cs.setIfInBounds 12 (.int .u32 v) = ({ x with tag := v } : NL).cs := by simp only [NL.cs, List.setIfInBounds_toArray, List.set_cons_zero, List.set_cons_succ]
theorem set_mac (x : NL) (v : Int) : x.cs.setIfInBounds 13 (.int .u64 v) = ({ x with mac := v } : NL).cs := by simp only [NL.cs, List.setIfInBounds_toArray, List.set_cons_zero, List.set_cons_succ]
theorem set_ip (x : NL) (v : Int) : x.cs.setIfInBounds 14 (.int .u32 v) = ({ x with ip := v } : NL).cs := by simp only [NL.cs, List.setIfInBounds_toArray, List.set_cons_zero, List.set_cons_succ]
theorem set_has (x : NL) (v : Bool) : x.cs.setIfInBounds 15 (.bool v) = ({ x with has := v } : NL).cs := by simp only [NL.cs, List.setIfInBounds_toArray, List.set_cons_zero, List.set_cons_succ]
theorem set_pip (x : NL) (v : Int) : x.cs.setIfInBounds 16 (.int .u32 v) = ({ x with pip := v } : NL).cs := by simp only [NL.cs, List.setIfInBounds_toArray, List.set_cons_zero, List.set_cons_succ]
theorem set_pl (x : NL) (v : Int) : x.cs.setIfInBounds 17 (.int .i64 v) = ({ x with pl := v } : NL).cs := by simp only [NL.cs, List.setIfInBounds_toArray, List.set_cons_zero, List.set_cons_succ]
theorem set_gw (x : NL) (v : Int) : x.cs.setIfInBounds 18 (.int .u32 v) = ({ x with gw := v } : NL).cs := by simp only [NL.cs, List.setIfInBounds_toArray, List.set_cons_zero, List.set_cons_succ]
theorem set_l1 (x : NL) (v : Int) : x.cs.setIfInBounds 19 (.int .u32 v) = ({ x with l1 := v } : NL).cs := by simp only [NL.cs, List.setIfInBounds_toArray, List.set_cons_zero, List.set_cons_succ]
theorem set_l2 (x : NL) (v : Int) : x.cs.setIfInBounds 20 (.int .u32 v) = ({ x with l2 := v } : NL).cs := by simp only [NL.cs, List.setIfInBounds_toArray, List.set_cons_zero, List.set_cons_succ]
/-- The ten bytes as cells. -/
abbrev tens (X : List Int) : List Value := [.int .u8 (ten X 0), .int .u8 (ten X 1), .int .u8 (ten X 2), .int .u8 (ten X 3), .int .u8 (ten X 4), .int .u8 (ten X 5), .int .u8 (ten X 6), .int .u8 (ten X 7), .int .u8 (ten X 8), .int .u8 (ten X 9)]
theorem set_esi (x : NL) (X : List Int) : sets x.cs 2 (tens X) = ({ x with e0 := ten X 0, e1 := ten X 1, e2 := ten X 2, e3 := ten X 3, e4 := ten X 4, e5 := ten X 5, e6 := ten X 6, e7 := ten X 7, e8 := ten X 8, e9 := ten X 9 } : NL).cs := by
  simp only [Go.Proofs.Ythhajknmokomjaa.sets, NL.cs, List.setIfInBounds_toArray, List.set_cons_zero, List.set_cons_succ]

/-- What is read is a number of so many bytes. -/
theorem got_bd {w : World} {g h cap : Nat} {s : RS} (H : RdS w g h cap s) (m : Nat) : 0 ≤ s.got m ∧ s.got m < 256 ^ m := by
  have hp : (0 : Int) < 256 ^ m := Int.pow_pos (by omega)
  rcases three s m with h0 | ⟨h0, h1⟩ | ⟨h0, k, hk, h1⟩
  · unfold RS.got; rw [take_a m h0]; simpa using hp
  · unfold RS.got; rw [take_b m h0 h1]; simpa using hp
  · obtain rfl : m = k := by omega
    unfold RS.got
    rw [take_c m h0 h1]
    have := num_bound _ (part_byte H (s.p - s.st) m)
    rw [part_len H h1] at this
    exact this
theorem x_bd {w : World} {g h cap : Nat} {s : RS} (H : RdS w g h cap s) (m : Nat) : ∀ v ∈ s.x m, 0 ≤ v ∧ v ≤ 255 := by
  unfold RS.x
  rcases three s m with h0 | ⟨h0, h1⟩ | ⟨h0, k, hk, h1⟩
  · rw [take_a m h0]; simp
  · rw [take_b m h0 h1]; simp
  · obtain rfl : m = k := by omega
    rw [take_c m h0 h1]
    exact part_byte H _ _
theorem x_len {w : World} {g h cap : Nat} {s : RS} (H : RdS w g h cap s) (m : Nat) : s.x m = [] ∨ (s.x m).length = m := by
  unfold RS.x
  rcases three s m with h0 | ⟨h0, h1⟩ | ⟨h0, k, hk, h1⟩
  · rw [take_a m h0]; exact .inl rfl
  · rw [take_b m h0 h1]; exact .inl rfl
  · obtain rfl : m = k := by omega
    rw [take_c m h0 h1]
    exact .inr (part_len H h1)
theorem ten_bd {xs : List Int} (h : ∀ v ∈ xs, 0 ≤ v ∧ v ≤ 255) (i : Nat) : 0 ≤ ten xs i ∧ ten xs i ≤ 255 := by
  unfold ten
  by_cases hi : i < xs.length
  · have e : xs.getD i 0 = xs[i] := by simp [hi]
    rw [e]; exact h _ (List.getElem_mem _)
  · have e : xs.getD i 0 = 0 := by simp [hi]
    rw [e]; omega

end Go.Proofs.Ythhajknmokomjaa

namespace Go.Proofs.Ythhajknmokomjaa
open Go.RowKit Go.Maps Go.Shelf
set_option linter.unusedVariables false
set_option linter.unusedSimpArgs false
set_option maxRecDepth 100000

theorem list10 {α : Type} (l : List α) (h : l.length = 10) : ∃ a b c d e f g h i j, l = [a, b, c, d, e, f, g, h, i, j] := by
  match l, h with
  | [a, b, c, d, e, f, g, h, i, j], _ => exact ⟨a, b, c, d, e, f, g, h, i, j, rfl⟩

abbrev z10a : Array Value := #[.int .u8 0, .int .u8 0, .int .u8 0, .int .u8 0, .int .u8 0, .int .u8 0, .int .u8 0, .int .u8 0, .int .u8 0, .int .u8 0]
theorem splice_ten (X : List Int) (h : X = [] ∨ X.length = 10) : splice (tens []) 0 (u8s X) = tens X := by
  rcases h with rfl | h
  · simp [splice]
  · obtain ⟨a, b, c, d, e, f, g, h, i, j, rfl⟩ := list10 X h
    simp [splice, tens, ten, u8s]
theorem esi_fit : (Try.prog.info? 24).map (·.size) = some 10 := by kernel_rfl

theorem Rd.low {w w' : World} {g h cap B : Nat} {bs : List Int} {st p : Nat} {ef ea : Int} (H : Rd w g h cap bs st p ef ea) (hb : Below B w w') (hg : g < B) (hh : h < B) : Rd w' g h cap bs st p ef ea :=
  ⟨(hb.block g hg).trans H.blk, by
    obtain ⟨cur, h1, r⟩ := H.row
    exact ⟨cur, (hb.block h hh).trans h1, r⟩, H.lo, H.hi, H.small, H.byte⟩
theorem only_low {a w w' : World} {g B : Nat} (h : Only a g w) (k : Below B w w') (hB : a.heap.size ≤ B) : Only a g w' :=
  ⟨k.os.trans h.os, k.tape.trans h.tape, k.output.trans h.output, Nat.le_trans h.size k.size, fun i hi hne => (k.block i (by omega)).trans (h.block i hi hne)⟩

set_option maxHeartbeats 1000000 in
theorem esi_read (g h cap : Nat) (s : RS) (w : World) (H : RdS w g h cap s) :
    Calls Try.prog 101 #[.pointer (some ⟨g, 0, none⟩)] w fun e w' => e = .returned (.agg (tens (s.x 10)).toArray) ∧ RdS w' g h cap (s.t 10) ∧ Only w g w' := by
  have hb : Below w.heap.size w ((w.alloc (.cells z10a 24)).alloc (.cells z10a 24)) := ((Below.refl _ w).alloc (Nat.le_refl _) _).alloc (by simp) _
  have HX : Hid (s.x 10 = [] ∨ (s.x 10).length = 10) := Lib.hid (x_len H 10)
  have HR : Hid (RdS ((w.alloc (.cells z10a 24)).alloc (.cells z10a 24)) g h cap s) := Lib.hid (Rd.below H hb)
  have HB := Lib.hid hb
  have HZ : Hid (Has ((w.alloc (.cells z10a 24)).alloc (.cells z10a 24)) w.heap.size 24 z10a) := Lib.hid ((Has.new w _ _).below ((Below.refl _ _).alloc (Nat.le_refl _) _))
  have HE : Hid (Has ((w.alloc (.cells z10a 24)).alloc (.cells z10a 24)) (w.heap.size + 1) 24 z10a) := Lib.hid (by
    have h1 := Has.new (w.alloc (.cells z10a 24)) 24 z10a
    simpa using h1)
  have hg : g < w.heap.size := H.blk.lt
  have hh : h < w.heap.size := by
    obtain ⟨_, hh, _⟩ := H.row
    exact hh.lt
  clear hb H
  go_enter Try.func101, Try.ntmps101
  go_upto_region 2 with fail
  generalize ((w.alloc (.cells z10a 24)).alloc (.cells z10a 24)) = W2 at *
  have hpos : ∀ (A : Option Addr) (c : Nat) (W : World), Arr W (.slice A (s.x 10).length c) (s.x 10) → 0 < (u8s (s.x 10)).length → ∃ ad, A = some ad ∧ ∀ j v, (u8s (s.x 10))[j]? = some v → W.cell? (ad.add j) = some v := by
    rintro A c W (⟨_, h1⟩ | ⟨ad, c', h1, h2⟩) h0
    · rw [h1] at h0; simp at h0
    · injection h1 with h1
      exact ⟨ad, h1, h2⟩
  have HPos := Lib.hid hpos
  have hn10 : (u8s (s.x 10)).length = Nat.min (s.x 10).length 10 := by
    rcases HX.out with h | h <;> rw [List.length_map, h] <;> rfl
  have hfit10 : 0 + (u8s (s.x 10)).length ≤ (tens []).length := by
    rcases HX.out with h | h <;> rw [List.length_map, h] <;> simp
  have HN := Lib.hid hn10
  have HFit := Lib.hid hfit10
  clear hpos hn10 hfit10
  go_region_held3 (fun w' => True)
    (first | trivial)
    (first
      | (go_at_call 107; refine (rbytes g h cap s _ (Rd.below HR.out (Below.refl _ W2).drew) 10).mono ?_; rintro e w3 ⟨⟨v, rfl, hv⟩, hr3, ho3⟩; change Got w3 _ v (s.x 10) at hv; have HA := Lib.hid hv.arr; clear hv; obtain ⟨A, c, rfl⟩ := HA.out.form; have HR3 := Lib.hid hr3; have HO3 := Lib.hid ho3; have HE3 : Hid (Has w3 (w.heap.size + 1) 24 z10a) := Lib.hid (Has.grown (w := W2.drew) HE.out ho3 (by rintro ⟨⟩; omega)); have HZ3 : Hid (Has w3 w.heap.size 24 z10a) := Lib.hid (Has.grown (w := W2.drew) HZ.out ho3 (by rintro ⟨⟩; omega)); clear hr3 ho3)
      | (refine step_copy_splice rfl (.tmp 4) (.tmp 6) 34 34 rfl 5 Try.underlying34 u8_size (some ⟨w.heap.size + 1, 0, none⟩) A 10 10 (s.x 10).length c rfl rfl (w.heap.size + 1) 0 (tens []) 24 HE3.out (u8s (s.x 10)) HN.out (fun h0 => ⟨rfl, HPos.out A c w3 HA.out h0⟩) HFit.out (u8s_one _) (w.heap.size + 1) w3 (Below.refl _ _) (Nat.le_refl _) ?_; intro w4 hg4 hb4))
  have hE4 : Has w4 (w.heap.size + 1) 24 (tens (s.x 10)).toArray := by
    have := hg4.out
    rw [splice_ten _ HX.out] at this
    exact this
  have HE4 := Lib.hid hE4
  have HZ4 : Hid (Has w4 w.heap.size 24 z10a) := Lib.hid ((hb4.block w.heap.size (by omega)).trans HZ3.out)
  have HR4 : Hid (RdS w4 g h cap (s.t 10)) := Lib.hid (Rd.low HR3.out hb4 (by omega) (by omega))
  have HO4 : Hid (Only w g w4) := Lib.hid (only_low (only_trans (only_drew (only_below HB.out g)) HO3.out) hb4 (by omega))
  have hO : Only w4 w.heap.size (w4.setRow w.heap.size (tens (s.x 10)).toArray) := Only.row _
  have HOF : Hid (Only w g (w4.setRow w.heap.size (tens (s.x 10)).toArray)) := Lib.hid ⟨hO.os.trans HO4.out.os, hO.tape.trans HO4.out.tape, hO.output.trans HO4.out.output, Nat.le_trans HO4.out.size hO.size, fun i hi hne => (hO.block i (Nat.lt_of_lt_of_le hi HO4.out.size) (by rintro ⟨⟩; omega)).trans (HO4.out.block i hi hne)⟩
  have HRF : Hid (RdS (w4.setRow w.heap.size (tens (s.x 10)).toArray) g h cap (s.t 10)) := Lib.hid (Rd.grown HR4.out hO (by rintro ⟨⟩; omega) (by rintro ⟨⟩; omega))
  clear hg4 hb4 hE4 HE3 HZ3 HR3 HO3 hO HE HZ HR HB
  have HT : Hid ((Try.prog.info? 24).map (·.size) = some (tens (s.x 10)).toArray.size ∧ z10a.size = (tens (s.x 10)).toArray.size ∧ (tens (s.x 10)).toArray.all (·.oneCell') = true) := Lib.hid ⟨esi_fit, rfl, by simp [Value.oneCell']⟩
  obtain ⟨T, hT⟩ : ∃ T, (tens (s.x 10)).toArray = T := ⟨_, rfl⟩
  rw [hT] at HT HE4 HOF HRF
  have HTE := Lib.hid hT
  clear hT
  go_wp2_with (first
    | (refine wpList_load_row rfl 24 (.tmp 3) rfl (w.heap.size + 1) rfl 24 T (0, 0) _ HE4.out Try.underlying24 rfl HT.out.1 ?_)
    | (refine wpList_store_row rfl 24 (.tmp 2) (.tmp 8) rfl w.heap.size T rfl rfl 24 z10a HZ4.out HT.out.1 HT.out.2.1 HT.out.2.2 ?_))
  exact bodyPost_ret (v := .agg T) (results_cell_row rfl _ _ w.heap.size 24 T (0, 0) _ rfl (setRow_heap _ _ _ _ _ _ HZ4.out) Try.underlying24 rfl HT.out.1) rfl ⟨by rw [HTE.out], HRF.out, HOF.out⟩

end Go.Proofs.Ythhajknmokomjaa
