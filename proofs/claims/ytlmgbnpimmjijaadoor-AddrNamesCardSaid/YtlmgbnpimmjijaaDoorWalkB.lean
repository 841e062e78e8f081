/- AddrTexts: stage 1. -/
import Derived.Test.YtlmgbnpimmjijaaDoorWalkA
import Derived.Test.YtlmgbnpimmjijaaDoorParseESI
import Derived.Test.YtlmgbnpimmjijaaDoorParseMAC
namespace Go.Proofs.YtlmgbnpimmjijaaDoor
open Go.RowKit

theorem cell_keep {w w' : World} {p : Addr} {v : Value} (h : w.cell? p = some v) (hb : Below w.heap.size w w') : w'.cell? p = some v := by
  have hlt : p.block < w.heap.size := by
    rcases Nat.lt_or_ge p.block w.heap.size with h' | h'
    · exact h'
    · simp [World.cell?, Array.getElem?_eq_none h'] at h
  exact (hb.cell hlt).trans h

/-- The package variables that the functions read. -/
structure Glb (w : World) : Prop where
  pow : GlobPow w
  ip : GlobIP w
  mac : GlobMAC w
  len : GlobLen w

theorem Glb.keep {w w' : World} (h : Glb w) (hb : Below w.heap.size w w') : Glb w' where
  pow := pow_keep h.pow hb
  ip := by
    obtain ⟨g0, g1, g2, g3, g4, m, hm⟩ := h.ip
    exact ⟨cell_keep g0 hb, cell_keep g1 hb, cell_keep g2 hb, cell_keep g3 hb, cell_keep g4 hb, m, cell_keep hm hb⟩
  mac := by
    obtain ⟨g0, g1, g2, g3, g4, m, hm⟩ := h.mac
    exact ⟨cell_keep g0 hb, cell_keep g1 hb, cell_keep g2 hb, cell_keep g3 hb, cell_keep g4 hb, m, cell_keep hm hb⟩
  len := by
    obtain ⟨g0, g1, g2, g3, g4⟩ := h.len
    exact ⟨cell_keep g0 hb, cell_keep g1 hb, cell_keep g2 hb, cell_keep g3 hb, cell_keep g4 hb⟩

/-- The texts that the program makes, parsed again. -/
theorem ip_pair (ip : Int) (h0 : 0 ≤ ip) (h1 : ip < 4294967296) (w : World) (hg : Glb w) :
    Calls Tryd.prog 11 #[.string ⟨(ipT (ip / 16777216) (ip / 65536 % 256) (ip / 256 % 256) (ip % 256)).toArray⟩] w fun e w' => e = .returned (.tuple #[.int .u32 ip, .int .i64 0]) ∧ Below w.heap.size w w' := by
  obtain ⟨h2, h3⟩ := ip_there ip h0 h1
  have h := parseIP_yes _ (Nat.le_trans (ipT_length ip h0 h1) (by omega)) _ w hg.ip h2
  rw [h3] at h
  exact h

theorem esi_pair (a b c d e f g h i j : Int) (hr : ∀ v ∈ [a, b, c, d, e, f, g, h, i, j], 0 ≤ v ∧ v ≤ 255) (w : World) (hg : Glb w) :
    Calls Tryd.prog 19 #[.string ⟨(coP [a, b, c, d, e, f, g, h, i, j] (List.finRange 10)).toArray⟩] w fun en w' => en = .returned (.tuple #[esi a b c d e f g h i j, .int .i64 0]) ∧ Below w.heap.size w w' :=
  parseESI_yes _ (Nat.le_trans (coP_length _ _) (by simp)) _ w hg.mac (esi_there a b c d e f g h i j hr)

theorem mac_pair (m : Int) (h0 : 0 ≤ m) (h1 : m ≤ 281474976710655) (w : World) (hg : Glb w) :
    Calls Tryd.prog 14 #[.string ⟨(coP (macL m) (List.finRange 6)).toArray⟩] w fun e w' => e = .returned (.tuple #[.int .u64 m, .int .i64 0]) ∧ Below w.heap.size w w' := by
  obtain ⟨h2, h3⟩ := mac_there m h0 h1
  have h := parseMAC_yes _ (Nat.le_trans (coP_length _ _) (by simp)) _ w hg.mac h2
  rw [h3] at h
  exact h

theorem pfx_pair (ip l : Int) (h0 : 0 ≤ ip) (h1 : ip < 4294967296) (hl0 : 0 ≤ l) (hl1 : l ≤ 32) (hcl : (cl ip l == ip) = true) (w : World) (hg : Glb w) :
    Calls Tryd.prog 12 #[.string ⟨(pfxT ip l).toArray⟩] w fun e w' => e = .returned (.tuple #[pfx ip l, .int .i64 0]) ∧ Below w.heap.size w w' := by
  obtain ⟨h2, h3⟩ := ip_there ip h0 h1
  have hlen : (pfxT ip l).length ≤ 200 := by
    have ha := ipT_length ip h0 h1
    have hb := Lib.itoa_length_le l (by omega) (by omega)
    simp [pfxT]
    omega
  have h := parsePfx_yy (pfxT ip l) _ _ true hlen _ l h2 (len_there l hl0 hl1) (by rw [h3]; exact hcl) w hg.ip hg.len (pfx_cut ip l h0 h1)
  rw [h3] at h
  exact h

end Go.Proofs.YtlmgbnpimmjijaaDoor
