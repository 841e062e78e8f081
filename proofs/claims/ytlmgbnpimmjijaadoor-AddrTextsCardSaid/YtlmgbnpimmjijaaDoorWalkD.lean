/- What the parsers of a string come to, both ways. -/
import Derived.Test.YtlmgbnpimmjijaaDoorWalkB
namespace Go.Proofs.YtlmgbnpimmjijaaDoor
open Go.RowKit

theorem ofList (s : ByteArray) : ∃ l : List UInt8, s = ⟨l.toArray⟩ ∧ l.length = s.size :=
  ⟨s.data.toList, by apply ByteArray.ext; simp, by simp⟩

theorem parseIP_any (l : List UInt8) (hs : l.length ≤ 200) (w : World) (hg : Glb w) :
    Calls Tryd.prog 11 #[.string ⟨l.toArray⟩] w fun e w' => ((∃ n : Int, e = .returned (.tuple #[.int .u32 n, .int .i64 0]) ∧ 0 ≤ n ∧ n < 4294967296 ∧ ipT (n / 16777216) (n / 65536 % 256) (n / 256 % 256) (n % 256) = l) ∨ e = .returned (.tuple #[.int .u32 0, .int .i64 19])) ∧ Below w.heap.size w w' := by
  cases hn : nums decN [46] 4 [] l true with
  | none => exact (parseIP_no l hs w hg.ip hn).mono fun _ _ ⟨he, hb⟩ => ⟨.inr he, hb⟩
  | some xs =>
    obtain ⟨h1, h2, h3⟩ := ip_back l xs hn
    exact (parseIP_yes l hs xs w hg.ip hn).mono fun _ _ ⟨he, hb⟩ => ⟨.inl ⟨_, he, h2, h3, h1⟩, hb⟩

theorem parseMAC_any (l : List UInt8) (hs : l.length ≤ 200) (w : World) (hg : Glb w) :
    Calls Tryd.prog 14 #[.string ⟨l.toArray⟩] w fun e w' => ((∃ n : Int, e = .returned (.tuple #[.int .u64 n, .int .i64 0]) ∧ 0 ≤ n ∧ n ≤ 281474976710655 ∧ coP (macL n) (List.finRange 6) = l.map lowB) ∨ e = .returned (.tuple #[.int .u64 0, .int .i64 19])) ∧ Below w.heap.size w w' := by
  cases hn : nums hexN [58] 6 [] l true with
  | none => exact (parseMAC_no l hs w hg.mac hn).mono fun _ _ ⟨he, hb⟩ => ⟨.inr he, hb⟩
  | some xs =>
    obtain ⟨h1, h2, h3⟩ := mac_back l xs hn
    exact (parseMAC_yes l hs xs w hg.mac hn).mono fun _ _ ⟨he, hb⟩ => ⟨.inl ⟨_, he, h2, h3, h1⟩, hb⟩

theorem parseESI_any (l : List UInt8) (hs : l.length ≤ 200) (w : World) (hg : Glb w) :
    Calls Tryd.prog 19 #[.string ⟨l.toArray⟩] w fun en w' => ((∃ a b c d e f g h i j : Int, en = .returned (.tuple #[esi a b c d e f g h i j, .int .i64 0]) ∧ (∀ v ∈ [a, b, c, d, e, f, g, h, i, j], 0 ≤ v ∧ v ≤ 255) ∧ coP [a, b, c, d, e, f, g, h, i, j] (List.finRange 10) = l.map lowB) ∨ en = .returned (.tuple #[esi 0 0 0 0 0 0 0 0 0 0, .int .i64 19])) ∧ Below w.heap.size w w' := by
  cases hn : nums hexN [58] 10 [] l true with
  | none => exact (parseESI_no l hs w hg.mac hn).mono fun _ _ ⟨he, hb⟩ => ⟨.inr he, hb⟩
  | some xs =>
    obtain ⟨a, b, c, d, e, f, g, h, i, j, rfl, h1, h2⟩ := esi_back l xs hn
    exact (parseESI_yes l hs _ w hg.mac hn).mono fun _ _ ⟨he, hb⟩ => ⟨.inl ⟨a, b, c, d, e, f, g, h, i, j, he, h2, h1⟩, hb⟩

theorem parsePfx_any (l : List UInt8) (hs : l.length ≤ 200) (w : World) (hg : Glb w) :
    Calls Tryd.prog 12 #[.string ⟨l.toArray⟩] w fun e w' => ((∃ n y : Int, e = .returned (.tuple #[pfx n y, .int .i64 0]) ∧ 0 ≤ n ∧ n < 4294967296 ∧ vld y = true ∧ pfxT n y = l) ∨ (∃ r : Int, r ≠ 0 ∧ e = .returned (.tuple #[pfx 0 0, .int .i64 r]))) ∧ Below w.heap.size w w' := by
  obtain ⟨p, r, mo, hc⟩ : ∃ p r mo, Lib.cut l [47] = (p, r, mo) := ⟨_, _, _, rfl⟩
  cases hx : nums decN [46] 4 [] p true with
  | none => exact (parsePfx_nn l p r mo hs hx _ rfl w hg.ip hg.len hc).mono fun _ _ ⟨he, hb⟩ => ⟨.inr ⟨19, by decide, he⟩, hb⟩
  | some xs =>
    cases hy : nums lenN [47] 1 [] r true with
    | none => exact (parsePfx_yn l p r mo hs xs hx hy w hg.ip hg.len hc).mono fun _ _ ⟨he, hb⟩ => ⟨.inr ⟨19, by decide, he⟩, hb⟩
    | some ys =>
      have h1 := nums_ok (n := lenN) (by decide) _ _ _ _ _ _ hy (fun x hx => by cases hx)
      obtain ⟨y, rfl⟩ : ∃ y, ys = [y] := by
        match ys, h1.1 with
        | [y], _ => exact ⟨y, rfl⟩
      cases hcl : (cl (joined xs) y == joined xs) with
      | false => exact (parsePfx_form l p r mo hs xs y hx hy hcl w hg.ip hg.len hc).mono fun _ _ ⟨he, hb⟩ => ⟨.inr ⟨3, by decide, he⟩, hb⟩
      | true =>
        obtain ⟨_, h3, h4⟩ := ip_back p xs hx
        exact (parsePfx_yy l p r mo hs xs y hx hy hcl w hg.ip hg.len hc).mono fun _ _ ⟨he, hb⟩ => ⟨.inl ⟨_, _, he, h3, h4, vld_iff.2 (h1.2 y (by simp)), pfx_back l p r mo xs y hc hx hy⟩, hb⟩

theorem lowS_of (l : List UInt8) : lowS ⟨l.toArray⟩ = ⟨(l.map lowB).toArray⟩ := by simp [lowS]

theorem parseIP_s (s : ByteArray) (hs : s.size ≤ 200) (w : World) (hg : Glb w) :
    Calls Tryd.prog 11 #[.string s] w fun e w' => ((∃ n : Int, e = .returned (.tuple #[.int .u32 n, .int .i64 0]) ∧ 0 ≤ n ∧ n < 4294967296 ∧ (⟨(ipT (n / 16777216) (n / 65536 % 256) (n / 256 % 256) (n % 256)).toArray⟩ : ByteArray) = s) ∨ e = .returned (.tuple #[.int .u32 0, .int .i64 19])) ∧ Below w.heap.size w w' := by
  obtain ⟨l, rfl, hll⟩ := ofList s
  refine (parseIP_any l (by omega) w hg).mono ?_
  rintro e w' ⟨⟨n, h1, h2, h3, h4⟩ | h1, hb⟩
  · exact ⟨.inl ⟨n, h1, h2, h3, by rw [h4]⟩, hb⟩
  · exact ⟨.inr h1, hb⟩

theorem parseMAC_s (s : ByteArray) (hs : s.size ≤ 200) (w : World) (hg : Glb w) :
    Calls Tryd.prog 14 #[.string s] w fun e w' => ((∃ n : Int, e = .returned (.tuple #[.int .u64 n, .int .i64 0]) ∧ 0 ≤ n ∧ n ≤ 281474976710655 ∧ (⟨(coP (macL n) (List.finRange 6)).toArray⟩ : ByteArray) = lowS s) ∨ e = .returned (.tuple #[.int .u64 0, .int .i64 19])) ∧ Below w.heap.size w w' := by
  obtain ⟨l, rfl, hll⟩ := ofList s
  refine (parseMAC_any l (by omega) w hg).mono ?_
  rintro e w' ⟨⟨n, h1, h2, h3, h4⟩ | h1, hb⟩
  · exact ⟨.inl ⟨n, h1, h2, h3, by rw [h4, lowS_of]⟩, hb⟩
  · exact ⟨.inr h1, hb⟩

theorem parseESI_s (s : ByteArray) (hs : s.size ≤ 200) (w : World) (hg : Glb w) :
    Calls Tryd.prog 19 #[.string s] w fun en w' => ((∃ a b c d e f g h i j : Int, en = .returned (.tuple #[esi a b c d e f g h i j, .int .i64 0]) ∧ (∀ v ∈ [a, b, c, d, e, f, g, h, i, j], 0 ≤ v ∧ v ≤ 255) ∧ (⟨(coP [a, b, c, d, e, f, g, h, i, j] (List.finRange 10)).toArray⟩ : ByteArray) = lowS s) ∨ en = .returned (.tuple #[esi 0 0 0 0 0 0 0 0 0 0, .int .i64 19])) ∧ Below w.heap.size w w' := by
  obtain ⟨l, rfl, hll⟩ := ofList s
  refine (parseESI_any l (by omega) w hg).mono ?_
  rintro en w' ⟨⟨a, b, c, d, e, f, g, h, i, j, h1, h2, h4⟩ | h1, hb⟩
  · exact ⟨.inl ⟨a, b, c, d, e, f, g, h, i, j, h1, h2, by rw [h4, lowS_of]⟩, hb⟩
  · exact ⟨.inr h1, hb⟩

theorem parsePfx_s (s : ByteArray) (hs : s.size ≤ 200) (w : World) (hg : Glb w) :
    Calls Tryd.prog 12 #[.string s] w fun e w' => ((∃ n y : Int, e = .returned (.tuple #[pfx n y, .int .i64 0]) ∧ 0 ≤ n ∧ n < 4294967296 ∧ vld y = true ∧ (⟨(pfxT n y).toArray⟩ : ByteArray) = s) ∨ (∃ r : Int, r ≠ 0 ∧ e = .returned (.tuple #[pfx 0 0, .int .i64 r]))) ∧ Below w.heap.size w w' := by
  obtain ⟨l, rfl, hll⟩ := ofList s
  refine (parsePfx_any l (by omega) w hg).mono ?_
  rintro e w' ⟨⟨n, y, h1, h2, h3, h5, h4⟩ | h1, hb⟩
  · exact ⟨.inl ⟨n, y, h1, h2, h3, h5, by rw [h4]⟩, hb⟩
  · exact ⟨.inr h1, hb⟩

end Go.Proofs.YtlmgbnpimmjijaaDoor
