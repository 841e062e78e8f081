/- Routes: Compare is an order of the keys. No program. -/
import Derived.Test.YthhajknmokomjaaZNoB
import Derived.Test.YthhajknmokomjaaZNoD
import Derived.Test.YthhajknmokomjaaZNoF
import Derived.Test.YthhajknmokomjaaZNlF
namespace Go.Proofs.Ythhajknmokomjaa
open Go.RowKit
set_option linter.unusedVariables false
set_option linter.unusedSimpArgs false

/-- Field by field. -/
def cml (x y : NL) : List Int := [cm x.k y.k, cm x.rd y.rd, ce x.esi y.esi, cm x.tag y.tag, cm x.mac y.mac, cm (rk x.has) (rk y.has), cm x.ip y.ip, cpx x.pip x.pl y.pip y.pl, cm x.gw y.gw]
/-- What Compare answers. -/
def cmpk (x y : NL) : Int := orl (cml x.key y.key)

structure Ord {α : Type} (f : α → α → Int) : Prop where
  anti : ∀ a b, f a b = -f b a
  rng : ∀ a b, f a b = -1 ∨ f a b = 0 ∨ f a b = 1
  tr : ∀ a b c, f a b ≤ 0 → f b c ≤ 0 → f a c ≤ 0 ∧ (f a c = 0 → f a b = 0 ∧ f b c = 0)

theorem Ord.or {α : Type} {f g : α → α → Int} (hf : Ord f) (hg : Ord g) : Ord (fun a b => if f a b = 0 then g a b else f a b) := by
  refine ⟨fun a b => ?_, fun a b => ?_, fun a b c => ?_⟩
  · have h1 := hf.anti a b
    have h2 := hg.anti a b
    by_cases h : f a b = 0
    · have h' : f b a = 0 := by omega
      simp only [if_pos h, if_pos h']; exact h2
    · have h' : ¬ f b a = 0 := by omega
      simp only [if_neg h, if_neg h']; exact h1
  · have h1 := hf.rng a b
    have h2 := hg.rng a b
    by_cases h : f a b = 0
    · simp only [if_pos h]; exact h2
    · simp only [if_neg h]; exact h1
  · have h1 := hf.tr a b c
    have h2 := hg.tr a b c
    have h3 := hf.tr c b a
    have a1 := hf.anti a b
    have a2 := hf.anti b c
    have a3 := hf.anti a c
    by_cases hz : f a b = 0 ∧ f b c = 0
    · have k1 := (h1 (by omega) (by omega)).1
      have k3 := (h3 (by omega) (by omega)).1
      have hac : f a c = 0 := by omega
      simp only [if_pos hz.1, if_pos hz.2, if_pos hac]
      exact h2
    · intro p q
      have p' : f a b ≤ 0 := by
        by_cases h : f a b = 0
        · omega
        · simp only [if_neg h] at p; exact p
      have q' : f b c ≤ 0 := by
        by_cases h : f b c = 0
        · omega
        · simp only [if_neg h] at q; exact q
      have k1 := h1 p' q'
      have hac : ¬ f a c = 0 := fun e => hz (k1.2 e)
      simp only [if_neg hac]
      exact ⟨k1.1, fun e => absurd e hac⟩

theorem Ord.zero {α : Type} : Ord (fun (_ _ : α) => (0 : Int)) := ⟨fun _ _ => rfl, fun _ _ => .inr (.inl rfl), fun _ _ _ _ _ => ⟨Int.le_refl _, fun _ => ⟨rfl, rfl⟩⟩⟩
theorem Ord.cm {α : Type} (p : α → Int) : Ord (fun a b => cm (p a) (p b)) := by
  refine ⟨fun a b => ?_, fun a b => ?_, fun a b c => ?_⟩
  · unfold Go.Proofs.Ythhajknmokomjaa.cm; split <;> split <;> omega
  · unfold Go.Proofs.Ythhajknmokomjaa.cm; split <;> (try split) <;> omega
  · unfold Go.Proofs.Ythhajknmokomjaa.cm; split <;> (try split) <;> (try split) <;> (try split) <;> (try split) <;> (try split) <;> omega

theorem ord_px : Ord (fun a b : NL => cpx a.pip a.pl b.pip b.pl) := Ord.or (Ord.cm NL.pip) (Ord.or (Ord.cm NL.pl) Ord.zero)
theorem ord_esi : Ord (fun a b : NL => ce a.esi b.esi) :=
  Ord.or (Ord.cm NL.e0) (Ord.or (Ord.cm NL.e1) (Ord.or (Ord.cm NL.e2) (Ord.or (Ord.cm NL.e3) (Ord.or (Ord.cm NL.e4) (Ord.or (Ord.cm NL.e5) (Ord.or (Ord.cm NL.e6) (Ord.or (Ord.cm NL.e7) (Ord.or (Ord.cm NL.e8) (Ord.or (Ord.cm NL.e9) Ord.zero)))))))))
theorem ord_cml : Ord (fun a b : NL => orl (cml a b)) :=
  Ord.or (Ord.cm NL.k) (Ord.or (Ord.cm NL.rd) (Ord.or ord_esi (Ord.or (Ord.cm NL.tag) (Ord.or (Ord.cm NL.mac) (Ord.or (Ord.cm (fun x : NL => rk x.has)) (Ord.or (Ord.cm NL.ip) (Ord.or ord_px (Ord.or (Ord.cm NL.gw) Ord.zero))))))))

theorem orl_zero : ∀ {l : List Int}, orl l = 0 ↔ ∀ v ∈ l, v = 0
  | [] => by simp [orl]
  | x :: xs => by
    rw [orl]
    by_cases h : x = 0
    · rw [if_pos h, orl_zero]; simp [h]
    · rw [if_neg h]; simp [h]
theorem rk_inj {a b : Bool} : rk a = rk b ↔ a = b := by cases a <;> cases b <;> simp [rk]
theorem ce_zero : ∀ {xs ys : List Int}, xs.length = ys.length → (ce xs ys = 0 ↔ xs = ys)
  | [], [], _ => by simp [ce]
  | [], _ :: _, h => by simp at h
  | _ :: _, [], h => by simp at h
  | x :: xs, y :: ys, h => by
    rw [ce]
    by_cases hc : cm x y = 0
    · rw [if_pos hc, ce_zero (by simpa using h)]
      have := cm_zero.1 hc
      simp [this]
    · rw [if_neg hc]
      have : x ≠ y := fun e => hc (cm_zero.2 e)
      simp [hc, this]
theorem cpx_zero {p l q m : Int} : cpx p l q m = 0 ↔ p = q ∧ l = m := by
  unfold cpx; rw [orl_zero]; simp [cm_zero]
theorem key_l (x : NL) : x.key.l1 = 0 ∧ x.key.l2 = 0 := by unfold NL.key; split <;> (try split) <;> exact ⟨rfl, rfl⟩
theorem key_k (x : NL) : x.key.k = x.k := by unfold NL.key; split <;> (try split) <;> rfl
theorem key_rd (x : NL) : x.key.rd = x.rd := by unfold NL.key; split <;> (try split) <;> rfl
theorem key_key (x : NL) : x.key.key = x.key := by
  by_cases h5 : x.k = 5
  · have e : x.key = x.key5 := by unfold NL.key; rw [if_pos h5]
    rw [e]; unfold NL.key; rw [if_pos (show x.key5.k = 5 from h5)]; rfl
  · by_cases h2 : x.k = 2
    · have e : x.key = x.key2 := by unfold NL.key; rw [if_neg h5, if_pos h2]
      rw [e]; unfold NL.key; rw [if_neg (show ¬ x.key2.k = 5 from h5), if_pos (show x.key2.k = 2 from h2)]; rfl
    · have e : x.key = x.key0 := by unfold NL.key; rw [if_neg h5, if_neg h2]
      rw [e]; unfold NL.key; rw [if_neg (show ¬ x.key0.k = 5 from h5), if_neg (show ¬ x.key0.k = 2 from h2)]; rfl

theorem cml_zero {x y : NL} (hx : x.l1 = y.l1 ∧ x.l2 = y.l2) : orl (cml x y) = 0 ↔ x = y := by
  rw [orl_zero]
  have he : ce x.esi y.esi = 0 ↔ x.esi = y.esi := ce_zero (by simp [NL.esi])
  simp only [cml, List.mem_cons, List.not_mem_nil, or_false, forall_eq_or_imp, forall_eq, cm_zero, he, cpx_zero, rk_inj]
  cases x; cases y
  simp only [NL.esi, List.cons.injEq, NL.mk.injEq] at hx ⊢
  constructor
  · rintro ⟨h1, h2, ⟨a0, a1, a2, a3, a4, a5, a6, a7, a8, a9, _⟩, h4, h5, h6, h7, ⟨h8, h9⟩, h10⟩
    exact ⟨h1, h2, a0, a1, a2, a3, a4, a5, a6, a7, a8, a9, h4, h5, h7, h6, h8, h9, h10, hx.1, hx.2⟩
  · rintro ⟨h1, h2, a0, a1, a2, a3, a4, a5, a6, a7, a8, a9, h4, h5, h7, h6, h8, h9, h10, _, _⟩
    exact ⟨h1, h2, ⟨a0, a1, a2, a3, a4, a5, a6, a7, a8, a9, trivial⟩, h4, h5, h6, h7, ⟨h8, h9⟩, h10⟩
theorem cmpk_zero {x y : NL} : cmpk x y = 0 ↔ x.key = y.key := cml_zero ⟨by rw [(key_l x).1, (key_l y).1], by rw [(key_l x).2, (key_l y).2]⟩
theorem cmpk_anti (x y : NL) : cmpk y x = -cmpk x y := ord_cml.anti _ _
theorem cmpk_rng (x y : NL) : cmpk x y = -1 ∨ cmpk x y = 0 ∨ cmpk x y = 1 := ord_cml.rng _ _
theorem cmpk_tr {x y z : NL} (h1 : cmpk x y ≤ 0) (h2 : cmpk y z ≤ 0) : cmpk x z ≤ 0 := (ord_cml.tr _ _ _ h1 h2).1

/-- A route with another label. -/
def NL.lab (x : NL) (l : Int) : NL := ⟨x.k, x.rd, x.e0, x.e1, x.e2, x.e3, x.e4, x.e5, x.e6, x.e7, x.e8, x.e9, x.tag, x.mac, x.ip, x.has, x.pip, x.pl, x.gw, l, l⟩
theorem lab_key (x : NL) (l : Int) : (x.lab l).key = x.key := by
  unfold NL.key
  have h : (x.lab l).k = x.k := rfl
  rw [h]
  split <;> (try split) <;> rfl
theorem lab_cs (x : NL) (l : Int) : (x.cs.setIfInBounds 19 (.int .u32 l)).setIfInBounds 20 (.int .u32 l) = (x.lab l).cs := by
  simp only [NL.cs, NL.lab, List.setIfInBounds_toArray, List.set_cons_zero, List.set_cons_succ]

end Go.Proofs.Ythhajknmokomjaa
