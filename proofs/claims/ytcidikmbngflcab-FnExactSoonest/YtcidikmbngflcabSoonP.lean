/-
  A gate that is always asked for, as plain functions: when trains may come, and that it comes to an end.
-/
import Derived.Test.YtcidikmbngflcabSpecSoon
import Derived.Test.YtcidikmbngflcabGood
namespace Go.Proofs.Ytcidikmbngflcab
open Go.RowKit
set_option maxRecDepth 100000

theorem barsOf_in (bar steps : Int) : inB (barsOf bar steps) 0 2 = true := by
  refine inB_mk ?_
  unfold barsOf
  repeat' split
  all_goals omega

theorem dAt_gate (t : TD) (steps : Int) (A : Nat → AD) (k : Nat) : gateAt t (fun i => feltOf (A i) (dAt t steps A i).2 steps) k = (dAt t steps A k).1 := by
  induction k with
  | zero => rfl
  | succ k ih => rw [gateAt_succ]; unfold saidAt; rw [ih]; rfl
theorem dAt_ok {t : TD} {steps : Int} {A : Nat → AD} (ht : t.ok = true) (k : Nat) : tickOk t.a t.b t.c t.d (dAt t steps A k).1.s (dAt t steps A k).1.i (dAt t steps A k).1.u (feltOf (A k) (dAt t steps A k).2 steps).b = true := by
  have h := gate_good (t := t) (F := fun i => feltOf (A i) (dAt t steps A i).2 steps) ht k (fun j _ => barsOf_in _ _)
  rw [dAt_gate] at h
  unfold tickOk
  rw [h]
  exact barsOf_in _ _

/-- A tick of a gate that is asked for. -/
def askS (t : TD) (g : GD) (bar steps : Int) : SD :=
  let k := nextS g.s t.a t.c (more g.i) true (barsOf bar steps)
  let fl := g.f || nextF g.s t.b (more g.i) (barsOf bar steps)
  let u := shutOf k (if g.s = 0 then g.u else more g.u)
  ⟨true, ⟨k, sinceOf g.s k (more g.i), u, fl⟩, mayB k (barsOf bar steps) fl, redB k, downB k, longB u t.d false⟩
theorem dSaid_ask {t : TD} (steps : Int) (ht : t.ok = true) (k : Nat) : dSaid t steps askedA k = askS t (dAt t steps askedA k).1 (dAt t steps askedA k).2 steps := by
  unfold dSaid tickS
  rw [if_pos (dAt_ok ht k)]
  simp [askS, askedA, feltOf]

/-- Where such a gate stands ahead of tick k, if nothing is wrong and no train may have come yet. -/
def AskInv (t : TD) (steps : Int) (k : Nat) (g : GD) (bar : Int) : Prop :=
  (k = 0 ∧ g = gate0 ∧ bar = 0) ∨ (1 ≤ k ∧ g = ⟨1, (k : Int) - 1, (k : Int) - 1, false⟩ ∧ bar = 0 ∧ (k : Int) - 1 ≤ t.a) ∨
  ∃ j : Int, 0 ≤ j ∧ g = ⟨2, j, (k : Int) - 1, false⟩ ∧ bar = j + 1 ∧ j + 1 ≤ steps ∧ j ≤ t.b ∧ (k : Int) - 1 ≤ t.a + 1 + j ∧ 1 ≤ k

theorem tok_facts {t : TD} (h : t.ok = true) : (0 ≤ t.a ∧ t.a ≤ 100) ∧ (1 ≤ t.b ∧ t.b ≤ 100) ∧ (0 ≤ t.c ∧ t.c ≤ 1000) ∧ (1 ≤ t.d ∧ t.d ≤ 100000) := by
  unfold TD.ok tOk at h
  simp only [Bool.and_eq_true] at h
  obtain ⟨⟨⟨h1, h2⟩, h3⟩, h4⟩ := h
  exact ⟨inB_true h1, inB_true h2, inB_true h3, inB_true h4⟩

theorem ask_bound {t : TD} {steps : Int} {k : Nat} {g : GD} {bar : Int} (ht : t.ok = true) (h : AskInv t steps k g bar) : k ≤ 300 ∧ g.f = false := by
  obtain ⟨h1, h2, _, _⟩ := tok_facts ht
  rcases h with ⟨e, rfl, _⟩ | ⟨_, rfl, _, h3⟩ | ⟨j, _, rfl, _, _, h4, h5, _⟩
  · exact ⟨by omega, rfl⟩
  · exact ⟨by omega, rfl⟩
  · exact ⟨by omega, rfl⟩

/-- One tick: trains may come, and the gate was shut for k ticks; or something is wrong; or it goes on. -/
theorem ask_step {t : TD} {steps : Int} {k : Nat} {g : GD} {bar : Int} (ht : t.ok = true) (hs : 1 ≤ steps ∧ steps ≤ 1000) (h : AskInv t steps k g bar) :
    ((askS t g bar steps).may = true ∧ (askS t g bar steps).g.u = (k : Int)) ∨ ((askS t g bar steps).may = false ∧ (askS t g bar steps).g.f = true) ∨
      ((askS t g bar steps).may = false ∧ AskInv t steps (k + 1) (askS t g bar steps).g (nextBar false (askS t g bar steps).down bar steps)) := by
  obtain ⟨h1, h2, _, _⟩ := tok_facts ht
  rcases h with ⟨e, rfl, rfl⟩ | ⟨hk, rfl, rfl, h3⟩ | ⟨j, hj, rfl, rfl, h3, h4, h5, hk⟩
  · subst e
    refine .inr (.inr ⟨by simp [askS, gate0, nextS, mayB], .inr (.inl ⟨by omega, ?_, ?_, by simpa using h1.1⟩)⟩)
    · simp [askS, gate0, nextS, nextF, sinceOf, shutOf, barsOf]
    · simp [askS, gate0, nextS, nextBar, downB]
  · have hm : more ((k : Int) - 1) = (k : Int) := by rw [more_lt (by omega)]; omega
    by_cases ha : t.a ≤ (k : Int)
    · have hn : nextS 1 t.a t.c (k : Int) true (barsOf 0 steps) = 2 := by simp [nextS, ha]
      refine .inr (.inr ⟨by simp [askS, hm, hn, mayB], .inr (.inr ⟨0, by omega, ?_, ?_, by omega, by omega, by simp; omega, by omega⟩)⟩)
      · simp [askS, hm, hn, nextF, sinceOf, shutOf]
      · have : (0 : Int) < steps := by omega
        simp [askS, hm, hn, nextBar, downB, this]
    · have hn : nextS 1 t.a t.c (k : Int) true (barsOf 0 steps) = 1 := by simp [nextS, ha]
      refine .inr (.inr ⟨by simp [askS, hm, hn, mayB], .inr (.inl ⟨by omega, ?_, ?_, by simp; omega⟩)⟩)
      · simp [askS, hm, hn, nextF, sinceOf, shutOf]
      · simp [askS, hm, hn, nextBar, downB]
  · have hm : more ((k : Int) - 1) = (k : Int) := by rw [more_lt (by omega)]; omega
    have hmj : more j = j + 1 := more_lt (by omega)
    by_cases he : j + 1 = steps
    · have hb : barsOf (j + 1) steps = 2 := by unfold barsOf; rw [if_neg (by omega), if_pos he]
      exact .inl ⟨by simp [askS, hm, hmj, hb, nextS, mayB, nextF], by simp [askS, hm, hmj, hb, nextS, shutOf]⟩
    · have hb : barsOf (j + 1) steps = 1 := by unfold barsOf; rw [if_neg (by omega), if_neg he]
      by_cases hf : t.b < j + 1
      · exact .inr (.inl ⟨by simp [askS, hm, hmj, hb, nextS, mayB], by simp [askS, hmj, hb, nextF, hf]⟩)
      · refine .inr (.inr ⟨by simp [askS, hm, hmj, hb, nextS, mayB], .inr (.inr ⟨j + 1, by omega, ?_, ?_, by omega, by omega, by simp; omega, by omega⟩)⟩)
        · simp [askS, hm, hmj, hb, nextS, nextF, sinceOf, shutOf, hf]
        · have : j + 1 < steps := by omega
          simp [askS, hmj, hb, nextS, nextBar, downB, this]

theorem fault_stays {t : TD} {steps : Int} (ht : t.ok = true) {k : Nat} (h : (dAt t steps askedA k).1.f = true) : ∀ n, (dAt t steps askedA (k + n)).1.f = true
  | 0 => h
  | n + 1 => by
    have ih := fault_stays ht h n
    show (dAt t steps askedA (k + n + 1)).1.f = true
    rw [dAt_succ, dSaid_ask steps ht]
    simp [askS, ih]
theorem fault_may {t : TD} {steps : Int} (ht : t.ok = true) {k : Nat} (h : (dAt t steps askedA k).1.f = true) {j : Nat} (hj : k ≤ j) : mayAt t steps j = false := by
  obtain ⟨n, rfl⟩ := Nat.exists_eq_add_of_le hj
  have := fault_stays ht h n
  unfold mayAt
  rw [dSaid_ask steps ht]
  simp [askS, mayB, this]

theorem soon_fault {t : TD} {steps : Int} (ht : t.ok = true) {k : Nat} (hn : ∀ j, j < k → mayAt t steps j = false) (h : (dAt t steps askedA k).1.f = true) : soonestOf t steps = -1 := by
  unfold soonestOf
  split
  · rw [find_none (fun j _ => ?_)]
    rcases Nat.lt_or_ge j k with h' | h'
    · exact hn j h'
    · exact fault_may ht h h'
  · rfl
theorem soon_may {t : TD} {steps : Int} (ht : t.ok = true) (hs : inB steps 1 1000 = true) {k : Nat} (hk : k ≤ 300) (hn : ∀ j, j < k → mayAt t steps j = false) (h : mayAt t steps k = true) (hu : (dSaid t steps askedA k).g.u = (k : Int)) : soonestOf t steps = (k : Int) := by
  unfold soonestOf
  rw [ht, hs, find_some (by omega) hn h]
  exact hu

end Go.Proofs.Ytcidikmbngflcab
