/-
  The waits and the lights: plain functions.
-/
import Derived.Test.YtcidikmbngflcaaWaitsV
namespace Go.Proofs.Ytcidikmbngflcaa
open Go.RowKit
set_option maxRecDepth 100000

/-- Where a wait ends, for the marks. -/
def toOf (N : Nat) (d : WD) : Int := if d.tt < 0 then (N : Int) else d.tt
def markB (N : Nat) (d : WD) (i : Nat) : Bool := decide (d.fr ≤ (i : Int)) && decide ((i : Int) < toOf N d)
def markL (N : Nat) (l : List WD) (i : Nat) : Bool := l.any (fun d => markB N d i)

theorem toOf_pos {N : Nat} {d : WD} (h : 0 ≤ d.tt) : toOf N d = d.tt := by unfold toOf; rw [if_neg (by omega)]
theorem toOf_neg {N : Nat} {d : WD} (h : d.tt < 0) : toOf N d = (N : Int) := by unfold toOf; rw [if_pos h]
theorem markB_iff {N : Nat} {d : WD} {i : Nat} : markB N d i = true ↔ d.fr ≤ (i : Int) ∧ (i : Int) < toOf N d := by unfold markB; rw [Bool.and_eq_true, decide_eq_true_eq, decide_eq_true_eq]

/-- What was given so far tells the lights so far. -/
theorem v_inv (t : TD) (F : Nat → FD) (k : Nat) :
    (∀ d ∈ (vSt t F k).1, 0 ≤ d.fr ∧ d.fr < (k : Int) ∧ 0 ≤ d.tt ∧ d.tt < (k : Int)) ∧ ((vSt t F k).2.1 = true → 0 ≤ (vSt t F k).2.2.fr ∧ (vSt t F k).2.2.fr < (k : Int)) ∧
    (∀ i, i < k → ((saidAt t F i).red = true ↔ (∃ d ∈ (vSt t F k).1, d.fr ≤ (i : Int) ∧ (i : Int) < d.tt) ∨ ((vSt t F k).2.1 = true ∧ (vSt t F k).2.2.fr ≤ (i : Int)))) := by
  induction k with
  | zero => exact ⟨fun d h => by simp [vSt] at h, fun h => by simp [vSt] at h, fun i h => absurd h (by omega)⟩
  | succ k ih =>
    rw [vSt_succ]
    generalize vSt t F k = st at ih ⊢
    obtain ⟨l, op, d⟩ := st
    obtain ⟨hA, hB, hC⟩ := ih
    dsimp only at hA hB hC
    cases hr : (saidAt t F k).red
    · -- the lights are not red
      cases op
      · refine ⟨fun e he => ?_, fun h => by simp [vStep] at h, fun i hi => ?_⟩
        · simp [vStep] at he
          have := hA e he; omega
        · simp [vStep]
          by_cases e : i = k
          · subst e
            rw [hr]
            simp
            intro x hx h1
            have := hA x hx; omega
          · have := hC i (by omega)
            simp at this
            exact this
      · refine ⟨fun e he => ?_, fun h => by simp [vStep] at h, fun i hi => ?_⟩
        · simp [vStep, seeW] at he
          have hb := hB rfl
          rcases he with he | rfl
          · have := hA e he; omega
          · refine ⟨hb.1, ?_, ?_, ?_⟩ <;> dsimp only <;> omega
        · simp [vStep, seeW]
          have hb := hB rfl
          by_cases e : i = k
          · subst e
            rw [hr]
            simp
            intro x hx h1
            have := hA x hx; omega
          · have := hC i (by omega)
            rw [this]
            simp
            constructor
            · rintro (h1 | h1)
              · exact .inl h1
              · exact .inr ⟨h1, by omega⟩
            · rintro (h1 | ⟨h1, _⟩)
              · exact .inl h1
              · exact .inr h1
    · cases op
      · refine ⟨fun e he => ?_, fun _ => ?_, fun i hi => ?_⟩
        · simp [vStep] at he
          have := hA e he; omega
        · simp [vStep, seeW]; omega
        · simp [vStep, seeW]
          by_cases e : i = k
          · subst e
            rw [hr]; simp
          · have := hC i (by omega)
            rw [this]
            simp
            omega
      · refine ⟨fun e he => ?_, fun _ => ?_, fun i hi => ?_⟩
        · simp [vStep] at he
          have := hA e he; omega
        · have hb := hB rfl
          simp [vStep, seeW]; omega
        · simp [vStep, seeW]
          have hb := hB rfl
          by_cases e : i = k
          · subst e
            rw [hr]; simp
            exact .inr (by omega)
          · have := hC i (by omega)
            rw [this]
            simp

theorem wait_from (t : TD) (F : Nat → FD) (n : Nat) {d : WD} (h : d ∈ waitsOf t F n) : 0 ≤ d.fr ∧ d.fr < (runLen t F n : Int) := by
  rw [← vEnd_waits] at h
  obtain ⟨hA, hB, _⟩ := v_inv t F (runLen t F n)
  unfold vEnd at h
  split at h
  · next ho =>
    rw [List.mem_append] at h
    rcases h with h | h
    · exact ⟨(hA d h).1, (hA d h).2.1⟩
    · simp at h; subst h
      rw [ho]
      exact hB ho
  · exact ⟨(hA d h).1, (hA d h).2.1⟩

theorem red_marks (t : TD) (F : Nat → FD) (n i : Nat) (hi : i < runLen t F n) : (saidAt t F i).red = markL (runLen t F n) (waitsOf t F n) i := by
  rw [← vEnd_waits]
  obtain ⟨hA, hB, hC⟩ := v_inv t F (runLen t F n)
  have h := hC i hi
  generalize runLen t F n = N at *
  rw [Bool.eq_iff_iff, h]
  unfold markL vEnd
  rw [List.any_eq_true]
  cases ho : (vSt t F N).2.1
  · rw [if_neg (by simp)]
    constructor
    · rintro (⟨x, hx, h1, h2⟩ | ⟨h1, _⟩)
      · exact ⟨x, hx, markB_iff.2 ⟨h1, by rw [toOf_pos (hA x hx).2.2.1]; exact h2⟩⟩
      · cases h1
    · rintro ⟨x, hx, hm⟩
      have := markB_iff.1 hm
      rw [toOf_pos (hA x hx).2.2.1] at this
      exact .inl ⟨x, hx, this⟩
  · rw [if_pos rfl]
    have hb := hB ho
    have e : seeW (-1) false false true (vSt t F N).2.2 = ⟨(vSt t F N).2.2.fr, -1, (vSt t F N).2.2.us⟩ := by simp [seeW]
    constructor
    · rintro (⟨x, hx, h1, h2⟩ | ⟨_, h1⟩)
      · exact ⟨x, List.mem_append_left _ hx, markB_iff.2 ⟨h1, by rw [toOf_pos (hA x hx).2.2.1]; exact h2⟩⟩
      · refine ⟨_, List.mem_append_right _ (List.mem_singleton.2 rfl), markB_iff.2 ?_⟩
        rw [e, toOf_neg (by show (-1 : Int) < 0; omega)]
        exact ⟨h1, by omega⟩
    · rintro ⟨x, hx, hm⟩
      rw [List.mem_append] at hx
      have := markB_iff.1 hm
      rcases hx with hx | hx
      · rw [toOf_pos (hA x hx).2.2.1] at this
        exact .inl ⟨x, hx, this⟩
      · rw [List.mem_singleton] at hx
        subst hx
        rw [e] at this
        exact .inr ⟨rfl, this.1⟩

end Go.Proofs.Ytcidikmbngflcaa
