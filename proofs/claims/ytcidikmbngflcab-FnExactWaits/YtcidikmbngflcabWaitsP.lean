/-
  Waits as plain functions.
-/
import Derived.Test.YtcidikmbngflcabSlots
namespace Go.Proofs.Ytcidikmbngflcab
open Go.RowKit
set_option maxRecDepth 100000

def wait0 : WD := ⟨0, 0, false⟩
/-- The last of a list is turned by f. -/
def lastBy (f : WD → WD) (l : List WD) : List WD := l.set (l.length - 1) (f (l.getD (l.length - 1) wait0))
/-- One tick: what was noted, and whether the lights were not red. -/
def wStep (k : Nat) (red on : Bool) (st : List WD × Bool) : List WD × Bool :=
  let l1 := if red && st.2 then st.1 ++ [⟨(k : Int), -1, false⟩] else st.1
  let l2 := if !red && !st.2 then lastBy (fun d => ⟨d.fr, (k : Int), d.us⟩) l1 else l1
  let l3 := if red && on then lastBy (fun d => ⟨d.fr, d.tt, true⟩) l2 else l2
  (l3, !red)
def wSt (t : TD) (F : Nat → FD) : Nat → List WD × Bool
  | 0 => ([], true)
  | k + 1 => wStep k (saidAt t F k).red (F k).o (wSt t F k)
def waitsOf (t : TD) (F : Nat → FD) (n : Nat) : List WD := (wSt t F (runLen t F n)).1
def waitLen (t : TD) (F : Nat → FD) (n : Nat) : Nat := (waitsOf t F n).length
def waitAt (t : TD) (F : Nat → FD) (n i : Nat) : WD := (waitsOf t F n).getD i wait0

theorem lastBy_length (f : WD → WD) (l : List WD) : (lastBy f l).length = l.length := by simp [lastBy]
theorem wStep_tt (k : Nat) (on : Bool) (l : List WD) : wStep k true on (l, true) = ((if on then lastBy (fun d => ⟨d.fr, d.tt, true⟩) (l ++ [⟨(k : Int), -1, false⟩]) else l ++ [⟨(k : Int), -1, false⟩]), false) := by
  simp [wStep]
theorem wStep_tf (k : Nat) (on : Bool) (l : List WD) : wStep k true on (l, false) = ((if on then lastBy (fun d => ⟨d.fr, d.tt, true⟩) l else l), false) := by
  simp [wStep]
theorem wStep_ft (k : Nat) (on : Bool) (l : List WD) : wStep k false on (l, true) = (l, true) := by
  simp [wStep]
theorem wStep_ff (k : Nat) (on : Bool) (l : List WD) : wStep k false on (l, false) = (lastBy (fun d => ⟨d.fr, (k : Int), d.us⟩) l, true) := by
  simp [wStep]

/-- Where the lights were red something has been noted; never more than ticks. -/
theorem wSt_inv (t : TD) (F : Nat → FD) (k : Nat) : ((wSt t F k).2 = false → 0 < (wSt t F k).1.length) ∧ (wSt t F k).1.length ≤ k := by
  induction k with
  | zero => simp [wSt]
  | succ k ih =>
    obtain ⟨h1, h2⟩ := ih
    have e : wSt t F (k + 1) = wStep k (saidAt t F k).red (F k).o ((wSt t F k).1, (wSt t F k).2) := rfl
    rw [e]
    generalize (wSt t F k).1 = l at *
    cases hr : (saidAt t F k).red <;> cases hp : (wSt t F k).2
    · rw [wStep_ff, hp] at *; simp only [lastBy_length]; exact ⟨fun h => by simp at h, by omega⟩
    · rw [wStep_ft]; exact ⟨fun h => by simp at h, by show l.length ≤ k + 1; omega⟩
    · rw [wStep_tf]; rw [hp] at h1; have := h1 rfl
      cases (F k).o
      · exact ⟨fun _ => by simpa using this, by simp; omega⟩
      · exact ⟨fun _ => by simpa [lastBy_length] using this, by simp [lastBy_length]; omega⟩
    · rw [wStep_tt]
      cases (F k).o
      · exact ⟨fun _ => by simp, by simp; omega⟩
      · exact ⟨fun _ => by simp [lastBy_length], by simp [lastBy_length]; omega⟩

theorem runLen_le (t : TD) (F : Nat → FD) (n : Nat) : runLen t F n ≤ n := by unfold runLen; split <;> omega
theorem waitLen_le (t : TD) (F : Nat → FD) (n : Nat) : waitLen t F n ≤ n := Nat.le_trans (wSt_inv t F _).2 (runLen_le t F n)

end Go.Proofs.Ytcidikmbngflcab
