/-
  The waits as the iterator gives them: plain functions.
-/
import Derived.Test.YtcidikmbngflcabWaitsP
import Derived.Test.YtcidikmbngflcabImplWatch
namespace Go.Proofs.Ytcidikmbngflcab
open Go.RowKit
set_option maxRecDepth 100000

def vStep (k : Nat) (red on : Bool) (st : List WD × Bool × WD) : List WD × Bool × WD :=
  ((if (!red && st.2.1) = true then st.1 ++ [seeW (k : Int) red on st.2.1 st.2.2] else st.1), red, seeW (k : Int) red on st.2.1 st.2.2)
def vSt (t : TD) (F : Nat → FD) : Nat → List WD × Bool × WD
  | 0 => ([], false, wait00)
  | k + 1 => vStep k (saidAt t F k).red (F k).o (vSt t F k)
def vEnd (st : List WD × Bool × WD) : List WD := if st.2.1 = true then st.1 ++ [seeW (-1) false false st.2.1 st.2.2] else st.1
theorem vSt_succ (t : TD) (F : Nat → FD) (k : Nat) : vSt t F (k + 1) = vStep k (saidAt t F k).red (F k).o (vSt t F k) := rfl

theorem lastBy_snoc (f : WD → WD) (l : List WD) (x : WD) : lastBy f (l ++ [x]) = l ++ [f x] := by
  simp [lastBy, List.getD]

theorem v_w (t : TD) (F : Nat → FD) (k : Nat) : wSt t F k = (vEnd (vSt t F k), !(vSt t F k).2.1) := by
  induction k with
  | zero => rfl
  | succ k ih =>
    have e : wSt t F (k + 1) = wStep k (saidAt t F k).red (F k).o (wSt t F k) := rfl
    rw [e, ih, vSt_succ]
    obtain ⟨l, op, d⟩ := vSt t F k
    generalize (saidAt t F k).red = red
    generalize (F k).o = on
    cases red <;> cases op
    · simp [vEnd, vStep, wStep_ft]
    · simp [vEnd, vStep, wStep_ff, lastBy_snoc, seeW]
    · cases on <;> simp [vEnd, vStep, wStep_tt, lastBy_snoc, seeW]
    · cases on <;> simp [vEnd, vStep, wStep_tf, lastBy_snoc, seeW]

theorem vSt_len (t : TD) (F : Nat → FD) (k : Nat) : (vSt t F k).1.length ≤ k := by
  induction k with
  | zero => exact Nat.le_refl _
  | succ k ih =>
    rw [vSt_succ]
    unfold vStep
    dsimp only
    split
    · simp; omega
    · omega
theorem vEnd_waits (t : TD) (F : Nat → FD) (n : Nat) : vEnd (vSt t F (runLen t F n)) = waitsOf t F n := by
  unfold waitsOf; rw [v_w]

end Go.Proofs.Ytcidikmbngflcab
