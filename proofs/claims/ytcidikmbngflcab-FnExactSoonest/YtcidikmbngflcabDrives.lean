/-
  Drive as plain functions.
-/
import Derived.Test.YtcidikmbngflcabSlots
namespace Go.Proofs.Ytcidikmbngflcab
open Go.RowKit
set_option maxRecDepth 100000

def barsOf (bar steps : Int) : Int := if bar = 0 then 0 else if bar = steps then 2 else 1
def feltOf (a : AD) (bar steps : Int) : FD := ⟨a.x, a.n, a.o, barsOf bar steps, a.m⟩
def nextBar (stuck down : Bool) (bar steps : Int) : Int :=
  if stuck then bar else if down then (if bar < steps then bar + 1 else bar) else (if 0 < bar then bar - 1 else bar)
/-- The gate and the bars ahead of tick k. -/
def dAt (t : TD) (steps : Int) (A : Nat → AD) : Nat → GD × Int
  | 0 => (gate0, 0)
  | k + 1 => ((tickS t (dAt t steps A k).1 (feltOf (A k) (dAt t steps A k).2 steps)).g, nextBar (A k).k (tickS t (dAt t steps A k).1 (feltOf (A k) (dAt t steps A k).2 steps)).down (dAt t steps A k).2 steps)
def dSaid (t : TD) (steps : Int) (A : Nat → AD) (k : Nat) : SD := tickS t (dAt t steps A k).1 (feltOf (A k) (dAt t steps A k).2 steps)
def trueAt (t : TD) (steps : Int) (A : Nat → AD) (k : Nat) : UD := ⟨(dAt t steps A k).2, dSaid t steps A k⟩
theorem dAt_succ (t : TD) (steps : Int) (A : Nat → AD) (k : Nat) : dAt t steps A (k + 1) = ((dSaid t steps A k).g, nextBar (A k).k (dSaid t steps A k).down (dAt t steps A k).2 steps) := rfl
def driveOk (t : TD) (steps : Int) (n : Nat) : Bool := t.ok && inB steps 1 1000 && decide (n ≤ 2000)
def driveLen (t : TD) (steps : Int) (n : Nat) : Nat := if driveOk t steps n then n else 0
theorem driveLen_le (t : TD) (steps : Int) (n : Nat) : driveLen t steps n ≤ n := by unfold driveLen; split <;> omega
theorem dAt_bar (t : TD) (steps : Int) (A : Nat → AD) (h : 1 ≤ steps) (k : Nat) : 0 ≤ (dAt t steps A k).2 ∧ (dAt t steps A k).2 ≤ steps := by
  induction k with
  | zero => simp [dAt]; omega
  | succ k ih =>
    rw [dAt_succ]
    simp only [nextBar]
    repeat' split
    all_goals omega

def trueL (d : UD) : List Value := [.int .i64 d.bar, .bool d.s.ok, .int .i64 d.s.g.s, .int .i64 d.s.g.i, .int .i64 d.s.g.u, .bool d.s.g.f, .bool d.s.may, .bool d.s.red, .bool d.s.down, .bool d.s.long]
theorem news10 (d : UD) (w : World) (t : TypeId) (g : Nat) (hg : g = w.heap.size) (j : Nat) (x : Value) (h : (trueL d)[j]? = some x) : (w.alloc (.cells #[.int .i64 d.bar, .bool d.s.ok, .int .i64 d.s.g.s, .int .i64 d.s.g.i, .int .i64 d.s.g.u, .bool d.s.g.f, .bool d.s.may, .bool d.s.red, .bool d.s.down, .bool d.s.long] t)).cell? ((⟨g, 0, none⟩ : Addr).add j) = some x := by
  subst hg
  have e : ((⟨w.heap.size, 0, none⟩ : Addr).add j) = ⟨w.heap.size, j, none⟩ := by simp [Addr.add]; try exact fun e => e.symm
  rw [e, World.cell?_alloc_new, ← h]
  unfold trueL
  simp
theorem true_one (d : UD) : ∀ x ∈ trueL d, x.oneCell' = true := by
  intro x hx
  simp only [trueL, List.mem_cons, List.not_mem_nil, or_false] at hx
  rcases hx with rfl | rfl | rfl | rfl | rfl | rfl | rfl | rfl | rfl | rfl <;> rfl

end Go.Proofs.Ytcidikmbngflcab
