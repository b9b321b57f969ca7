/-
  A tick of a gate as plain functions: no Go in sight.
-/
import Derived.Test.YtcidikmbngflcaaGate
namespace Go.Proofs.Ytcidikmbngflcaa
open Go.RowKit
set_option maxRecDepth 100000

/-- One more, a thousand millions at the most. -/
def more (n : Int) : Int := if n < 1000000000 then n + 1 else 1000000000
theorem more_lt {n : Int} (h : n < 1000000000) : more n = n + 1 := if_pos h
theorem more_ge {n : Int} (h : ¬ n < 1000000000) : more n = 1000000000 := if_neg h
theorem more_bd {n : Int} (h : 0 ≤ n) : 0 ≤ more n ∧ more n ≤ 1000000000 := by unfold more; split <;> omega

/-- The state behind a tick (a: Warn, c: Least; i: since, one more already; w: wanted; br: the bars). -/
def nextS (s a c i : Int) (w : Bool) (br : Int) : Int :=
  if s = 0 then (if w then 1 else 0)
  else if s = 1 then (if a ≤ i then 2 else 1)
  else if s = 2 then (if br = 2 then 3 else 2)
  else if s = 3 then (if br = 2 then (if (!w && decide (c ≤ i)) = true then 4 else 3) else 2)
  else (if w then 1 else if br = 0 then 0 else 4)
/-- Whether something is found to be wrong (b: Close). -/
def nextF (s b i br : Int) : Bool :=
  if s = 0 then br != 0 else if s = 2 then (if br = 2 then false else decide (b < i)) else if s = 3 then br != 2 else false

theorem nextS_in (s a c i : Int) (w : Bool) (br : Int) : 0 ≤ nextS s a c i w br ∧ nextS s a c i w br ≤ 4 := by
  unfold nextS; repeat' split
  all_goals omega

def sinceOf (s k i : Int) : Int := if s = k then i else 0
def shutOf (k u : Int) : Int := if k = 0 then 0 else u
def mayB (k br : Int) (f : Bool) : Bool := k == 3 && br == 2 && !f
def redB (k : Int) : Bool := k != 0
def downB (k : Int) : Bool := k == 2 || k == 3
def longB (u d : Int) (o : Bool) : Bool := decide (d < u) && !o

/-- What is said, as the cells of a Said. -/
def saidC (ok : Bool) (s i u : Int) (f may red down long : Bool) : Array Value :=
  #[.bool ok, .int .i64 s, .int .i64 i, .int .i64 u, .bool f, .bool may, .bool red, .bool down, .bool long]
def saidV (ok : Bool) (s i u : Int) (f may red down long : Bool) : Value := .agg (saidC ok s i u f may red down long)
def saidK (k i u : Int) (f : Bool) (d br : Int) (o : Bool) : Value := saidV true k i u f (mayB k br f) (redB k) (downB k) (longB u d o)

/-- The whole tick. -/
def tickOk (a b c d s i u br : Int) : Bool := gOk a b c d s i u && inB br 0 2
def tickV (a b c d s i u : Int) (f x n o : Bool) (br : Int) (m : Bool) : Value :=
  if tickOk a b c d s i u br = true then
    saidK (nextS s a c (more i) (x || n || o) br) (sinceOf s (nextS s a c (more i) (x || n || o) br) (more i)) (shutOf (nextS s a c (more i) (x || n || o) br) (if s = 0 then u else more u)) ((f && !m) || nextF s b (more i) br) d br o
  else saidV false 0 0 0 false false false false false

theorem gOk_facts {a b c d s i u : Int} (h : gOk a b c d s i u = true) :
    (0 ≤ s ∧ s ≤ 4) ∧ (0 ≤ i ∧ i ≤ 1000000000) ∧ (0 ≤ u ∧ u ≤ 1000000000) ∧ (0 ≤ a ∧ a ≤ 100) ∧ (1 ≤ b ∧ b ≤ 100) ∧ (0 ≤ c ∧ c ≤ 1000) ∧ (1 ≤ d ∧ d ≤ 100000) ∧ (s = 0 → u = 0) ∧ (s = 1 → i ≤ a) := by
  unfold gOk tOk at h
  simp only [Bool.and_eq_true] at h
  obtain ⟨⟨⟨⟨⟨⟨⟨ha, hb⟩, hc⟩, hd⟩, hs⟩, hi⟩, hu⟩, hl⟩ := h
  refine ⟨inB_true hs, inB_true hi, inB_true hu, inB_true ha, inB_true hb, inB_true hc, inB_true hd, fun e => ?_, fun e => ?_⟩
  · rw [if_pos e] at hl; simpa using hl
  · rw [if_neg (by omega), if_pos e] at hl; simpa using hl

def zeroV : Value := .agg #[.bool false, .int .i64 0, .int .i64 0, .int .i64 0, .bool false, .bool false, .bool false, .bool false, .bool false]
theorem tickV_no {a b c d s i u br : Int} (h : tickOk a b c d s i u br = false) (f x n o m : Bool) : tickV a b c d s i u f x n o br m = zeroV := by
  unfold tickV; rw [if_neg (by simp [h])]; rfl

end Go.Proofs.Ytcidikmbngflcaa
