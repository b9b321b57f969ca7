/-
  Run as plain functions: gates and what is said, tick by tick.
-/
import Derived.Test.YtcidikmbngflcaaPlain
import Derived.Test.YtcidikmbngflcaaRow
namespace Go.Proofs.Ytcidikmbngflcaa
open Go.RowKit
set_option maxRecDepth 100000

structure TD where
  a : Int
  b : Int
  c : Int
  d : Int
structure GD where
  s : Int
  i : Int
  u : Int
  f : Bool
structure SD where
  ok : Bool
  g : GD
  may : Bool
  red : Bool
  down : Bool
  long : Bool
def TD.v (t : TD) : Value := tV t.a t.b t.c t.d
def GD.v (g : GD) : Value := gV g.s g.i g.u g.f
def SD.v (s : SD) : Value := saidV s.ok s.g.s s.g.i s.g.u s.g.f s.may s.red s.down s.long
def gate0 : GD := ⟨0, 0, 0, false⟩
def said0 : SD := ⟨false, gate0, false, false, false, false⟩
def TD.ok (t : TD) : Bool := tOk t.a t.b t.c t.d

/-- A tick, on records. -/
def tickS (t : TD) (g : GD) (f : FD) : SD :=
  if tickOk t.a t.b t.c t.d g.s g.i g.u f.b = true then
    let k := nextS g.s t.a t.c (more g.i) (f.x || f.n || f.o) f.b
    let fl := (g.f && !f.m) || nextF g.s t.b (more g.i) f.b
    let u := shutOf k (if g.s = 0 then g.u else more g.u)
    ⟨true, ⟨k, sinceOf g.s k (more g.i), u, fl⟩, mayB k f.b fl, redB k, downB k, longB u t.d f.o⟩
  else said0
theorem tickS_v (t : TD) (g : GD) (f : FD) : (tickS t g f).v = tickV t.a t.b t.c t.d g.s g.i g.u g.f f.x f.n f.o f.b f.m := by
  unfold tickS tickV
  split <;> rfl

/-- The gate ahead of tick k. -/
def gateAt (t : TD) (F : Nat → FD) : Nat → GD
  | 0 => gate0
  | k + 1 => (tickS t (gateAt t F k) (F k)).g
def saidAt (t : TD) (F : Nat → FD) (k : Nat) : SD := tickS t (gateAt t F k) (F k)
theorem gateAt_succ (t : TD) (F : Nat → FD) (k : Nat) : gateAt t F (k + 1) = (saidAt t F k).g := rfl

/-- Whether Run answers anything. -/
def feltsOk (F : Nat → FD) (n : Nat) : Bool := (List.range n).all fun i => inB (F i).b 0 2
def runOk (t : TD) (F : Nat → FD) (n : Nat) : Bool := t.ok && decide (n ≤ 2000) && feltsOk F n
def runLen (t : TD) (F : Nat → FD) (n : Nat) : Nat := if runOk t F n then n else 0

theorem feltsOk_all {F : Nat → FD} {n : Nat} (h : ∀ i, i < n → inB (F i).b 0 2 = true) : feltsOk F n = true := by
  unfold feltsOk; rw [List.all_eq_true]; intro i hi; exact h i (by simpa using hi)
theorem feltsOk_not {F : Nat → FD} {n k : Nat} (hk : k < n) (h : inB (F k).b 0 2 = false) : feltsOk F n = false := by
  unfold feltsOk; rw [List.all_eq_false]; exact ⟨k, by simpa using hk, by simp [h]⟩

/-- The cells of a record of what is said. -/
def saidCell (s : SD) (j : Nat) : Value :=
  if j = 0 then .bool s.ok else if j = 1 then .int .i64 s.g.s else if j = 2 then .int .i64 s.g.i else if j = 3 then .int .i64 s.g.u else if j = 4 then .bool s.g.f
  else if j = 5 then .bool s.may else if j = 6 then .bool s.red else if j = 7 then .bool s.down else .bool s.long
def saidL (s : SD) : List Value := [.bool s.ok, .int .i64 s.g.s, .int .i64 s.g.i, .int .i64 s.g.u, .bool s.g.f, .bool s.may, .bool s.red, .bool s.down, .bool s.long]

/-- A value that is a slice of n records, in memory from block B on. -/
def RowV (B : Nat) (w : World) (v : Value) (z n : Nat) (C : Nat → Nat → Value) : Prop :=
  (n = 0 ∧ ∃ ao cap, v = .slice ao 0 cap) ∨ ∃ g cap, v = .slice (some ⟨g, 0, none⟩) n cap ∧ B ≤ g ∧ Row w g z n C

theorem RowV.below {B : Nat} {w w' : World} {v : Value} {z n : Nat} {C : Nat → Nat → Value} (h : RowV B w v z n C) (hb : Below w.heap.size w w') : RowV B w' v z n C := by
  rcases h with h | ⟨g, cap, e, hg, hr⟩
  · exact .inl h
  · exact .inr ⟨g, cap, e, hg, hr.below hb hr.lt⟩

theorem RowV.form0 {B : Nat} {w : World} {v : Value} {z : Nat} {C : Nat → Nat → Value} (h : RowV B w v z 0 C) : ∃ ao cap, v = .slice ao 0 cap := by
  rcases h with ⟨_, h⟩ | ⟨g, cap, e, _⟩
  · exact h
  · exact ⟨_, _, e⟩
theorem RowV.formS {B : Nat} {w : World} {v : Value} {z n : Nat} {C : Nat → Nat → Value} (h : RowV B w v z n C) (hn : 0 < n) : ∃ g cap, v = .slice (some ⟨g, 0, none⟩) n cap ∧ B ≤ g ∧ Row w g z n C := by
  rcases h with ⟨h0, _⟩ | h
  · omega
  · exact h
theorem rowV_own {w : World} {B base e z n : Nat} {v : Value} {C : Nat → Nat → Value} (h : w.ownsRow base e z v n (flat z C n)) (hB : B ≤ base) : RowV B w v z n C := by
  have h0 := h
  rcases h.2 with ⟨rfl, rfl⟩ | ⟨g, cap, cur, rfl, hg, _⟩
  · exact .inl ⟨rfl, none, 0, rfl⟩
  · exact .inr ⟨g, cap, rfl, Nat.le_trans hB hg, row_own h0⟩
theorem said_news (s : SD) : (List.range 9).map (saidCell s) = saidL s := rfl

theorem news9 (s : SD) (w : World) (t : TypeId) (g : Nat) (hg : g = w.heap.size) (j : Nat) (x : Value) (h : (saidL s)[j]? = some x) : (w.alloc (.cells #[.bool s.ok, .int .i64 s.g.s, .int .i64 s.g.i, .int .i64 s.g.u, .bool s.g.f, .bool s.may, .bool s.red, .bool s.down, .bool s.long] t)).cell? ((⟨g, 0, none⟩ : Addr).add j) = some x := by
  subst hg
  have e : ((⟨w.heap.size, 0, none⟩ : Addr).add j) = ⟨w.heap.size, j, none⟩ := by simp [Addr.add]; try exact fun e => e.symm
  rw [e, World.cell?_alloc_new, ← h]
  unfold saidL
  simp
theorem said_one (s : SD) : ∀ x ∈ saidL s, x.oneCell' = true := by
  intro x hx
  simp only [saidL, List.mem_cons, List.not_mem_nil, or_false] at hx
  rcases hx with rfl | rfl | rfl | rfl | rfl | rfl | rfl | rfl | rfl <;> rfl

end Go.Proofs.Ytcidikmbngflcaa
