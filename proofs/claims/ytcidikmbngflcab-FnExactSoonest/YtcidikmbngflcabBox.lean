/-
  The world of a tick: the three boxes and the result's variable, whatever lies behind them.
-/
import Derived.Test.YtcidikmbngflcabPlain
import Derived.Deep.RegionHeld3
import Derived.Deep.DeepCutAuto
namespace Go.Proofs.Ytcidikmbngflcab
open Go.ChangeShapes Go.WideShapes Go.ChangeAt Go.RowKit
set_option maxRecDepth 100000

/-- The boxes of the times, the gate and what is felt, and the result's variable, as a tick lays them behind w. -/
def Wx (w : World) (a b c d s i u : Int) (f x n o : Bool) (br : Int) (m : Bool) : World :=
  (((w.alloc (.cells #[.int .i64 a, .int .i64 b, .int .i64 c, .int .i64 d] 28)).alloc (.cells #[.int .i64 s, .int .i64 i, .int .i64 u, .bool f] 53)).alloc
    (.cells #[.bool x, .bool n, .bool o, .int .i64 br, .bool m] 59)).alloc (.cells #[.bool false, .int .i64 0, .int .i64 0, .int .i64 0, .bool false, .bool false, .bool false, .bool false, .bool false] 55)

theorem Wx_size (w : World) (a b c d s i u : Int) (f x n o : Bool) (br : Int) (m : Bool) : (Wx w a b c d s i u f x n o br m).heap.size = w.heap.size + 4 := by simp [Wx]
theorem Wx_below (w : World) (a b c d s i u : Int) (f x n o : Bool) (br : Int) (m : Bool) : Below w.heap.size w (Wx w a b c d s i u f x n o br m) :=
  ((((Below.refl _ _).alloc (Nat.le_refl _) _).alloc (by simp) _).alloc (by simp; omega) _).alloc (by simp; omega) _

theorem below_both {B : Nat} {W wc : World} (h : Below B W wc) (p : Addr) (v : Value) : Below B (W.setCell p v) (wc.setCell p v) := by
  refine ⟨h.os, h.tape, h.output, ?_, fun k hk => ?_⟩
  · simpa [World.setCell] using h.size
  · have := h.block k hk
    simp only [World.setCell, Array.getElem?_modify]
    split
    · rename_i e; rw [this]
    · exact this

theorem Wx_set (w : World) (a b c d s i u : Int) (f x n o : Bool) (br : Int) (m : Bool) (s' i' u' : Int) (f' : Bool) :
    ((((Wx w a b c d s i u f x n o br m).setCell ⟨w.heap.size + 1, 0, none⟩ (.int .i64 s')).setCell ⟨w.heap.size + 1, 1, none⟩ (.int .i64 i')).setCell ⟨w.heap.size + 1, 2, none⟩ (.int .i64 u')).setCell ⟨w.heap.size + 1, 3, none⟩ (.bool f') =
      Wx w a b c d s' i' u' f' x n o br m := by
  simp [Wx, go_sem]
theorem Wx_setF (w : World) (a b c d s i u : Int) (f x n o : Bool) (br : Int) (m : Bool) (f' : Bool) :
    (Wx w a b c d s i u f x n o br m).setCell ⟨w.heap.size + 1, 3, none⟩ (.bool f') = Wx w a b c d s i u f' x n o br m := by
  simp [Wx, go_sem]

structure Boxed (w wc : World) (a b c d s i u : Int) (f x n o : Bool) (br : Int) (m : Bool) : Prop where
  t0 : wc.cell? ⟨w.heap.size, 0, none⟩ = some (.int .i64 a)
  t1 : wc.cell? ⟨w.heap.size, 1, none⟩ = some (.int .i64 b)
  t2 : wc.cell? ⟨w.heap.size, 2, none⟩ = some (.int .i64 c)
  t3 : wc.cell? ⟨w.heap.size, 3, none⟩ = some (.int .i64 d)
  g0 : wc.cell? ⟨w.heap.size + 1, 0, none⟩ = some (.int .i64 s)
  g1 : wc.cell? ⟨w.heap.size + 1, 1, none⟩ = some (.int .i64 i)
  g2 : wc.cell? ⟨w.heap.size + 1, 2, none⟩ = some (.int .i64 u)
  g3 : wc.cell? ⟨w.heap.size + 1, 3, none⟩ = some (.bool f)
  f0 : wc.cell? ⟨w.heap.size + 1 + 1, 0, none⟩ = some (.bool x)
  f1 : wc.cell? ⟨w.heap.size + 1 + 1, 1, none⟩ = some (.bool n)
  f2 : wc.cell? ⟨w.heap.size + 1 + 1, 2, none⟩ = some (.bool o)
  f3 : wc.cell? ⟨w.heap.size + 1 + 1, 3, none⟩ = some (.int .i64 br)
  f4 : wc.cell? ⟨w.heap.size + 1 + 1, 4, none⟩ = some (.bool m)
  z1 : ∀ j, wc.frozen? ⟨w.heap.size + 1, j, none⟩ = false
  z3 : ∀ j, wc.frozen? ⟨w.heap.size + 1 + 1 + 1, j, none⟩ = false
  r0 : wc.cell? ⟨w.heap.size + 1 + 1 + 1, 0, none⟩ = some (.bool false)
  r1 : wc.cell? ⟨w.heap.size + 1 + 1 + 1, 1, none⟩ = some (.int .i64 0)
  r2 : wc.cell? ⟨w.heap.size + 1 + 1 + 1, 2, none⟩ = some (.int .i64 0)
  r3 : wc.cell? ⟨w.heap.size + 1 + 1 + 1, 3, none⟩ = some (.int .i64 0)
  r4 : wc.cell? ⟨w.heap.size + 1 + 1 + 1, 4, none⟩ = some (.bool false)
  r5 : wc.cell? ⟨w.heap.size + 1 + 1 + 1, 5, none⟩ = some (.bool false)
  r6 : wc.cell? ⟨w.heap.size + 1 + 1 + 1, 6, none⟩ = some (.bool false)
  r7 : wc.cell? ⟨w.heap.size + 1 + 1 + 1, 7, none⟩ = some (.bool false)
  r8 : wc.cell? ⟨w.heap.size + 1 + 1 + 1, 8, none⟩ = some (.bool false)
  zz : w.heap.size + 4 ≤ wc.heap.size

theorem boxed {w wc : World} {a b c d s i u : Int} {f x n o : Bool} {br : Int} {m : Bool} (h : Below (w.heap.size + 4) (Wx w a b c d s i u f x n o br m) wc) : Boxed w wc a b c d s i u f x n o br m := by
  constructor
  case zz => have := h.size; rw [Wx_size] at this; exact this
  case z1 => intro j; rw [h.frozen (p := ⟨w.heap.size + 1, j, none⟩) (by simp)]; simp [Wx, go_sem]
  case z3 => intro j; rw [h.frozen (p := ⟨w.heap.size + 1 + 1 + 1, j, none⟩) (by simp)]; simp [Wx, go_sem]
  all_goals (rw [h.cell (by simp; try omega)]; simp [Wx, go_sem])

theorem below_far {B : Nat} {W x w1 : World} (h : Below B W x) (hB : B ≤ W.heap.size) (hb : Below x.heap.size x w1) : Below B W w1 := h.trans (hb.mono (Nat.le_trans hB h.size))

theorem below_x {w wc : World} {a b c d s i u : Int} {f x n o : Bool} {br : Int} {m : Bool} (h : Below (w.heap.size + 4) (Wx w a b c d s i u f x n o br m) wc) : Below w.heap.size w wc :=
  (Wx_below w a b c d s i u f x n o br m).trans (h.mono (by omega))

theorem below9 {B : Nat} {w W : World} (h : Below B w W) {g : Nat} (hg : B ≤ g) (v0 v1 v2 v3 v4 v5 v6 v7 v8 : Value) :
    Below B w (((((((((W.setCell ⟨g, 0, none⟩ v0).setCell ⟨g, 1, none⟩ v1).setCell ⟨g, 2, none⟩ v2).setCell ⟨g, 3, none⟩ v3).setCell ⟨g, 4, none⟩ v4).setCell ⟨g, 5, none⟩ v5).setCell ⟨g, 6, none⟩ v6).setCell ⟨g, 7, none⟩ v7).setCell ⟨g, 8, none⟩ v8) :=
  ((((((((h.setCell hg v0).setCell hg v1).setCell hg v2).setCell hg v3).setCell hg v4).setCell hg v5).setCell hg v6).setCell hg v7).setCell hg v8
theorem below4 {B : Nat} {w W : World} (h : Below B w W) (g : Nat) (v0 v1 v2 v3 : Value) :
    Below B ((((w.setCell ⟨g, 0, none⟩ v0).setCell ⟨g, 1, none⟩ v1).setCell ⟨g, 2, none⟩ v2).setCell ⟨g, 3, none⟩ v3) ((((W.setCell ⟨g, 0, none⟩ v0).setCell ⟨g, 1, none⟩ v1).setCell ⟨g, 2, none⟩ v2).setCell ⟨g, 3, none⟩ v3) :=
  below_both (below_both (below_both (below_both h _ v0) _ v1) _ v2) _ v3
theorem x_set {w wc : World} {a b c d s i u : Int} {f x n o : Bool} {br : Int} {m : Bool} (h : Below (w.heap.size + 4) (Wx w a b c d s i u f x n o br m) wc) (s' i' u' : Int) (f' : Bool) :
    Below (w.heap.size + 4) (Wx w a b c d s' i' u' f' x n o br m) ((((wc.setCell ⟨w.heap.size + 1, 0, none⟩ (.int .i64 s')).setCell ⟨w.heap.size + 1, 1, none⟩ (.int .i64 i')).setCell ⟨w.heap.size + 1, 2, none⟩ (.int .i64 u')).setCell ⟨w.heap.size + 1, 3, none⟩ (.bool f')) := by
  have := below4 h (w.heap.size + 1) (.int .i64 s') (.int .i64 i') (.int .i64 u') (.bool f')
  rw [Wx_set] at this
  exact this
theorem x_setF {w wc : World} {a b c d s i u : Int} {f x n o : Bool} {br : Int} {m : Bool} (h : Below (w.heap.size + 4) (Wx w a b c d s i u f x n o br m) wc) (f' : Bool) :
    Below (w.heap.size + 4) (Wx w a b c d s i u f' x n o br m) (wc.setCell ⟨w.heap.size + 1, 3, none⟩ (.bool f')) := by
  have := below_both h ⟨w.heap.size + 1, 3, none⟩ (.bool f')
  rw [Wx_setF] at this
  exact this

theorem Wx_setI (w : World) (a b c d s i u : Int) (f x n o : Bool) (br : Int) (m : Bool) (i' : Int) :
    (Wx w a b c d s i u f x n o br m).setCell ⟨w.heap.size + 1, 1, none⟩ (.int .i64 i') = Wx w a b c d s i' u f x n o br m := by
  simp [Wx, go_sem]
theorem x_setI {w wc : World} {a b c d s i u : Int} {f x n o : Bool} {br : Int} {m : Bool} (h : Below (w.heap.size + 4) (Wx w a b c d s i u f x n o br m) wc) (i' : Int) :
    Below (w.heap.size + 4) (Wx w a b c d s i' u f x n o br m) (wc.setCell ⟨w.heap.size + 1, 1, none⟩ (.int .i64 i')) := by
  have := below_both h ⟨w.heap.size + 1, 1, none⟩ (.int .i64 i')
  rw [Wx_setI] at this
  exact this
theorem Wx_setU (w : World) (a b c d s i u : Int) (f x n o : Bool) (br : Int) (m : Bool) (u' : Int) :
    (Wx w a b c d s i u f x n o br m).setCell ⟨w.heap.size + 1, 2, none⟩ (.int .i64 u') = Wx w a b c d s i u' f x n o br m := by
  simp [Wx, go_sem]
theorem x_setU {w wc : World} {a b c d s i u : Int} {f x n o : Bool} {br : Int} {m : Bool} (h : Below (w.heap.size + 4) (Wx w a b c d s i u f x n o br m) wc) (u' : Int) :
    Below (w.heap.size + 4) (Wx w a b c d s i u' f x n o br m) (wc.setCell ⟨w.heap.size + 1, 2, none⟩ (.int .i64 u')) := by
  have := below_both h ⟨w.heap.size + 1, 2, none⟩ (.int .i64 u')
  rw [Wx_setU] at this
  exact this
theorem x_eq {w wd : World} {a b c d s' i' u' k s2 q2 : Int} {f' fF x n o : Bool} {br : Int} {m : Bool} (h : Below (w.heap.size + 4) (Wx w a b c d s' i' u' f' x n o br m) wd)
    (e : k = s' ∧ s2 = i' ∧ q2 = u' ∧ fF = f') : Below (w.heap.size + 4) (Wx w a b c d k s2 q2 fF x n o br m) wd := by
  obtain ⟨rfl, rfl, rfl, rfl⟩ := e
  exact h
theorem old_cell {wc : World} {g : Nat} (h : g < wc.heap.size) (o : Obj) (j : Nat) : (wc.alloc o).cell? ⟨g, j, none⟩ = wc.cell? ⟨g, j, none⟩ :=
  World.cell?_of_block (w := wc) (Below.heap_alloc wc o g h)
theorem old_frozen {wc : World} {g : Nat} (h : g < wc.heap.size) (o : Obj) (j : Nat) : (wc.alloc o).frozen? ⟨g, j, none⟩ = wc.frozen? ⟨g, j, none⟩ :=
  World.frozen?_of_block (w := wc) (Below.heap_alloc wc o g h)
theorem heldX {w w' : World} {a b c d s i u : Int} {f x n o : Bool} {br : Int} {m : Bool} (h : Below (w.heap.size + 4) (Wx w a b c d s i u f x n o br m) w') :
    Below (w.heap.size + 4) (Wx w a b c d s i u f x n o br m) w' ∧ w'.cell? ⟨w.heap.size, 0, none⟩ = some (.int .i64 a) ∧ w'.cell? ⟨w.heap.size, 1, none⟩ = some (.int .i64 b) ∧ w'.cell? ⟨w.heap.size, 2, none⟩ = some (.int .i64 c) ∧ w'.cell? ⟨w.heap.size, 3, none⟩ = some (.int .i64 d) ∧ w'.cell? ⟨w.heap.size + 1, 0, none⟩ = some (.int .i64 s) ∧ w'.cell? ⟨w.heap.size + 1, 1, none⟩ = some (.int .i64 i) ∧ w'.cell? ⟨w.heap.size + 1, 2, none⟩ = some (.int .i64 u) ∧ w'.cell? ⟨w.heap.size + 1, 3, none⟩ = some (.bool f) ∧ w'.cell? ⟨w.heap.size + 1 + 1, 0, none⟩ = some (.bool x) ∧ w'.cell? ⟨w.heap.size + 1 + 1, 1, none⟩ = some (.bool n) ∧ w'.cell? ⟨w.heap.size + 1 + 1, 2, none⟩ = some (.bool o) ∧ w'.cell? ⟨w.heap.size + 1 + 1, 3, none⟩ = some (.int .i64 br) ∧ w'.cell? ⟨w.heap.size + 1 + 1, 4, none⟩ = some (.bool m) :=
  have k := boxed h
  ⟨h, k.t0, k.t1, k.t2, k.t3, k.g0, k.g1, k.g2, k.g3, k.f0, k.f1, k.f2, k.f3, k.f4⟩
theorem held_far {W x w1 : World} {B : Nat} {R : Prop} (h : Below B W x ∧ R) (hB : B ≤ W.heap.size) (hb : Below x.heap.size x w1) : Below B W w1 := below_far h.1 hB hb

end Go.Proofs.Ytcidikmbngflcab
