/-
  impl.Soonest, and FnExactSoonest.
-/
import Derived.Test.YtcidikmbngflcabEachAsked
import Derived.Test.YtcidikmbngflcabSoonLaw
import Derived.RangeFuncBox
namespace Go.Proofs.Ytcidikmbngflcab
open Go.ChangeShapes Go.WideShapes Go.ChangeAt Go.RowKit
set_option maxRecDepth 100000
set_option linter.unusedSimpArgs false

/-- Between two rounds: the loop's record, the block for its deferred calls, what is to be handed back. -/
def JS (w : World) (D B0 : Nat) (rec : Obj) (v : Int) (W : World) : Prop :=
  W.heap[D + 1]? = some rec ∧ W.heap[D]? = some (.deferred (some [])) ∧ Go.Boxed W B0 3 (.int .i64 v) ∧ Below w.heap.size w W

theorem JS.below {w W1 W2 : World} {D B0 : Nat} {rec : Obj} {v : Int} (h : JS w D B0 rec v W1) (hB : B0 < D + 2) (hw : w.heap.size ≤ D) (hm : Below (D + 2) W1 W2) : JS w D B0 rec v W2 := by
  obtain ⟨h1, h2, h3, h4⟩ := h
  exact ⟨(hm.block _ (by omega)).trans h1, (hm.block _ (by omega)).trans h2, (hm.block _ hB).trans h3, h4.trans (hm.mono (by omega))⟩

def doneOf : Obj → Obj
  | .loop r => .loop { r with state := .done, pending := some .ret }
  | o => o

theorem soon_iter (Rr Rd : Obj) (w w3 : World) (B0 bt bs : Nat) (t : TD) (steps : Int) (ht : t.ok = true) (hst : inB steps 1 1000 = true)
    (hbt : TCell w3 bt t) (hbs : w3.cell? ⟨bs, 0, none⟩ = some (.int .i64 steps)) (n1 : bt ≠ B0) (n2 : bs ≠ B0)
    (hB : Go.Boxed w3 B0 3 (.int .i64 0)) (hw : Below w.heap.size w w3)
    (hY : ∀ (q : Nat) (sd : SD) W1, JS w w3.heap.size B0 Rr 0 W1 → w3.heap.size + 2 ≤ W1.heap.size → YieldAt Fence.wide 0 Try.prog (w3.heap.size + 1) #[.int .i64 (q : Int), sd.v] W1 fun e W' =>
      (sd.may = false ∧ e = .returned (.bool true) ∧ JS w w3.heap.size B0 Rr 0 W' ∧ Keeps B0 W1.heap.size W1 W') ∨ (sd.may = true ∧ e = .returned (.bool false) ∧ JS w w3.heap.size B0 Rd (q : Int) W')) :
    Calls Try.prog 54 #[.func (.yield (w3.heap.size + 1)) #[] #[], .pointer (some ⟨bt, 0, none⟩), .pointer (some ⟨bs, 0, none⟩)]
      ((w3.alloc (.deferred (some []))).alloc Rr) fun e W' => (∃ v, e = .returned v) ∧
        ((soonestOf t steps = -1 ∧ JS w w3.heap.size B0 Rr 0 W') ∨ ∃ q : Nat, soonestOf t steps = (q : Int) ∧ JS w w3.heap.size B0 Rd (q : Int) W') := by
  obtain ⟨W, hW⟩ : ∃ W, W = (w3.alloc (.deferred (some []))).alloc Rr := ⟨_, rfl⟩
  have hz : W.heap.size = w3.heap.size + 2 := by rw [hW]; simp
  have hb3 : Below w3.heap.size w3 W := by rw [hW]; exact ((Below.refl _ _).alloc (Nat.le_refl _) _).alloc (by simp) _
  have h1 : W.heap[w3.heap.size + 1]? = some Rr := by
    rw [hW]; have := World.alloc_heap_new (w3.alloc (.deferred (some []))) Rr; rwa [World.size_alloc] at this
  have h2 : W.heap[w3.heap.size]? = some (.deferred (some [])) := by
    rw [hW]; exact (Below.heap_alloc _ _ _ (by simp)).trans (World.alloc_heap_new w3 _)
  rw [← hW]
  refine eachAsked1_in (J := JS w w3.heap.size B0 Rr 0) (Jx := fun q => JS w w3.heap.size B0 Rd (q : Int)) (w3.heap.size + 1) B0 bt bs t steps W ht hst (hbt.below hb3 (World.block_lt_of_cell? _ _ hbt.1)) ((hb3.cell (World.block_lt_of_cell? _ _ hbs)).trans hbs) n1 n2 (by have := hB.lt; omega)
    ⟨h1, h2, (hb3.block _ hB.lt).trans hB, hw.trans (hb3.mono hw.size)⟩ ?_ ?_
  · intro W1 W2 hj hm
    rw [hz] at hm
    exact hj.below (by have := hB.lt; omega) hw.size hm
  · intro q sd W1 hj hs
    exact hY q sd W1 hj (by omega)

set_option maxHeartbeats 4000000 in
theorem implSoonest (t : TD) (steps : Int) (w : World) :
    Calls Try.prog 17 #[t.v, .int .i64 steps] w fun e w' => e = .returned (.int .i64 (soonestOf t steps)) ∧ Below w.heap.size w w' := by
  have HT : Hid (t.v = .agg #[.int .i64 t.a, .int .i64 t.b, .int .i64 t.c, .int .i64 t.d]) := rfl
  have HTT : Hid (tV t.a t.b t.c t.d = t.v) := rfl
  rw [HT.out]
  obtain ⟨R, hR⟩ : ∃ R, R = soonestOf t steps := ⟨_, rfl⟩
  rw [← hR]
  have HR : Hid (R = soonestOf t steps) := hR
  clear hR
  refine calls_marks Try.func17 rfl ?_
  simp only [Try.ntmps17, List.size_toArray, List.length_cons, List.length_nil, Nat.reduceAdd, Nat.reduceSub, Array.replicate_succ, Array.replicate_zero, List.push_toArray, List.append_toArray, List.nil_append, List.cons_append]
  go_wp2_with fail
  rw [← HT.out]
  obtain ⟨W1, hW1⟩ : ∃ W1, W1 = (w.alloc (.cells #[.int .i64 t.a, .int .i64 t.b, .int .i64 t.c, .int .i64 t.d] 28)).alloc (.cells #[.int .i64 0] 3) := ⟨_, rfl⟩
  have HZ1 : Hid (W1.heap.size = w.heap.size + 2) := hid (by rw [hW1]; simp)
  have HW1 : Hid (Below w.heap.size w W1) := hid (by rw [hW1]; exact ((Below.refl _ _).alloc (Nat.le_refl _) _).alloc (by simp) _)
  have HBX1 : Hid (Go.Boxed W1 (w.heap.size + 1) 3 (.int .i64 0)) := hid (by rw [hW1]; have := Go.Boxed.new (w.alloc (.cells #[.int .i64 t.a, .int .i64 t.b, .int .i64 t.c, .int .i64 t.d] 28)) 3 (.int .i64 0); simpa using this)
  have HTC1 : Hid (TCell W1 w.heap.size t) := hid (by rw [hW1]; exact ⟨by simp [go_sem], by simp [go_sem], by simp [go_sem], by simp [go_sem]⟩)
  rw [← hW1]
  clear hW1
  refine (impl_TimesOk t.a t.b t.c t.d W1).mono ?_
  rintro e w2 ⟨rfl, hb2⟩
  have HB2 : Hid (Below W1.heap.size W1 w2) := hb2
  have HBX2 : Hid (Go.Boxed w2 (w.heap.size + 1) 3 (.int .i64 0)) := hid ((hb2.block _ (by have := HZ1.out; omega)).trans HBX1.out)
  have HW2 : Hid (Below w.heap.size w w2) := hid (HW1.out.trans (hb2.mono HW1.out.size))
  have HTC2 : Hid (TCell w2 w.heap.size t) := hid (HTC1.out.below hb2 (by have := HZ1.out; omega))
  clear hb2
  have xb := HBX2.out.cell
  have xf := HBX2.out.frozen
  cases hk : tOk t.a t.b t.c t.d
  · have HN0 : Hid (-1 = R) := hid (by rw [HR.out]; simp [soonestOf, TD.ok, hk])
    go_wp2
    exact ⟨.int .i64 (-1), by simp [results, Try.results17, go_sem, xb, xf], ret_int HN0.out, HW2.out.setCell (by simp) _⟩
  cases hst : inB steps 1 1000
  · have HN0 : Hid (-1 = R) := hid (by rw [HR.out]; simp [soonestOf, hst])
    go_wp2_with (go_at_call 37; refine (stepsOk_any _ _).mono ?_; rintro e w' ⟨rfl, rfl⟩)
    exact ⟨.int .i64 (-1), by simp [results, Try.results17, go_sem, xb, xf], ret_int HN0.out, HW2.out.setCell (by simp) _⟩
  obtain ⟨t0, t1, t2, t3⟩ := HTC2.out
  go_wp2_with fail
  refine (stepsOk_any _ _).mono ?_
  rintro e w2' ⟨rfl, hw2⟩
  replace hw2 := hw2.symm
  subst hw2
  rw [hst]
  go_wp2_with fail
  rw [← HT.out]
  refine (eachAsked_any t steps w2).mono ?_
  rintro e w3 ⟨rfl, hb3, hs3, htc3, hst3⟩
  have HZW : Hid (w.heap.size + 2 ≤ w2.heap.size) := hid (by have := HZ1.out; have := HB2.out.size; omega)
  have HB3 : Hid (Below w2.heap.size w2 w3) := hb3
  have HS3 : Hid (w3.heap.size = w2.heap.size + 2) := hs3
  have HTC3 : Hid (TCell w3 w2.heap.size t) := htc3
  have HST3 : Hid (w3.cell? ⟨w2.heap.size + 1, 0, none⟩ = some (.int .i64 steps)) := hst3
  have HBX3 : Hid (Go.Boxed w3 (w.heap.size + 1) 3 (.int .i64 0)) := hid ((hb3.block _ (by have := HZW.out; omega)).trans HBX2.out)
  have HW3 : Hid (Below w.heap.size w w3) := hid (HW2.out.trans (hb3.mono HW2.out.size))
  have HOK : Hid (t.ok = true) := hk
  have HIN : Hid (inB steps 1 1000 = true) := hst
  clear hb3 hs3 htc3 hst3 xb xf t0 t1 t2 t3
  go_wp2_with fail
  refine rf_loop (gf := 54) (lb := #[.pointer (some ⟨w2.heap.size, 0, none⟩), .pointer (some ⟨w2.heap.size + 1, 0, none⟩)]) rfl (enters_of Try.func54 (by kernel_rfl) rfl) ?_
  intro fn
  generalize hRr : Obj.loop (loopOf fn _ _ _ _ _ .ready none) = Rr
  have HNB : Hid (w.heap.size + 1 < w3.heap.size) := hid (by have := HZW.out; have := HS3.out; omega)
  refine callsIn_wide.2 ((soon_iter Rr (doneOf Rr) w w3 (w.heap.size + 1) w2.heap.size (w2.heap.size + 1) t steps HOK.out HIN.out HTC3.out HST3.out (by have := HZW.out; omega) (by have := HZW.out; omega) HBX3.out HW3.out ?round).mono ?done)
  case round =>
    have hsem := @Oper.semAt_some
    intro q sd Wa hj hs
    refine rf_rounds (Rd := doneOf Rr) hRr (by rw [← hRr]; rfl) hj.1 rfl ?_
    clear hRr
    generalize doneOf Rr = Rd
    intro Rb hRb
    have HRR : Hid (Wa.heap[w3.heap.size + 1]? = some Rr) := hj.1
    unfold SD.v saidV saidC
    obtain ⟨may, hmay⟩ : ∃ may, may = sd.may := ⟨_, rfl⟩
    rw [← hmay]
    clear hmay
    gi_wp2
    obtain ⟨_, hdef, hbx, hbw⟩ := hj
    have hD1 : w3.heap.size + 1 < Wa.heap.size := by omega
    refine ⟨(Below.heap_alloc _ _ _ hD1).trans HRR.out, ?_⟩
    obtain ⟨X, hX⟩ : ∃ X, X = (Wa.alloc (.cells #[.bool sd.ok, .int .i64 sd.g.s, .int .i64 sd.g.i, .int .i64 sd.g.u, .bool sd.g.f, .bool may, .bool sd.red, .bool sd.down, .bool sd.long] 55)).putObj (w3.heap.size + 1) Rb := ⟨_, rfl⟩
    rw [← hX]
    have hXb : ∀ k, k < Wa.heap.size → k ≠ w3.heap.size + 1 → X.heap[k]? = Wa.heap[k]? := fun k h1 h2 => by rw [hX]; exact (World.putObj_heap_other h2).trans (Below.heap_alloc _ _ _ h1)
    have hXl : X.heap[w3.heap.size + 1]? = some Rb := by rw [hX]; exact World.putObj_heap_same (by simp; omega)
    have hXn : X.heap[Wa.heap.size]? = (Wa.alloc (.cells #[.bool sd.ok, .int .i64 sd.g.s, .int .i64 sd.g.i, .int .i64 sd.g.u, .bool sd.g.f, .bool may, .bool sd.red, .bool sd.down, .bool sd.long] 55)).heap[Wa.heap.size]? := by rw [hX]; exact World.putObj_heap_other (by omega)
    have x5 : X.cell? ⟨Wa.heap.size, 5, none⟩ = some (.bool may) := (World.cell?_of_block (w := Wa.alloc (.cells #[.bool sd.ok, .int .i64 sd.g.s, .int .i64 sd.g.i, .int .i64 sd.g.u, .bool sd.g.f, .bool may, .bool sd.red, .bool sd.down, .bool sd.long] 55)) hXn).trans (by simp [go_sem])
    have HBX : Hid (Go.Boxed X (w.heap.size + 1) 3 (.int .i64 0)) := hid ((hXb _ hbx.lt (by have := HNB.out; omega)).trans hbx)
    have HXD : Hid (X.heap[w3.heap.size]? = some (.deferred (some []))) := hid ((hXb _ (by omega) (by omega)).trans hdef)
    have HBXW : Hid (Below w.heap.size Wa X) := hid (by rw [hX]; exact ((Below.refl _ _).alloc (by have := HNB.out; omega) _).grown (grownBy_putObj' _ _ _) (by have := HNB.out; simp; omega) (fun k e => by cases e; have := HNB.out; omega))
    have HKX : Hid (∀ k, k < Wa.heap.size → k ≠ w3.heap.size + 1 → X.heap[k]? = Wa.heap[k]?) := hXb
    have HXL : Hid (X.heap[w3.heap.size + 1]? = some Rb) := hXl
    have HBW : Hid (Below w.heap.size w Wa) := hbw
    have HXS : Hid (Wa.heap.size + 1 = X.heap.size) := hid (by rw [hX]; simp)
    have xb := HBX.out.cell
    have xf := HBX.out.frozen
    clear hX hXb hXl hXn hdef hbx hbw hRb
    cases may
    · gi_wp2
      refine ⟨HXL.out, ⟨rfl, ⟨World.putObj_heap_same (by have := HXS.out; omega), (World.putObj_heap_other (by omega)).trans HXD.out, (World.putObj_heap_other (by have := HNB.out; omega)).trans HBX.out, ?_⟩, ?_, ?_⟩⟩
      · exact HBW.out.trans (HBXW.out.grown (grownBy_putObj' _ _ _) (Nat.le_trans (by have := HNB.out; omega) HBXW.out.size) (fun k e => by cases e; have := HNB.out; omega))
      · have := HXS.out; simp; omega
      · intro k h1 h2
        by_cases e : k = w3.heap.size + 1
        · subst e; rw [World.putObj_heap_same (by have := HXS.out; omega)]; exact HRR.out.symm
        · rw [World.putObj_heap_other e]; exact HKX.out k h1 e
    · gi_wp2
      obtain ⟨Y, hY⟩ : ∃ Y, Y = X.setCell ⟨w.heap.size + 1, 0, none⟩ (.int .i64 (q : Int)) := ⟨_, rfl⟩
      have hYs : Y.heap.size = X.heap.size := by rw [hY]; simp [World.setCell]
      have hYb : ∀ k, k ≠ w.heap.size + 1 → Y.heap[k]? = X.heap[k]? := fun k h => by rw [hY]; exact Below.heap_setCell _ _ _ _ (by simpa using h)
      have hYB : Go.Boxed Y (w.heap.size + 1) 3 (.int .i64 (q : Int)) := by rw [hY]; exact HBX.out.set _
      have hYw : Below w.heap.size Wa Y := by rw [hY]; exact HBXW.out.setCell (by simp) _
      rw [← hY]
      refine ⟨(hYb _ (by have := HNB.out; omega)).trans HXL.out, ⟨rfl, ⟨World.putObj_heap_same (by have := HXS.out; omega), (World.putObj_heap_other (by omega)).trans ((hYb _ (by have := HNB.out; omega)).trans HXD.out), (World.putObj_heap_other (by have := HNB.out; omega)).trans hYB, ?_⟩⟩⟩
      exact HBW.out.trans (hYw.grown (grownBy_putObj' _ _ _) (Nat.le_trans (by have := HNB.out; omega) hYw.size) (fun k e => by cases e; have := HNB.out; omega))
  case done =>
    rintro e W ⟨hv, (⟨hr, hj⟩ | ⟨q, hr, hj⟩)⟩
    · refine ⟨hv, .inl ⟨hj.1.trans (by rw [← hRr]), ?_⟩⟩
      generalize Obj.loop _ = Rx
      clear hRr
      dsimp only
      obtain ⟨h1, h2, hbx, hbw⟩ := hj
      obtain ⟨Z, hZ⟩ : ∃ Z, Z = W.putObj (w3.heap.size + 1) Rx := ⟨_, rfl⟩
      rw [← hZ]
      have HBZ : Hid (Go.Boxed Z (w.heap.size + 1) 3 (.int .i64 0)) := hid (by rw [hZ]; exact (World.putObj_heap_other (by have := HNB.out; omega)).trans hbx)
      have HZD : Hid (Z.heap[w3.heap.size]? = some (.deferred (some []))) := hid (by rw [hZ]; exact (World.putObj_heap_other (by omega)).trans h2)
      have HWZ : Hid (Below w.heap.size w Z) := hid (by rw [hZ]; exact hbw.grown (grownBy_putObj' _ _ _) hbw.size (fun k e => by cases e; have := HNB.out; omega))
      have HRN : Hid (-1 = R) := hid (by rw [HR.out, hr])
      have xb := HBZ.out.cell
      have xf := HBZ.out.frozen
      clear hZ h1 h2 hbx hbw hr
      go_wp2
      have HD2 : Hid ((Z.setCell ⟨w.heap.size + 1, 0, none⟩ (.int .i64 (-1))).heap[w3.heap.size]? = some (.deferred (some []))) := hid ((Below.heap_setCell _ _ _ _ (by have := HNB.out; simp; omega)).trans HZD.out)
      have HB5 : Hid (Go.Boxed ((Z.setCell ⟨w.heap.size + 1, 0, none⟩ (.int .i64 (-1))).putObj w3.heap.size (.deferred none)) (w.heap.size + 1) 3 (.int .i64 (-1))) := hid ((World.putObj_heap_other (by have := HNB.out; omega)).trans (HBZ.out.set _))
      have yb := HB5.out.cell
      refine ⟨by simp, .inl ⟨_, _, rfl, run_takeDeferred HD2.out, ?_⟩⟩
      exact ⟨.int .i64 (-1), by simp [results, Try.results17, go_sem, yb], ret_int HRN.out, (HWZ.out.setCell (by simp) _).grown (grownBy_putObj' _ _ _) (by have := HWZ.out.size; simpa [World.setCell] using this) (fun k e => by cases e; have := HNB.out; omega)⟩
    · refine ⟨hv, .inr ⟨hj.1.trans (by rw [← hRr]; rfl), ?_⟩⟩
      generalize Obj.loop _ = Rx
      clear hRr
      dsimp only
      obtain ⟨h1, h2, hbx, hbw⟩ := hj
      obtain ⟨Z, hZ⟩ : ∃ Z, Z = W.putObj (w3.heap.size + 1) Rx := ⟨_, rfl⟩
      rw [← hZ]
      have HBZ : Hid (Go.Boxed Z (w.heap.size + 1) 3 (.int .i64 (q : Int))) := hid (by rw [hZ]; exact (World.putObj_heap_other (by have := HNB.out; omega)).trans hbx)
      have HZD : Hid (Z.heap[w3.heap.size]? = some (.deferred (some []))) := hid (by rw [hZ]; exact (World.putObj_heap_other (by omega)).trans h2)
      have HWZ : Hid (Below w.heap.size w Z) := hid (by rw [hZ]; exact hbw.grown (grownBy_putObj' _ _ _) hbw.size (fun k e => by cases e; have := HNB.out; omega))
      have HRN : Hid ((q : Int) = R) := hid (by rw [HR.out, hr])
      clear hZ h1 h2 hbx hbw hr
      go_wp2
      have HB5 : Hid (Go.Boxed (Z.putObj w3.heap.size (.deferred none)) (w.heap.size + 1) 3 (.int .i64 (q : Int))) := hid ((World.putObj_heap_other (by have := HNB.out; omega)).trans HBZ.out)
      have yb := HB5.out.cell
      refine ⟨by simp, .inl ⟨_, _, rfl, run_takeDeferred HZD.out, ?_⟩⟩
      exact ⟨.int .i64 (q : Int), by simp [results, Try.results17, go_sem, yb], ret_int HRN.out, HWZ.out.grown (grownBy_putObj' _ _ _) HWZ.out.size (fun k e => by cases e; have := HNB.out; omega)⟩

theorem soonest_holds : Rows.FnExactSoonestSaid := soonest_said (fun t steps w _ => implSoonest t steps w)

#print axioms soonest_holds
end Go.Proofs.Ytcidikmbngflcab
