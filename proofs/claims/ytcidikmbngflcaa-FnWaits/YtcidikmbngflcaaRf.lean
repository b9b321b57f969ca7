/-
  A range over a function whose iterator holds cells of its own: the round out of its body's walk, the statement out of the iterator's contract, both at the wide fence, nothing asked of what either keeps.
-/
import Derived.RangeFuncNested
import Derived.RangeFuncBound
import Derived.RangeFuncCalls
import Derived.RangeFuncLeaves
import Derived.Shelf.Abstract
import Derived.Shelf.RegionOpen
import Derived.OwnWalkIn
import Derived.TacticsInMore
import Derived.LoopNIn
import Derived.LoopIn
import Derived.Test.YtcidikmbngflcaaBase
namespace Go.Proofs.Ytcidikmbngflcaa
open Go.RowKit
set_option maxRecDepth 100000

/-- The record of a loop over a function. -/
def loopOf (fn : FuncId) (tmps : Array Value) (ps : Array Tmp) (assign body : Code) (D : Nat) (st : LoopState) (pe : Option Code) : Loop :=
  { state := st, pending := pe, fn, tmps, params := ps, assign, body, defers := D }

/-- How the body of a round may be left: off its end, or by a return. -/
def roundEnd (fn : FuncId) (tmps : Array Value) (ps : Array Tmp) (assign body : Code) (D l : Nat) (R : Ending → World → Prop) : Exit → Act → World → Prop
  | .normal, _, W => W.heap[l]? = some (.loop (loopOf fn tmps ps assign body D .busy none)) ∧ R (.returned (.bool true)) (W.putObj l (.loop (loopOf fn tmps ps assign body D .ready none)))
  | .ret, _, W => W.heap[l]? = some (.loop (loopOf fn tmps ps assign body D .busy none)) ∧ R (.returned (.bool false)) (W.putObj l (.loop (loopOf fn tmps ps assign body D .done (some .ret))))
  | _, _, _ => False

theorem rf_round {n : Nat} {P : Program} {l D : Nat} {fn : FuncId} {tmps : Array Value} {ps : Array Tmp} {assign body : Code} {args : Array Value} {W : World} {R : Ending → World → Prop}
    (hl : W.heap[l]? = some (.loop (loopOf fn tmps ps assign body D .ready none))) (hs : args.size = ps.size)
    (h : assign.wpIn (Fence.wide.inRound l) n P (Exit.then (fun a1 w1 => w1.heap[l]? = some (.loop (loopOf fn tmps ps assign body D .ready none)) ∧
        body.wpIn (Fence.wide.inRound l) n P (roundEnd fn tmps ps assign body D l R) a1 (w1.putObj l (.loop (loopOf fn tmps ps assign body D .busy none)))) (fun _ _ _ => False))
      { tmps := (ps.zip args).foldl (fun t (p, v) => t.setIfInBounds p v) tmps, defers := [] } W) :
    YieldAt Fence.wide n P l args W R := by
  refine ⟨fn, _, assign, body, run_yield hl hs, roundIn_of_wpIn trivial (wpIn_mono h ?_)⟩
  rintro e a1 w1 h1
  cases e with
  | normal =>
    obtain ⟨hl1, hb⟩ := h1
    refine ⟨_, run_beginRound hl1 rfl, wpIn_mono hb ?_⟩
    rintro e2 a2 w2 h2
    cases e2 with
    | normal => exact ⟨_, _, run_endRound none h2.1, h2.2⟩
    | ret => exact ⟨_, _, run_endRound (some .ret) h2.1, h2.2⟩
    | exit id => exact h2.elim
    | goto t => exact h2.elim
    | panic c => exact h2.elim
    | outgrown => exact h2.elim
  | ret => exact h1.elim
  | exit id => exact h1.elim
  | goto t => exact h1.elim
  | panic c => exact h1.elim
  | outgrown => exact h1.elim

/-- The same over records that are not laid open. -/
def roundEnds (l : Nat) (Rb Rr Rd : Obj) (R : Ending → World → Prop) : Exit → Act → World → Prop
  | .normal, _, W => W.heap[l]? = some Rb ∧ R (.returned (.bool true)) (W.putObj l Rr)
  | .ret, _, W => W.heap[l]? = some Rb ∧ R (.returned (.bool false)) (W.putObj l Rd)
  | _, _, _ => False
theorem rf_rounds {n : Nat} {P : Program} {l D : Nat} {fn : FuncId} {tmps : Array Value} {ps : Array Tmp} {assign body : Code} {args : Array Value} {W : World} {R : Ending → World → Prop} {Rr Rd : Obj}
    (hr : Obj.loop (loopOf fn tmps ps assign body D .ready none) = Rr) (hd : Obj.loop (loopOf fn tmps ps assign body D .done (some .ret)) = Rd) (hl : W.heap[l]? = some Rr) (hs : args.size = ps.size)
    (h : ∀ Rb : Obj, Rb.isCells = false → assign.wpIn (Fence.wide.inRound l) n P (Exit.then (fun a1 w1 => w1.heap[l]? = some Rr ∧
        body.wpIn (Fence.wide.inRound l) n P (roundEnds l Rb Rr Rd R) a1 (w1.putObj l Rb)) (fun _ _ _ => False))
      { tmps := (ps.zip args).foldl (fun t (p, v) => t.setIfInBounds p v) tmps, defers := [] } W) :
    YieldAt Fence.wide n P l args W R := by
  subst hr hd
  refine rf_round hl hs (wpIn_mono (h (.loop (loopOf fn tmps ps assign body D .busy none)) rfl) ?_)
  rintro e a1 w1 h1
  cases e with
  | normal =>
    obtain ⟨hl1, hb⟩ := h1
    refine ⟨hl1, wpIn_mono hb ?_⟩
    rintro e2 a2 w2 h2
    cases e2 <;> exact h2
  | ret => exact h1.elim
  | exit id => exact h1.elim
  | goto t => exact h1.elim
  | panic c => exact h1.elim
  | outgrown => exact h1.elim

/-- What the iterator leaves: it was gone through to its end, or a round has left by a return. -/
def loopEnd (P : Program) (fn : FuncId) (ps : Array Tmp) (assign body : Code) (D : Nat) (a : Act) (Q : Exit → Act → World → Prop) (W : World) : Prop :=
  (W.heap[D + 1]? = some (.loop (loopOf fn a.tmps ps assign body D .ready none)) ∧ Q .normal { a with defers := { target := .collected D, args := #[] } :: a.defers } (W.putObj (D + 1) (.loop (loopOf fn a.tmps ps assign body D .exhausted none)))) ∨
  (W.heap[D + 1]? = some (.loop (loopOf fn a.tmps ps assign body D .done (some .ret))) ∧ Code.ret.wp P Q { a with defers := { target := .collected D, args := #[] } :: a.defers } (W.putObj (D + 1) (.loop (loopOf fn a.tmps ps assign body D .exhausted (some .ret)))))

theorem rf_loop {P : Program} {g : Operand} {ps : Array Tmp} {assign body : Code} {Q : Exit → Act → World → Prop} {a : Act} {w : World}
    {gf : Nat} {lb : Array Value} (hg : a.eval g = .func (.func gf) #[] lb) (eg : ∀ args w, (callFunc gf args).run P w = .ok (.enter gf args) w)
    (hiter : ∀ fn, CallsIn Fence.wide 0 P gf (#[.func (.yield (w.heap.size + 1)) #[] #[]] ++ lb) ((w.alloc (.deferred (some []))).alloc (.loop (loopOf fn a.tmps ps assign body w.heap.size .ready none)))
      fun e W => (∃ v, e = .returned v) ∧ loopEnd P fn ps assign body w.heap.size a Q W) :
    (Code.rangeFunc g ps assign body).wp P Q a w := by
  refine wpIn_wide.1 (wpIn_rangeFunc (n := 1) ?_)
  intro fn _
  have hit := hiter fn
  obtain ⟨W1, hW1⟩ : ∃ W1, (w.alloc (.deferred (some []))).alloc (.loop (loopOf fn a.tmps ps assign body w.heap.size .ready none)) = W1 := ⟨_, rfl⟩
  rw [hW1] at hit
  refine ⟨w.heap.size + 1, [{ target := .collected w.heap.size, args := #[] }], W1, { target := .fn (.func gf) lb, args := #[.func (.yield (w.heap.size + 1)) #[] #[]] }, W1, gf,
    #[.func (.yield (w.heap.size + 1)) #[] #[]] ++ lb, W1, ?_, ?_, ?_, ?_, fun _ => Nat.le_refl _, ?_⟩
  · rw [← hW1]; exact run_enterLoop_outer _ _ _ _ _
  · simp only [resolve, hg]
    simp [go_sem]
  · intro _ _; trivial
  · simp [invoke, go_sem, eg]
  · refine CallsIn.mono hit ?_
    rintro e W ⟨⟨v, rfl⟩, (⟨hl, hq⟩ | ⟨hl, hq⟩)⟩
    · exact ⟨none, _, run_endLoop hl (by simp [loopOf]), hq⟩
    · exact ⟨some .ret, _, run_endLoop hl (by simp [loopOf]), wpIn_wide.2 hq⟩

/-- A function whose body holds such a loop. -/
theorem calls_marks {P : Program} {f : FuncId} {fn : Func} {c : Code} {args : Array Value} {w : World} {R : Ending → World → Prop} (hf : P.funcs[f]? = some fn) (hb : fn.body = some c)
    (h : c.wp P (bodyPostM Fence.wide 0 P fn R) { tmps := args ++ Array.replicate (fn.ntmps - args.size) undef, defers := [] } w) : Calls P f args w R :=
  callsIn_wide.1 (callsIn_of_wp_marks (n := 0) hf hb trivial (wpIn_wide.2 h))

end Go.Proofs.Ytcidikmbngflcaa
