/-
  FnExactRun: its row, out of the law's walks.
-/
import Derived.Test.YtcidikmbngflcaaRunLaw
import Derived.Test.YtcidikmbngflcaaOpenFS
namespace Go.Proofs.Ytcidikmbngflcaa
open Go.ChangeShapes Go.WideShapes Go.ChangeAt Go.RowKit
set_option maxRecDepth 100000

theorem run_walk (IR : ImplRun) (t : TD) (ao : Option Addr) (len cap : Nat) (w : World) (hm : len ≤ maxLen)
    (h : len = 0 ∨ ∃ (b o : Nat) (F : Nat → FD), ao = some ⟨b, o, none⟩ ∧ b < w.heap.size ∧ ∀ i, i < len → FCell w b o i (F i)) :
    Calls Try.prog 13 #[t.v, .slice ao len cap] w fun e w' => e = .returned (.bool true) ∧ Below w.heap.size w w' := by
  by_cases hlong : 1048576 < len
  · exact run_walk_long t ao len cap w hm hlong
  by_cases h0 : len = 0
  · subst h0; exact run_walk_none IR t ao cap w
  rcases h with h | ⟨b, o, F, rfl, hb, hc⟩
  · exact absurd h h0
  by_cases hn : runLen t F len = 0
  · exact run_walk_zero IR t b o len cap F w (by omega) (by omega) hb hc hn
  · exact run_walk_some IR t b o len cap F w (by omega) (by omega) hb hc (by omega)

theorem run_lifted (IR : ImplRun) (os : Os) (started : os.Started) (H : Type) (enc : TypeId × Value → H) :
    ReturnsInHanded {} Try.checked os 13 .any (Rows.fnExactRunSpec.pre6 enc Try.prog Try.f13 Rows.fnExactRunRow.domain false) (Rows.fnExactRunSpec.post enc Try.prog Try.f13 false true false false) := by
  refine returnsInHanded_of_change (C := Try.checked) Try.own started (by kernel_rfl) Try.func13
    (ChangeSpec.witness6 (enc := enc) (C := Try.checked) false ⟨#[], #[.agg #[.int .i64 0, .int .i64 0, .int .i64 0, .int .i64 0], .slice none 0 0], []⟩ 8 (by kernel_rfl) (by kernel_rfl) (by kernel_rfl) (by kernel_rfl)) ?_
  intro W base args ds gs before hval0 hW hcnd _
  have hval : ∀ (j : Nat) t v, Try.f13.params[j]? = some t → args[j]? = some v → Value.okWide Try.prog W .any base t v := hval0
  have hW' := hW
  obtain ⟨p, q, hA0, hV, rfl, hfz, hnd⟩ := hW
  have hA : DataW.TrodAll enc Try.prog W 0 (fun _ => true) true Try.f13.params.toList args.toList ds p := hA0
  rw [Try.params13] at hA hval
  obtain ⟨v0, v1, d0, d1, p0, p1, rfl, rfl, rfl, h0, h1⟩ := trodAll_two hA
  obtain ⟨rfl, rfl⟩ := trodVars_none hV
  obtain ⟨a, b, c, d, rfl, _, _, _, _⟩ := open_times (hval 0 51 v0 rfl rfl) h0
  obtain ⟨ao, len, cap, rfl, hm, hrow⟩ := open_felts (hval 1 68 v1 rfl rfl) h1
  have lt0 : ∀ x ∈ p0, x.block < W.heap.size := by obtain ⟨m, hm⟩ := h0; exact DataW.trod_lt m _ _ _ hm
  have lt1 : ∀ x ∈ p1, x.block < W.heap.size := by obtain ⟨m, hm⟩ := h1; exact DataW.trod_lt m _ _ _ hm
  clear hA0 hval0
  refine (run_walk IR ⟨a, b, c, d⟩ ao len cap W hm hrow).mono fun e W' ⟨he, bel⟩ => ?_
  subst he
  exact ⟨_, rfl, _, _, _, [], _, [], hW', trodAll_mk1 (shut_bool Try.underlying4 _), trodAll_mk2 (Below.trod Try.laidOut (by kernel_rfl) (of_decide_eq_true (by kernel_rfl)) h0 bel lt0) (Below.trod Try.laidOut (by kernel_rfl) (of_decide_eq_true (by kernel_rfl)) h1 bel lt1), rfl, bel.frame _, fun h => by cases h⟩

theorem run_said (IR : ImplRun) : Rows.FnExactRunSaid :=
  OpenClaim.holds_of_wide 13 Try.f13 rfl rfl rfl rfl rfl rfl rfl ⟨rfl, rfl, rfl, rfl, rfl⟩ rfl rfl rfl rfl rfl (by kernel_rfl) Try.func13 (by kernel_rfl)
    (of_decide_eq_true (by kernel_rfl)) (by unfold Func.isWrapper; first | (rw [if_pos (by decide +kernel)]; kernel_rfl) | (rw [if_neg (by decide +kernel)]; exact ⟨rfl, rfl⟩))
    (fun os started H enc _ => run_lifted IR os started H enc)

end Go.Proofs.Ytcidikmbngflcaa
