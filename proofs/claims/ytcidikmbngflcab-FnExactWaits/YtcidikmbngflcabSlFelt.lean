/-
  eqFeltS, markFeltS, heldFeltS: the laws' helpers over rows of Felt. (Written by wip/gen/slices.py.)
-/
import Derived.Test.YtcidikmbngflcabSlots
import Derived.Deep.RegionHeld3
namespace Go.Proofs.Ytcidikmbngflcab
open Go.ChangeShapes Go.WideShapes Go.ChangeAt Go.RowKit
set_option maxRecDepth 100000
set_option linter.unusedSimpArgs false

def feltCell (d : FD) (j : Nat) : Value :=
  if j = 0 then .bool d.x else if j = 1 then .bool d.n else if j = 2 then .bool d.o else if j = 3 then .int .i64 d.b else .bool d.m
/-- What markFeltS writes, counted from k0 on. -/
def markFelt (k0 : Int) (i : Nat) : FD := ⟨((k0 + (i : Int) * 5) % 3 == 0), ((k0 + (i : Int) * 5 + 1) % 3 == 0), ((k0 + (i : Int) * 5 + 1 + 1) % 3 == 0), (k0 + (i : Int) * 5 + 1 + 1 + 1), ((k0 + (i : Int) * 5 + 1 + 1 + 1 + 1) % 3 == 0)⟩

theorem feltCell_at {w : World} {g n : Nat} {R : Nat → FD} (h : Row w g 5 n (fun i j => feltCell (R i) j)) {i : Nat} (hi : i < n) :
    w.cell? ⟨g, i * 5, none⟩ = some (.bool (R i).x) ∧ w.cell? ⟨g, i * 5 + 1, none⟩ = some (.bool (R i).n) ∧ w.cell? ⟨g, i * 5 + 2, none⟩ = some (.bool (R i).o) ∧ w.cell? ⟨g, i * 5 + 3, none⟩ = some (.int .i64 (R i).b) ∧ w.cell? ⟨g, i * 5 + 4, none⟩ = some (.bool (R i).m) :=
  ⟨h.cells i 0 hi (by omega), h.cells i 1 hi (by omega), h.cells i 2 hi (by omega), h.cells i 3 hi (by omega), h.cells i 4 hi (by omega)⟩

set_option maxHeartbeats 1000000 in
theorem eqFelt_same (d : FD) (w : World) :
    Calls Try.prog 32 #[.agg #[.bool d.x, .bool d.n, .bool d.o, .int .i64 d.b, .bool d.m], .agg #[.bool d.x, .bool d.n, .bool d.o, .int .i64 d.b, .bool d.m]] w fun e w' => e = .returned (.bool true) ∧ Below w.heap.size w w' := by
  have h0 : (d.x != d.x) = false := by simp
  have h1 : (d.n != d.n) = false := by simp
  have h2 : (d.o != d.o) = false := by simp
  have h3 : (d.b != d.b) = false := by simp
  have h4 : (d.m != d.m) = false := by simp
  go_enter Try.func32, Try.ntmps32
  go_wp2
  go_ret
  exact ⟨rfl, ((Below.refl _ _).alloc (Nat.le_refl _) _).alloc (by simp) _⟩

theorem heldFelt {w w' : World} {ga gb n k : Nat} {R : Nat → FD} (ha : Row w ga 5 n (fun i j => feltCell (R i) j)) (hb : Row w gb 5 n (fun i j => feltCell (R i) j)) (hk : k < n) (h : Below w.heap.size w w') :
    Below w.heap.size w w' ∧ w'.cell? ⟨ga, k * 5, none⟩ = some (.bool (R k).x) ∧ w'.cell? ⟨ga, k * 5 + 1, none⟩ = some (.bool (R k).n) ∧ w'.cell? ⟨ga, k * 5 + 2, none⟩ = some (.bool (R k).o) ∧ w'.cell? ⟨ga, k * 5 + 3, none⟩ = some (.int .i64 (R k).b) ∧ w'.cell? ⟨ga, k * 5 + 4, none⟩ = some (.bool (R k).m) ∧ w'.cell? ⟨gb, k * 5, none⟩ = some (.bool (R k).x) ∧ w'.cell? ⟨gb, k * 5 + 1, none⟩ = some (.bool (R k).n) ∧ w'.cell? ⟨gb, k * 5 + 2, none⟩ = some (.bool (R k).o) ∧ w'.cell? ⟨gb, k * 5 + 3, none⟩ = some (.int .i64 (R k).b) ∧ w'.cell? ⟨gb, k * 5 + 4, none⟩ = some (.bool (R k).m) := by
  obtain ⟨a0, a1, a2, a3, a4⟩ := feltCell_at (ha.below h ha.lt) hk
  obtain ⟨b0, b1, b2, b3, b4⟩ := feltCell_at (hb.below h hb.lt) hk
  exact ⟨h, a0, a1, a2, a3, a4, b0, b1, b2, b3, b4⟩

set_option maxHeartbeats 2000000 in
theorem eqFeltS_same (ga gb n ca cb : Nat) (R : Nat → FD) (w : World) (hn : n ≤ 1048576) (ha : Row w ga 5 n (fun i j => feltCell (R i) j)) (hb : Row w gb 5 n (fun i j => feltCell (R i) j)) :
    Calls Try.prog 12 #[.slice (some ⟨ga, 0, none⟩) n ca, .slice (some ⟨gb, 0, none⟩) n cb] w fun e w' => e = .returned (.bool true) ∧ Below w.heap.size w w' := by
  have HA : Hid (Row w ga 5 n (fun i j => feltCell (R i) j)) := ha
  have HB : Hid (Row w gb 5 n (fun i j => feltCell (R i) j)) := hb
  clear ha hb
  have hnn : ((n : Int) != (n : Int)) = false := by simp
  go_enter Try.func12, Try.ntmps12
  go_wp2_with fail
  go_loopw [5] (fun i wr => ∃ k : Nat, k ≤ n ∧ i = .int .i64 k ∧ Below w.heap.size w wr) (fun i _ => n - (intOf i).toNat)
  case atStart => exact ⟨0, Nat.zero_le _, rfl, Below.refl _ _⟩
  case round =>
    obtain ⟨k, hk, rfl, hbel⟩ := hrel
    have HBEL : Hid (Below w.heap.size w wr) := hbel
    clear hbel
    by_cases hlt : k < n
    · have b0 : (0 : Int) ≤ (k : Int) := by omega
      have b1 : (k : Int) < (n : Int) := by omega
      go_upto_region 6 with fail
      go_cut [26] (fun v wd => v = .bool false ∧ Below w.heap.size w wd)
      case first =>
        go_region_held3 (fun w' => Below w.heap.size w w' ∧ w'.cell? ⟨ga, k * 5, none⟩ = some (.bool (R k).x) ∧ w'.cell? ⟨ga, k * 5 + 1, none⟩ = some (.bool (R k).n) ∧ w'.cell? ⟨ga, k * 5 + 2, none⟩ = some (.bool (R k).o) ∧ w'.cell? ⟨ga, k * 5 + 3, none⟩ = some (.int .i64 (R k).b) ∧ w'.cell? ⟨ga, k * 5 + 4, none⟩ = some (.bool (R k).m) ∧ w'.cell? ⟨gb, k * 5, none⟩ = some (.bool (R k).x) ∧ w'.cell? ⟨gb, k * 5 + 1, none⟩ = some (.bool (R k).n) ∧ w'.cell? ⟨gb, k * 5 + 2, none⟩ = some (.bool (R k).o) ∧ w'.cell? ⟨gb, k * 5 + 3, none⟩ = some (.int .i64 (R k).b) ∧ w'.cell? ⟨gb, k * 5 + 4, none⟩ = some (.bool (R k).m))
          ((refine heldFelt HA.out HB.out hlt ?_; first | (with_reducible exact Below.drew HBEL.out) | (with_reducible exact held_on (by assumption) (by assumption)) | (with_reducible exact And.left (by assumption))))
          (first | (go_at_call 32; refine (eqFelt_same (R k) _).mono ?_; rintro e w1 ⟨rfl, hb1⟩))
        all_goals (go_wp2; go_meet; case rel => exact ⟨rfl, And.left (by assumption)⟩)
      case rest =>
        obtain ⟨rfl, hb3⟩ := hcut
        have HB3 : Hid (Below w.heap.size w wc) := hb3
        clear hb3
        go_wp2
        go_roundw
        case rel => exact ⟨k + 1, by omega, by go_num, HB3.out⟩
        case measure => simp [intOf]; omega
    · have ek : k = n := by omega
      subst ek
      go_wp2
      go_ret
      exact ⟨rfl, HBEL.out⟩

theorem eqFeltS_none (aa ab : Option Addr) (ca cb : Nat) (w : World) :
    Calls Try.prog 12 #[.slice aa 0 ca, .slice ab 0 cb] w fun e w' => e = .returned (.bool true) ∧ w' = w := by
  go_enter Try.func12, Try.ntmps12
  go_wp2_with fail
  refine wp_loop_rounds 1 ?_
  rw [rounds_succ]
  go_wp2
  go_ret
  exact ⟨rfl, rfl⟩

theorem setFelt {w : World} {g n : Nat} {C : Nat → Nat → Value} (h0 : Row w g 5 n C) (k : Nat) (hk : k < n) (v0 v1 v2 v3 v4 : Value) :
    Row (((((w.setCell ⟨g, k * 5, none⟩ v0).setCell ⟨g, k * 5 + 1, none⟩ v1).setCell ⟨g, k * 5 + 2, none⟩ v2).setCell ⟨g, k * 5 + 3, none⟩ v3).setCell ⟨g, k * 5 + 4, none⟩ v4) g 5 n (fun i j => if i = k then (if j = 0 then v0 else if j = 1 then v1 else if j = 2 then v2 else if j = 3 then v3 else v4) else C i j) := by
  have h1 := h0.set k 0 hk (by omega) v0
  have h2 := h1.set k 1 hk (by omega) v1
  have h3 := h2.set k 2 hk (by omega) v2
  have h4 := h3.set k 3 hk (by omega) v3
  have h5 := h4.set k 4 hk (by omega) v4
  refine h5.congr fun i j hi hj => ?_
  by_cases e : i = k
  · subst e
    simp only [true_and, if_true]
    have : j = 0 ∨ j = 1 ∨ j = 2 ∨ j = 3 ∨ j = 4 := by omega
    rcases this with rfl | rfl | rfl | rfl | rfl <;> simp
  · simp [e]
theorem onlyFelt {w0 w : World} {g : Nat} (h : Only g w0 w) (k : Nat) (v0 v1 v2 v3 v4 : Value) : Only g w0 (((((w.setCell ⟨g, k * 5, none⟩ v0).setCell ⟨g, k * 5 + 1, none⟩ v1).setCell ⟨g, k * 5 + 2, none⟩ v2).setCell ⟨g, k * 5 + 3, none⟩ v3).setCell ⟨g, k * 5 + 4, none⟩ v4) :=
  (((((h.set _ v0).set _ v1).set _ v2).set _ v3).set _ v4)

set_option maxHeartbeats 2000000 in
theorem markFeltS_any (g n cap : Nat) (R : Nat → FD) (k0 : Int) (w : World) (hn : n ≤ 1048576) (h0 : 0 ≤ k0) (h1 : k0 ≤ 1000) (hr : Row w g 5 n (fun i j => feltCell (R i) j)) :
    Calls Try.prog 13 #[.slice (some ⟨g, 0, none⟩) n cap, .int .i64 k0] w fun e w' => e = .returned (.int .i64 (k0 + (n : Int) * 5)) ∧ Row w' g 5 n (fun i j => feltCell (markFelt k0 i) j) ∧ Only g w w' := by
  have HR : Hid (Row w g 5 n (fun i j => feltCell (R i) j)) := hr
  clear hr
  go_enter Try.func13, Try.ntmps13
  go_wp2_with fail
  go_loopw [1, 5] (fun c i wr => ∃ k : Nat, k ≤ n ∧ i = .int .i64 k ∧ c = .int .i64 (k0 + (k : Int) * 5) ∧ Row wr g 5 n (fun i j => feltCell (if i < k then markFelt k0 i else R i) j) ∧ Only g w wr) (fun _ i _ => n - (intOf i).toNat)
  case atStart => exact ⟨0, Nat.zero_le _, rfl, by simp, HR.out.congr (fun i j _ _ => by simp), Only.refl _ _⟩
  case round =>
    obtain ⟨k, hk, rfl, rfl, hrow, honly⟩ := hrel
    have HONLY : Hid (Only g w wr) := honly
    clear honly
    by_cases hlt : k < n
    · have HROW : Hid (Row wr g 5 n (fun i j => feltCell (if i < k then markFelt k0 i else R i) j)) := hrow
      have z0 := hrow.cells k 0 hlt (by omega)
      have z1 := hrow.cells k 1 hlt (by omega)
      have z2 := hrow.cells k 2 hlt (by omega)
      have z3 := hrow.cells k 3 hlt (by omega)
      have z4 := hrow.cells k 4 hlt (by omega)
      have zf := hrow.free
      simp only [Nat.lt_irrefl, if_false, Nat.add_zero, feltCell] at z0 z1 z2 z3 z4
      clear hrow
      go_wp2
      go_roundw
      case rel =>
        refine ⟨k + 1, by omega, by go_num, by go_num, ?_, ?_⟩
        · refine (setFelt HROW.out k hlt _ _ _ _ _).congr fun i j hi' hj' => ?_
          by_cases e1 : i = k
          · subst e1; simp [feltCell, markFelt]
          · have e2 : i < k + 1 ↔ i < k := by omega
            simp [e1, e2]
        · exact onlyFelt HONLY.out k _ _ _ _ _
      case measure => simp [intOf]; omega
    · have ek : k = n := by omega
      subst ek
      have HROW : Hid (Row wr g 5 k (fun i j => feltCell (if i < k then markFelt k0 i else R i) j)) := hrow
      clear hrow
      go_wp2
      go_ret
      exact ⟨rfl, HROW.out.congr (fun i j hi _ => by simp [hi]), HONLY.out⟩

theorem markFeltS_none (ao : Option Addr) (cap : Nat) (k0 : Int) (w : World) :
    Calls Try.prog 13 #[.slice ao 0 cap, .int .i64 k0] w fun e w' => e = .returned (.int .i64 k0) ∧ w' = w := by
  go_enter Try.func13, Try.ntmps13
  go_wp2_with fail
  refine wp_loop_rounds 1 ?_
  rw [rounds_succ]
  go_wp2
  go_ret
  exact ⟨rfl, rfl⟩

end Go.Proofs.Ytcidikmbngflcab
