/-
  eqWaitS, markWaitS, heldWaitS: the laws' helpers over rows of Wait. (Written by wip/gen/slices.py.)
-/
import Derived.Test.YtcidikmbngflcabCells
import Derived.Deep.RegionHeld3
namespace Go.Proofs.Ytcidikmbngflcab
open Go.ChangeShapes Go.WideShapes Go.ChangeAt Go.RowKit
set_option maxRecDepth 100000
set_option linter.unusedSimpArgs false

/-- What markWaitS writes, counted from k0 on. -/
def markWait (k0 : Int) (i : Nat) : WD := ⟨(k0 + (i : Int) * 3), (k0 + (i : Int) * 3 + 1), ((k0 + (i : Int) * 3 + 1 + 1) % 3 == 0)⟩

set_option maxHeartbeats 1000000 in
theorem eqWait_same (d : WD) (w : World) :
    Calls Try.prog 31 #[.agg #[.int .i64 d.fr, .int .i64 d.tt, .bool d.us], .agg #[.int .i64 d.fr, .int .i64 d.tt, .bool d.us]] w fun e w' => e = .returned (.bool true) ∧ Below w.heap.size w w' := by
  have h0 : (d.fr != d.fr) = false := by simp
  have h1 : (d.tt != d.tt) = false := by simp
  have h2 : (d.us != d.us) = false := by simp
  go_enter Try.func31, Try.ntmps31
  go_wp2
  go_ret
  exact ⟨rfl, ((Below.refl _ _).alloc (Nat.le_refl _) _).alloc (by simp) _⟩

theorem heldWait {w w' : World} {ga gb n k : Nat} {R : Nat → WD} (ha : Row w ga 3 n (fun i j => waitCell (R i) j)) (hb : Row w gb 3 n (fun i j => waitCell (R i) j)) (hk : k < n) (h : Below w.heap.size w w') :
    Below w.heap.size w w' ∧ w'.cell? ⟨ga, k * 3, none⟩ = some (.int .i64 (R k).fr) ∧ w'.cell? ⟨ga, k * 3 + 1, none⟩ = some (.int .i64 (R k).tt) ∧ w'.cell? ⟨ga, k * 3 + 2, none⟩ = some (.bool (R k).us) ∧ w'.cell? ⟨gb, k * 3, none⟩ = some (.int .i64 (R k).fr) ∧ w'.cell? ⟨gb, k * 3 + 1, none⟩ = some (.int .i64 (R k).tt) ∧ w'.cell? ⟨gb, k * 3 + 2, none⟩ = some (.bool (R k).us) := by
  obtain ⟨a0, a1, a2⟩ := waitCell_at (ha.below h ha.lt) hk
  obtain ⟨b0, b1, b2⟩ := waitCell_at (hb.below h hb.lt) hk
  exact ⟨h, a0, a1, a2, b0, b1, b2⟩

set_option maxHeartbeats 2000000 in
theorem eqWaitS_same (ga gb n ca cb : Nat) (R : Nat → WD) (w : World) (hn : n ≤ 1048576) (ha : Row w ga 3 n (fun i j => waitCell (R i) j)) (hb : Row w gb 3 n (fun i j => waitCell (R i) j)) :
    Calls Try.prog 11 #[.slice (some ⟨ga, 0, none⟩) n ca, .slice (some ⟨gb, 0, none⟩) n cb] w fun e w' => e = .returned (.bool true) ∧ Below w.heap.size w w' := by
  have HA : Hid (Row w ga 3 n (fun i j => waitCell (R i) j)) := ha
  have HB : Hid (Row w gb 3 n (fun i j => waitCell (R i) j)) := hb
  clear ha hb
  have hnn : ((n : Int) != (n : Int)) = false := by simp
  go_enter Try.func11, Try.ntmps11
  go_wp2_with fail
  go_loopw [5] (fun i wr => ∃ k : Nat, k ≤ n ∧ i = .int .i64 k ∧ Below w.heap.size w wr) (fun i _ => n - (intOf i).toNat)
  case atStart => exact ⟨0, Nat.zero_le _, rfl, Below.refl _ _⟩
  case round =>
    obtain ⟨k, hk, rfl, hbel⟩ := hrel
    have HBEL : Hid (Below w.heap.size w wr) := hbel
    clear hbel
    by_cases hlt : k < n
    · have b0 : (0 : Int) ≤ (k : Int) := by omega
      have b1 : (k : Int) < (n : Int) := by omega
      go_upto_region 6 with fail
      go_cut [26] (fun v wd => v = .bool false ∧ Below w.heap.size w wd)
      case first =>
        go_region_held3 (fun w' => Below w.heap.size w w' ∧ w'.cell? ⟨ga, k * 3, none⟩ = some (.int .i64 (R k).fr) ∧ w'.cell? ⟨ga, k * 3 + 1, none⟩ = some (.int .i64 (R k).tt) ∧ w'.cell? ⟨ga, k * 3 + 2, none⟩ = some (.bool (R k).us) ∧ w'.cell? ⟨gb, k * 3, none⟩ = some (.int .i64 (R k).fr) ∧ w'.cell? ⟨gb, k * 3 + 1, none⟩ = some (.int .i64 (R k).tt) ∧ w'.cell? ⟨gb, k * 3 + 2, none⟩ = some (.bool (R k).us))
          ((refine heldWait HA.out HB.out hlt ?_; first | (with_reducible exact Below.drew HBEL.out) | (with_reducible exact held_on (by assumption) (by assumption)) | (with_reducible exact And.left (by assumption))))
          (first | (go_at_call 31; refine (eqWait_same (R k) _).mono ?_; rintro e w1 ⟨rfl, hb1⟩))
        all_goals (go_wp2; go_meet; case rel => exact ⟨rfl, And.left (by assumption)⟩)
      case rest =>
        obtain ⟨rfl, hb3⟩ := hcut
        have HB3 : Hid (Below w.heap.size w wc) := hb3
        clear hb3
        go_wp2
        go_roundw
        case rel => exact ⟨k + 1, by omega, by go_num, HB3.out⟩
        case measure => simp [intOf]; omega
    · have ek : k = n := by omega
      subst ek
      go_wp2
      go_ret
      exact ⟨rfl, HBEL.out⟩

theorem eqWaitS_none (aa ab : Option Addr) (ca cb : Nat) (w : World) :
    Calls Try.prog 11 #[.slice aa 0 ca, .slice ab 0 cb] w fun e w' => e = .returned (.bool true) ∧ w' = w := by
  go_enter Try.func11, Try.ntmps11
  go_wp2_with fail
  refine wp_loop_rounds 1 ?_
  rw [rounds_succ]
  go_wp2
  go_ret
  exact ⟨rfl, rfl⟩

theorem setWait {w : World} {g n : Nat} {C : Nat → Nat → Value} (h0 : Row w g 3 n C) (k : Nat) (hk : k < n) (v0 v1 v2 : Value) :
    Row (((w.setCell ⟨g, k * 3, none⟩ v0).setCell ⟨g, k * 3 + 1, none⟩ v1).setCell ⟨g, k * 3 + 2, none⟩ v2) g 3 n (fun i j => if i = k then (if j = 0 then v0 else if j = 1 then v1 else v2) else C i j) := by
  have h1 := h0.set k 0 hk (by omega) v0
  have h2 := h1.set k 1 hk (by omega) v1
  have h3 := h2.set k 2 hk (by omega) v2
  refine h3.congr fun i j hi hj => ?_
  by_cases e : i = k
  · subst e
    simp only [true_and, if_true]
    have : j = 0 ∨ j = 1 ∨ j = 2 := by omega
    rcases this with rfl | rfl | rfl <;> simp
  · simp [e]
theorem onlyWait {w0 w : World} {g : Nat} (h : Only g w0 w) (k : Nat) (v0 v1 v2 : Value) : Only g w0 (((w.setCell ⟨g, k * 3, none⟩ v0).setCell ⟨g, k * 3 + 1, none⟩ v1).setCell ⟨g, k * 3 + 2, none⟩ v2) :=
  (((h.set _ v0).set _ v1).set _ v2)

set_option maxHeartbeats 2000000 in
theorem markWaitS_any (g n cap : Nat) (R : Nat → WD) (k0 : Int) (w : World) (hn : n ≤ 1048576) (h0 : 0 ≤ k0) (h1 : k0 ≤ 1000) (hr : Row w g 3 n (fun i j => waitCell (R i) j)) :
    Calls Try.prog 14 #[.slice (some ⟨g, 0, none⟩) n cap, .int .i64 k0] w fun e w' => e = .returned (.int .i64 (k0 + (n : Int) * 3)) ∧ Row w' g 3 n (fun i j => waitCell (markWait k0 i) j) ∧ Only g w w' := by
  have HR : Hid (Row w g 3 n (fun i j => waitCell (R i) j)) := hr
  clear hr
  go_enter Try.func14, Try.ntmps14
  go_wp2_with fail
  go_loopw [1, 5] (fun c i wr => ∃ k : Nat, k ≤ n ∧ i = .int .i64 k ∧ c = .int .i64 (k0 + (k : Int) * 3) ∧ Row wr g 3 n (fun i j => waitCell (if i < k then markWait k0 i else R i) j) ∧ Only g w wr) (fun _ i _ => n - (intOf i).toNat)
  case atStart => exact ⟨0, Nat.zero_le _, rfl, by simp, HR.out.congr (fun i j _ _ => by simp), Only.refl _ _⟩
  case round =>
    obtain ⟨k, hk, rfl, rfl, hrow, honly⟩ := hrel
    have HONLY : Hid (Only g w wr) := honly
    clear honly
    by_cases hlt : k < n
    · have HROW : Hid (Row wr g 3 n (fun i j => waitCell (if i < k then markWait k0 i else R i) j)) := hrow
      have z0 := hrow.cells k 0 hlt (by omega)
      have z1 := hrow.cells k 1 hlt (by omega)
      have z2 := hrow.cells k 2 hlt (by omega)
      have zf := hrow.free
      simp only [Nat.lt_irrefl, if_false, Nat.add_zero, waitCell] at z0 z1 z2
      clear hrow
      go_wp2
      go_roundw
      case rel =>
        refine ⟨k + 1, by omega, by go_num, by go_num, ?_, ?_⟩
        · refine (setWait HROW.out k hlt _ _ _).congr fun i j hi' hj' => ?_
          by_cases e1 : i = k
          · subst e1; simp [waitCell, markWait]
          · have e2 : i < k + 1 ↔ i < k := by omega
            simp [e1, e2]
        · exact onlyWait HONLY.out k _ _ _
      case measure => simp [intOf]; omega
    · have ek : k = n := by omega
      subst ek
      have HROW : Hid (Row wr g 3 k (fun i j => waitCell (if i < k then markWait k0 i else R i) j)) := hrow
      clear hrow
      go_wp2
      go_ret
      exact ⟨rfl, HROW.out.congr (fun i j hi _ => by simp [hi]), HONLY.out⟩

theorem markWaitS_none (ao : Option Addr) (cap : Nat) (k0 : Int) (w : World) :
    Calls Try.prog 14 #[.slice ao 0 cap, .int .i64 k0] w fun e w' => e = .returned (.int .i64 k0) ∧ w' = w := by
  go_enter Try.func14, Try.ntmps14
  go_wp2_with fail
  refine wp_loop_rounds 1 ?_
  rw [rounds_succ]
  go_wp2
  go_ret
  exact ⟨rfl, rfl⟩

set_option maxHeartbeats 2000000 in
theorem heldWaitS_any (g n cap : Nat) (k0 : Int) (w : World) (hn : n ≤ 1048576) (h0 : 0 ≤ k0) (h1 : k0 ≤ 1000) (hr : Row w g 3 n (fun i j => waitCell (markWait k0 i) j)) :
    Calls Try.prog 15 #[.slice (some ⟨g, 0, none⟩) n cap, .int .i64 k0] w fun e w' => e = .returned (.int .i64 (k0 + (n : Int) * 3)) ∧ w' = w := by
  have HR : Hid (Row w g 3 n (fun i j => waitCell (markWait k0 i) j)) := hr
  clear hr
  go_enter Try.func15, Try.ntmps15
  go_wp2_with fail
  go_loop [1, 5] (fun c i => ∃ k : Nat, k ≤ n ∧ i = .int .i64 k ∧ c = .int .i64 (k0 + (k : Int) * 3)) (fun _ i => n - (intOf i).toNat)
  case atStart => exact ⟨0, Nat.zero_le _, rfl, by simp⟩
  case round =>
    obtain ⟨k, hk, rfl, rfl⟩ := hrel
    by_cases hlt : k < n
    · obtain ⟨z0, z1, z2⟩ := waitCell_at HR.out hlt
      simp only [markWait] at z0 z1 z2
      go_wp2
      go_round
      case rel => exact ⟨k + 1, by omega, by go_num, by go_num⟩
      case measure => simp [intOf]; omega
    · have ek : k = n := by omega
      subst ek
      go_wp2
      go_ret
      exact ⟨rfl, rfl⟩

theorem heldWaitS_none (ao : Option Addr) (cap : Nat) (k0 : Int) (w : World) :
    Calls Try.prog 15 #[.slice ao 0 cap, .int .i64 k0] w fun e w' => e = .returned (.int .i64 k0) ∧ w' = w := by
  go_enter Try.func15, Try.ntmps15
  go_wp2_with fail
  refine wp_loop_rounds 1 ?_
  rw [rounds_succ]
  go_wp2
  go_ret
  exact ⟨rfl, rfl⟩

end Go.Proofs.Ytcidikmbngflcab
