/-
  eqSaidS, markSaidS, heldSaidS: the laws' helpers over rows of Said. (Written by wip/gen/slices.py.)
-/
import Derived.Test.YtcidikmbngflcaaSlots
import Derived.Test.YtcidikmbngflcaaEqSaid
import Derived.Deep.RegionHeld3
namespace Go.Proofs.Ytcidikmbngflcaa
open Go.ChangeShapes Go.WideShapes Go.ChangeAt Go.RowKit
set_option maxRecDepth 100000
set_option linter.unusedSimpArgs false

/-- What markSaidS writes, counted from k0 on. -/
def markSaid (k0 : Int) (i : Nat) : SD := ⟨((k0 + (i : Int) * 9) % 3 == 0), ⟨(k0 + (i : Int) * 9 + 1), (k0 + (i : Int) * 9 + 1 + 1), (k0 + (i : Int) * 9 + 1 + 1 + 1), ((k0 + (i : Int) * 9 + 1 + 1 + 1 + 1) % 3 == 0)⟩, ((k0 + (i : Int) * 9 + 1 + 1 + 1 + 1 + 1) % 3 == 0), ((k0 + (i : Int) * 9 + 1 + 1 + 1 + 1 + 1 + 1) % 3 == 0), ((k0 + (i : Int) * 9 + 1 + 1 + 1 + 1 + 1 + 1 + 1) % 3 == 0), ((k0 + (i : Int) * 9 + 1 + 1 + 1 + 1 + 1 + 1 + 1 + 1) % 3 == 0)⟩

theorem saidCell_at {w : World} {g n : Nat} {R : Nat → SD} (h : Row w g 9 n (fun i j => saidCell (R i) j)) {i : Nat} (hi : i < n) :
    w.cell? ⟨g, i * 9, none⟩ = some (.bool (R i).ok) ∧ w.cell? ⟨g, i * 9 + 1, none⟩ = some (.int .i64 (R i).g.s) ∧ w.cell? ⟨g, i * 9 + 2, none⟩ = some (.int .i64 (R i).g.i) ∧ w.cell? ⟨g, i * 9 + 3, none⟩ = some (.int .i64 (R i).g.u) ∧ w.cell? ⟨g, i * 9 + 4, none⟩ = some (.bool (R i).g.f) ∧ w.cell? ⟨g, i * 9 + 5, none⟩ = some (.bool (R i).may) ∧ w.cell? ⟨g, i * 9 + 6, none⟩ = some (.bool (R i).red) ∧ w.cell? ⟨g, i * 9 + 7, none⟩ = some (.bool (R i).down) ∧ w.cell? ⟨g, i * 9 + 8, none⟩ = some (.bool (R i).long) :=
  ⟨h.cells i 0 hi (by omega), h.cells i 1 hi (by omega), h.cells i 2 hi (by omega), h.cells i 3 hi (by omega), h.cells i 4 hi (by omega), h.cells i 5 hi (by omega), h.cells i 6 hi (by omega), h.cells i 7 hi (by omega), h.cells i 8 hi (by omega)⟩

theorem eqSaidR_same (d : SD) (w : World) :
    Calls Try.prog 35 #[.agg #[.bool d.ok, .int .i64 d.g.s, .int .i64 d.g.i, .int .i64 d.g.u, .bool d.g.f, .bool d.may, .bool d.red, .bool d.down, .bool d.long], .agg #[.bool d.ok, .int .i64 d.g.s, .int .i64 d.g.i, .int .i64 d.g.u, .bool d.g.f, .bool d.may, .bool d.red, .bool d.down, .bool d.long]] w fun e w' => e = .returned (.bool true) ∧ Below w.heap.size w w' :=
  eqSaid_same _ _ _ _ _ _ _ _ _ w

theorem heldSaid {w w' : World} {ga gb n k : Nat} {R : Nat → SD} (ha : Row w ga 9 n (fun i j => saidCell (R i) j)) (hb : Row w gb 9 n (fun i j => saidCell (R i) j)) (hk : k < n) (h : Below w.heap.size w w') :
    Below w.heap.size w w' ∧ w'.cell? ⟨ga, k * 9, none⟩ = some (.bool (R k).ok) ∧ w'.cell? ⟨ga, k * 9 + 1, none⟩ = some (.int .i64 (R k).g.s) ∧ w'.cell? ⟨ga, k * 9 + 2, none⟩ = some (.int .i64 (R k).g.i) ∧ w'.cell? ⟨ga, k * 9 + 3, none⟩ = some (.int .i64 (R k).g.u) ∧ w'.cell? ⟨ga, k * 9 + 4, none⟩ = some (.bool (R k).g.f) ∧ w'.cell? ⟨ga, k * 9 + 5, none⟩ = some (.bool (R k).may) ∧ w'.cell? ⟨ga, k * 9 + 6, none⟩ = some (.bool (R k).red) ∧ w'.cell? ⟨ga, k * 9 + 7, none⟩ = some (.bool (R k).down) ∧ w'.cell? ⟨ga, k * 9 + 8, none⟩ = some (.bool (R k).long) ∧ w'.cell? ⟨gb, k * 9, none⟩ = some (.bool (R k).ok) ∧ w'.cell? ⟨gb, k * 9 + 1, none⟩ = some (.int .i64 (R k).g.s) ∧ w'.cell? ⟨gb, k * 9 + 2, none⟩ = some (.int .i64 (R k).g.i) ∧ w'.cell? ⟨gb, k * 9 + 3, none⟩ = some (.int .i64 (R k).g.u) ∧ w'.cell? ⟨gb, k * 9 + 4, none⟩ = some (.bool (R k).g.f) ∧ w'.cell? ⟨gb, k * 9 + 5, none⟩ = some (.bool (R k).may) ∧ w'.cell? ⟨gb, k * 9 + 6, none⟩ = some (.bool (R k).red) ∧ w'.cell? ⟨gb, k * 9 + 7, none⟩ = some (.bool (R k).down) ∧ w'.cell? ⟨gb, k * 9 + 8, none⟩ = some (.bool (R k).long) := by
  obtain ⟨a0, a1, a2, a3, a4, a5, a6, a7, a8⟩ := saidCell_at (ha.below h ha.lt) hk
  obtain ⟨b0, b1, b2, b3, b4, b5, b6, b7, b8⟩ := saidCell_at (hb.below h hb.lt) hk
  exact ⟨h, a0, a1, a2, a3, a4, a5, a6, a7, a8, b0, b1, b2, b3, b4, b5, b6, b7, b8⟩

set_option maxHeartbeats 2000000 in
theorem eqSaidS_same (ga gb n ca cb : Nat) (R : Nat → SD) (w : World) (hn : n ≤ 1048576) (ha : Row w ga 9 n (fun i j => saidCell (R i) j)) (hb : Row w gb 9 n (fun i j => saidCell (R i) j)) :
    Calls Try.prog 38 #[.slice (some ⟨ga, 0, none⟩) n ca, .slice (some ⟨gb, 0, none⟩) n cb] w fun e w' => e = .returned (.bool true) ∧ Below w.heap.size w w' := by
  have HA : Hid (Row w ga 9 n (fun i j => saidCell (R i) j)) := ha
  have HB : Hid (Row w gb 9 n (fun i j => saidCell (R i) j)) := hb
  clear ha hb
  have hnn : ((n : Int) != (n : Int)) = false := by simp
  go_enter Try.func38, Try.ntmps38
  go_wp2_with fail
  go_loopw [5] (fun i wr => ∃ k : Nat, k ≤ n ∧ i = .int .i64 k ∧ Below w.heap.size w wr) (fun i _ => n - (intOf i).toNat)
  case atStart => exact ⟨0, Nat.zero_le _, rfl, Below.refl _ _⟩
  case round =>
    obtain ⟨k, hk, rfl, hbel⟩ := hrel
    have HBEL : Hid (Below w.heap.size w wr) := hbel
    clear hbel
    by_cases hlt : k < n
    · have b0 : (0 : Int) ≤ (k : Int) := by omega
      have b1 : (k : Int) < (n : Int) := by omega
      go_upto_region 6 with fail
      go_cut [26] (fun v wd => v = .bool false ∧ Below w.heap.size w wd)
      case first =>
        go_region_held3 (fun w' => Below w.heap.size w w' ∧ w'.cell? ⟨ga, k * 9, none⟩ = some (.bool (R k).ok) ∧ w'.cell? ⟨ga, k * 9 + 1, none⟩ = some (.int .i64 (R k).g.s) ∧ w'.cell? ⟨ga, k * 9 + 2, none⟩ = some (.int .i64 (R k).g.i) ∧ w'.cell? ⟨ga, k * 9 + 3, none⟩ = some (.int .i64 (R k).g.u) ∧ w'.cell? ⟨ga, k * 9 + 4, none⟩ = some (.bool (R k).g.f) ∧ w'.cell? ⟨ga, k * 9 + 5, none⟩ = some (.bool (R k).may) ∧ w'.cell? ⟨ga, k * 9 + 6, none⟩ = some (.bool (R k).red) ∧ w'.cell? ⟨ga, k * 9 + 7, none⟩ = some (.bool (R k).down) ∧ w'.cell? ⟨ga, k * 9 + 8, none⟩ = some (.bool (R k).long) ∧ w'.cell? ⟨gb, k * 9, none⟩ = some (.bool (R k).ok) ∧ w'.cell? ⟨gb, k * 9 + 1, none⟩ = some (.int .i64 (R k).g.s) ∧ w'.cell? ⟨gb, k * 9 + 2, none⟩ = some (.int .i64 (R k).g.i) ∧ w'.cell? ⟨gb, k * 9 + 3, none⟩ = some (.int .i64 (R k).g.u) ∧ w'.cell? ⟨gb, k * 9 + 4, none⟩ = some (.bool (R k).g.f) ∧ w'.cell? ⟨gb, k * 9 + 5, none⟩ = some (.bool (R k).may) ∧ w'.cell? ⟨gb, k * 9 + 6, none⟩ = some (.bool (R k).red) ∧ w'.cell? ⟨gb, k * 9 + 7, none⟩ = some (.bool (R k).down) ∧ w'.cell? ⟨gb, k * 9 + 8, none⟩ = some (.bool (R k).long))
          ((refine heldSaid HA.out HB.out hlt ?_; first | (with_reducible exact Below.drew HBEL.out) | (with_reducible exact held_on (by assumption) (by assumption)) | (with_reducible exact And.left (by assumption))))
          (first | (go_at_call 35; refine (eqSaidR_same (R k) _).mono ?_; rintro e w1 ⟨rfl, hb1⟩))
        all_goals (go_wp2; go_meet; case rel => exact ⟨rfl, And.left (by assumption)⟩)
      case rest =>
        obtain ⟨rfl, hb3⟩ := hcut
        have HB3 : Hid (Below w.heap.size w wc) := hb3
        clear hb3
        go_wp2
        go_roundw
        case rel => exact ⟨k + 1, by omega, by go_num, HB3.out⟩
        case measure => simp [intOf]; omega
    · have ek : k = n := by omega
      subst ek
      go_wp2
      go_ret
      exact ⟨rfl, HBEL.out⟩

theorem eqSaidS_none (aa ab : Option Addr) (ca cb : Nat) (w : World) :
    Calls Try.prog 38 #[.slice aa 0 ca, .slice ab 0 cb] w fun e w' => e = .returned (.bool true) ∧ w' = w := by
  go_enter Try.func38, Try.ntmps38
  go_wp2_with fail
  refine wp_loop_rounds 1 ?_
  rw [rounds_succ]
  go_wp2
  go_ret
  exact ⟨rfl, rfl⟩

theorem setSaid {w : World} {g n : Nat} {C : Nat → Nat → Value} (h0 : Row w g 9 n C) (k : Nat) (hk : k < n) (v0 v1 v2 v3 v4 v5 v6 v7 v8 : Value) :
    Row (((((((((w.setCell ⟨g, k * 9, none⟩ v0).setCell ⟨g, k * 9 + 1, none⟩ v1).setCell ⟨g, k * 9 + 2, none⟩ v2).setCell ⟨g, k * 9 + 3, none⟩ v3).setCell ⟨g, k * 9 + 4, none⟩ v4).setCell ⟨g, k * 9 + 5, none⟩ v5).setCell ⟨g, k * 9 + 6, none⟩ v6).setCell ⟨g, k * 9 + 7, none⟩ v7).setCell ⟨g, k * 9 + 8, none⟩ v8) g 9 n (fun i j => if i = k then (if j = 0 then v0 else if j = 1 then v1 else if j = 2 then v2 else if j = 3 then v3 else if j = 4 then v4 else if j = 5 then v5 else if j = 6 then v6 else if j = 7 then v7 else v8) else C i j) := by
  have h1 := h0.set k 0 hk (by omega) v0
  have h2 := h1.set k 1 hk (by omega) v1
  have h3 := h2.set k 2 hk (by omega) v2
  have h4 := h3.set k 3 hk (by omega) v3
  have h5 := h4.set k 4 hk (by omega) v4
  have h6 := h5.set k 5 hk (by omega) v5
  have h7 := h6.set k 6 hk (by omega) v6
  have h8 := h7.set k 7 hk (by omega) v7
  have h9 := h8.set k 8 hk (by omega) v8
  refine h9.congr fun i j hi hj => ?_
  by_cases e : i = k
  · subst e
    simp only [true_and, if_true]
    have : j = 0 ∨ j = 1 ∨ j = 2 ∨ j = 3 ∨ j = 4 ∨ j = 5 ∨ j = 6 ∨ j = 7 ∨ j = 8 := by omega
    rcases this with rfl | rfl | rfl | rfl | rfl | rfl | rfl | rfl | rfl <;> simp
  · simp [e]
theorem onlySaid {w0 w : World} {g : Nat} (h : Only g w0 w) (k : Nat) (v0 v1 v2 v3 v4 v5 v6 v7 v8 : Value) : Only g w0 (((((((((w.setCell ⟨g, k * 9, none⟩ v0).setCell ⟨g, k * 9 + 1, none⟩ v1).setCell ⟨g, k * 9 + 2, none⟩ v2).setCell ⟨g, k * 9 + 3, none⟩ v3).setCell ⟨g, k * 9 + 4, none⟩ v4).setCell ⟨g, k * 9 + 5, none⟩ v5).setCell ⟨g, k * 9 + 6, none⟩ v6).setCell ⟨g, k * 9 + 7, none⟩ v7).setCell ⟨g, k * 9 + 8, none⟩ v8) :=
  (((((((((h.set _ v0).set _ v1).set _ v2).set _ v3).set _ v4).set _ v5).set _ v6).set _ v7).set _ v8)

set_option maxHeartbeats 2000000 in
theorem markSaidS_any (g n cap : Nat) (R : Nat → SD) (k0 : Int) (w : World) (hn : n ≤ 1048576) (h0 : 0 ≤ k0) (h1 : k0 ≤ 1000) (hr : Row w g 9 n (fun i j => saidCell (R i) j)) :
    Calls Try.prog 41 #[.slice (some ⟨g, 0, none⟩) n cap, .int .i64 k0] w fun e w' => e = .returned (.int .i64 (k0 + (n : Int) * 9)) ∧ Row w' g 9 n (fun i j => saidCell (markSaid k0 i) j) ∧ Only g w w' := by
  have HR : Hid (Row w g 9 n (fun i j => saidCell (R i) j)) := hr
  clear hr
  go_enter Try.func41, Try.ntmps41
  go_wp2_with fail
  go_loopw [1, 5] (fun c i wr => ∃ k : Nat, k ≤ n ∧ i = .int .i64 k ∧ c = .int .i64 (k0 + (k : Int) * 9) ∧ Row wr g 9 n (fun i j => saidCell (if i < k then markSaid k0 i else R i) j) ∧ Only g w wr) (fun _ i _ => n - (intOf i).toNat)
  case atStart => exact ⟨0, Nat.zero_le _, rfl, by simp, HR.out.congr (fun i j _ _ => by simp), Only.refl _ _⟩
  case round =>
    obtain ⟨k, hk, rfl, rfl, hrow, honly⟩ := hrel
    have HONLY : Hid (Only g w wr) := honly
    clear honly
    by_cases hlt : k < n
    · have HROW : Hid (Row wr g 9 n (fun i j => saidCell (if i < k then markSaid k0 i else R i) j)) := hrow
      have z0 := hrow.cells k 0 hlt (by omega)
      have z1 := hrow.cells k 1 hlt (by omega)
      have z2 := hrow.cells k 2 hlt (by omega)
      have z3 := hrow.cells k 3 hlt (by omega)
      have z4 := hrow.cells k 4 hlt (by omega)
      have z5 := hrow.cells k 5 hlt (by omega)
      have z6 := hrow.cells k 6 hlt (by omega)
      have z7 := hrow.cells k 7 hlt (by omega)
      have z8 := hrow.cells k 8 hlt (by omega)
      have zf := hrow.free
      simp only [Nat.lt_irrefl, if_false, Nat.add_zero, saidCell] at z0 z1 z2 z3 z4 z5 z6 z7 z8
      clear hrow
      go_wp2
      go_roundw
      case rel =>
        refine ⟨k + 1, by omega, by go_num, by go_num, ?_, ?_⟩
        · refine (setSaid HROW.out k hlt _ _ _ _ _ _ _ _ _).congr fun i j hi' hj' => ?_
          by_cases e1 : i = k
          · subst e1; simp [saidCell, markSaid]
          · have e2 : i < k + 1 ↔ i < k := by omega
            simp [e1, e2]
        · exact onlySaid HONLY.out k _ _ _ _ _ _ _ _ _
      case measure => simp [intOf]; omega
    · have ek : k = n := by omega
      subst ek
      have HROW : Hid (Row wr g 9 k (fun i j => saidCell (if i < k then markSaid k0 i else R i) j)) := hrow
      clear hrow
      go_wp2
      go_ret
      exact ⟨rfl, HROW.out.congr (fun i j hi _ => by simp [hi]), HONLY.out⟩

theorem markSaidS_none (ao : Option Addr) (cap : Nat) (k0 : Int) (w : World) :
    Calls Try.prog 41 #[.slice ao 0 cap, .int .i64 k0] w fun e w' => e = .returned (.int .i64 k0) ∧ w' = w := by
  go_enter Try.func41, Try.ntmps41
  go_wp2_with fail
  refine wp_loop_rounds 1 ?_
  rw [rounds_succ]
  go_wp2
  go_ret
  exact ⟨rfl, rfl⟩

set_option maxHeartbeats 2000000 in
theorem heldSaidS_any (g n cap : Nat) (k0 : Int) (w : World) (hn : n ≤ 1048576) (h0 : 0 ≤ k0) (h1 : k0 ≤ 1000) (hr : Row w g 9 n (fun i j => saidCell (markSaid k0 i) j)) :
    Calls Try.prog 42 #[.slice (some ⟨g, 0, none⟩) n cap, .int .i64 k0] w fun e w' => e = .returned (.int .i64 (k0 + (n : Int) * 9)) ∧ w' = w := by
  have HR : Hid (Row w g 9 n (fun i j => saidCell (markSaid k0 i) j)) := hr
  clear hr
  go_enter Try.func42, Try.ntmps42
  go_wp2_with fail
  go_loop [1, 5] (fun c i => ∃ k : Nat, k ≤ n ∧ i = .int .i64 k ∧ c = .int .i64 (k0 + (k : Int) * 9)) (fun _ i => n - (intOf i).toNat)
  case atStart => exact ⟨0, Nat.zero_le _, rfl, by simp⟩
  case round =>
    obtain ⟨k, hk, rfl, rfl⟩ := hrel
    by_cases hlt : k < n
    · obtain ⟨z0, z1, z2, z3, z4, z5, z6, z7, z8⟩ := saidCell_at HR.out hlt
      simp only [markSaid] at z0 z1 z2 z3 z4 z5 z6 z7 z8
      go_wp2
      go_round
      case rel => exact ⟨k + 1, by omega, by go_num, by go_num⟩
      case measure => simp [intOf]; omega
    · have ek : k = n := by omega
      subst ek
      go_wp2
      go_ret
      exact ⟨rfl, rfl⟩

theorem heldSaidS_none (ao : Option Addr) (cap : Nat) (k0 : Int) (w : World) :
    Calls Try.prog 42 #[.slice ao 0 cap, .int .i64 k0] w fun e w' => e = .returned (.int .i64 k0) ∧ w' = w := by
  go_enter Try.func42, Try.ntmps42
  go_wp2_with fail
  refine wp_loop_rounds 1 ?_
  rw [rounds_succ]
  go_wp2
  go_ret
  exact ⟨rfl, rfl⟩

end Go.Proofs.Ytcidikmbngflcaa
