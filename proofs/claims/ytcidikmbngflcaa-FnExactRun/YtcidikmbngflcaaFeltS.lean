/-
  laws.toFeltS.
-/
import Derived.Test.YtcidikmbngflcaaRow
import Derived.Test.YtcidikmbngflcaaToF
namespace Go.Proofs.Ytcidikmbngflcaa
open Go.ChangeShapes Go.WideShapes Go.ChangeAt Go.RowKit
set_option maxRecDepth 100000

theorem Try.infoF : (Try.prog.info? 62).map (fun i => (i.zero, i.size, i.bytes)) = some (some (.agg #[.bool false, .bool false, .bool false, .int .i64 0, .bool false]), 5, 24) := by kernel_rfl

set_option maxHeartbeats 1000000 in
theorem toFeltS_some (b o len cap : Nat) (F : Nat → FD) (w : World) (hpos : 0 < len) (hlen : len ≤ 1048576) (hb : b < w.heap.size)
    (hc : ∀ i, i < len → w.cell? ⟨b, o + i * 5, none⟩ = some (.bool (F i).x) ∧ w.cell? ⟨b, o + i * 5 + 1, none⟩ = some (.bool (F i).n) ∧ w.cell? ⟨b, o + i * 5 + 2, none⟩ = some (.bool (F i).o) ∧
      w.cell? ⟨b, o + i * 5 + 3, none⟩ = some (.int .i64 (F i).b) ∧ w.cell? ⟨b, o + i * 5 + 4, none⟩ = some (.bool (F i).m)) :
    Calls Try.prog 37 #[.slice (some ⟨b, o, none⟩) len cap] w fun e w' => e = .returned (.slice (some ⟨w.heap.size, 0, none⟩) len len) ∧ Row w' w.heap.size 5 len (feltC F) ∧ Below w.heap.size w w' := by
  obtain ⟨i0, hi, hz0, hz1, hz2⟩ := info_parts Try.infoF
  go_enter Try.func37, Try.ntmps37
  go_wp2_with (at_make; refine wpList_make_full _ rfl _ _ 41 rfl w.heap.size 62 i0 _ 5 Try.underlying41 hi hz0 hz1 _ _ _ _ len rfl rfl rfl rfl (by rw [hz2]; omega) (by unfold maxLen; omega) (Nat.le_refl _) ?_; intro w1 hown hgrow)
  have hs1 := hgrow.size
  have hlt1 : w.heap.size < w1.heap.size := (hown.lt w.heap.size rfl).2
  have HR1 : Hid (Row w1 w.heap.size 5 len (fun _ j => (#[.bool false, .bool false, .bool false, .int .i64 0, .bool false] : Array Value)[j]!)) := row_made rfl hown hlt1
  have HB1 : Hid (Below w.heap.size w w1) := (Below.refl _ _).grown hgrow (Nat.le_refl _) (fun k e => by cases e)
  have HC : Hid (∀ i, i < len → w.cell? ⟨b, o + i * 5, none⟩ = some (.bool (F i).x) ∧ w.cell? ⟨b, o + i * 5 + 1, none⟩ = some (.bool (F i).n) ∧ w.cell? ⟨b, o + i * 5 + 2, none⟩ = some (.bool (F i).o) ∧
      w.cell? ⟨b, o + i * 5 + 3, none⟩ = some (.int .i64 (F i).b) ∧ w.cell? ⟨b, o + i * 5 + 4, none⟩ = some (.bool (F i).m)) := hc
  clear hc hown hgrow hs1 hlt1
  go_loopw [4] (fun i wr => ∃ k : Nat, k ≤ len ∧ i = .int .i64 k ∧ Row wr w.heap.size 5 len (fun i j => if i < k then feltC F i j else (#[.bool false, .bool false, .bool false, .int .i64 0, .bool false] : Array Value)[j]!) ∧ Below w.heap.size w wr)
    (fun i _ => len - (intOf i).toNat)
  case atStart => exact ⟨0, Nat.zero_le _, rfl, HR1.out.congr (fun i j _ _ => by simp), HB1.out⟩
  case round =>
    obtain ⟨k, hk, rfl, hrow, hbel⟩ := hrel
    by_cases hlt : k < len
    · obtain ⟨h0, h1, h2, h3, h4⟩ := HC.out k hlt
      have c0 := (hbel.cell (p := ⟨b, o + k * 5, none⟩) hb).trans h0
      have c1 := (hbel.cell (p := ⟨b, o + k * 5 + 1, none⟩) hb).trans h1
      have c2 := (hbel.cell (p := ⟨b, o + k * 5 + 2, none⟩) hb).trans h2
      have c3 := (hbel.cell (p := ⟨b, o + k * 5 + 3, none⟩) hb).trans h3
      have c4 := (hbel.cell (p := ⟨b, o + k * 5 + 4, none⟩) hb).trans h4
      clear h0 h1 h2 h3 h4
      have HROW : Hid (Row wr w.heap.size 5 len (fun i j => if i < k then feltC F i j else (#[.bool false, .bool false, .bool false, .int .i64 0, .bool false] : Array Value)[j]!)) := hrow
      have HBEL : Hid (Below w.heap.size w wr) := hbel
      clear hrow hbel
      have HV : Hid (fV (F k).x (F k).n (F k).o (F k).b (F k).m = .agg #[.bool (F k).x, .bool (F k).n, .bool (F k).o, .int .i64 (F k).b, .bool (F k).m]) := rfl
      go_wp2_with fail
      rw [← HV.out]
      refine (toFelt_any (F k).x (F k).n (F k).o (F k).b (F k).m wr).mono ?_
      rintro e w2 ⟨rfl, hb2⟩
      have hrow2 := HROW.out.below hb2 HROW.out.lt
      have z0 := hrow2.cells k 0 hlt (by omega)
      have z1 := hrow2.cells k 1 hlt (by omega)
      have z2 := hrow2.cells k 2 hlt (by omega)
      have z3 := hrow2.cells k 3 hlt (by omega)
      have z4 := hrow2.cells k 4 hlt (by omega)
      have zf := hrow2.free
      simp only [Nat.lt_irrefl, if_false, Nat.add_zero] at z0 z1 z2 z3 z4
      have HROW2 : Hid (Row w2 w.heap.size 5 len (fun i j => if i < k then feltC F i j else (#[.bool false, .bool false, .bool false, .int .i64 0, .bool false] : Array Value)[j]!)) := hrow2
      have HBEL2 : Hid (Below w.heap.size w w2) := HBEL.out.trans (hb2.mono HBEL.out.size)
      clear hrow2 hb2 c0 c1 c2 c3 c4
      rw [HV.out]
      go_wp2
      go_roundw
      case rel =>
        refine ⟨k + 1, by omega, by go_num, ?_, below5 HBEL2.out (Nat.le_refl _) _ _ _ _ _ _ _ _ _ _⟩
        refine (HROW2.out.set5 k hlt _ _ _ _ _).congr fun i j hi' hj' => ?_
        by_cases e1 : i = k
        · subst e1; simp [feltC]
        · have e2 : i < k + 1 ↔ i < k := by omega
          simp [e1, e2]
      case measure => simp [intOf]; omega
    · have e1 : k = len := by omega
      subst e1
      have HROW : Hid (Row wr w.heap.size 5 k (fun i j => if i < k then feltC F i j else (#[.bool false, .bool false, .bool false, .int .i64 0, .bool false] : Array Value)[j]!)) := hrow
      have HBEL : Hid (Below w.heap.size w wr) := hbel
      clear hrow hbel
      go_wp2
      go_ret
      exact ⟨rfl, HROW.out.congr (fun i j hi' _ => by simp [hi']), HBEL.out⟩

set_option maxHeartbeats 400000 in
theorem toFeltS_none (ao : Option Addr) (cap : Nat) (w : World) :
    Calls Try.prog 37 #[.slice ao 0 cap] w fun e w' => e = .returned (.slice (some ⟨w.heap.size, 0, none⟩) 0 0) ∧ Below w.heap.size w w' := by
  obtain ⟨i0, hi, hz0, hz1, hz2⟩ := info_parts Try.infoF
  go_enter Try.func37, Try.ntmps37
  go_wp2_with (at_make; refine wpList_make_full _ rfl _ _ 41 rfl w.heap.size 62 i0 _ 5 Try.underlying41 hi hz0 hz1 _ _ _ _ 0 rfl rfl rfl rfl (by rw [hz2]; omega) (by unfold maxLen; omega) (Nat.le_refl _) ?_; intro w1 hown hgrow)
  have HB1 : Hid (Below w.heap.size w w1) := (Below.refl _ _).grown hgrow (Nat.le_refl _) (fun k e => by cases e)
  clear hown hgrow
  refine wp_loop_rounds 1 ?_
  rw [rounds_succ]
  go_wp2
  go_ret
  exact ⟨rfl, HB1.out⟩

theorem szFeltS_any (ao : Option Addr) (len cap : Nat) (l : Int) (w : World) (h0 : 0 ≤ l) (h1 : l ≤ 1048576) (hm : len ≤ maxLen) :
    Calls Try.prog 36 #[.slice ao len cap, .int .i64 l] w fun e w' => e = .returned (.int .i64 (if l < (len : Int) then -1 else l - (len : Int))) ∧ w' = w := by
  unfold maxLen at hm
  by_cases h : l < (len : Int)
  · rw [if_pos h]
    go_enter Try.func36, Try.ntmps36
    go_wp2
    go_ret
    exact ⟨rfl, rfl⟩
  · rw [if_neg h]
    go_enter Try.func36, Try.ntmps36
    go_wp2
    go_ret
    exact ⟨rfl, rfl⟩

end Go.Proofs.Ytcidikmbngflcaa
