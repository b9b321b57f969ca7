/-
  impl's rules of a tick, the table of them, become, shown, say.
-/
import Derived.Test.YtcidikmbngflcaaRules
import Derived.Deep.QuietTactic
import Derived.Laws.EntriesVeiled
namespace Go.Proofs.Ytcidikmbngflcaa
open Go.ChangeShapes Go.WideShapes Go.ChangeAt Go.RowKit
set_option maxRecDepth 100000

/-- A state, as the value behind impl's interface. -/
def stV (k : Int) : Value :=
  if k = 0 then .iface 158 (.agg #[]) else if k = 1 then .iface 157 (.agg #[]) else if k = 2 then .iface 159 (.agg #[])
  else if k = 3 then .iface 160 (.agg #[]) else .iface 161 (.agg #[])
theorem stV_0 : .iface 158 (.agg #[]) = stV 0 := by simp [stV]
theorem stV_1 : .iface 157 (.agg #[]) = stV 1 := by simp [stV]
theorem stV_2 : .iface 159 (.agg #[]) = stV 2 := by simp [stV]
theorem stV_3 : .iface 160 (.agg #[]) = stV 3 := by simp [stV]
theorem stV_4 : .iface 161 (.agg #[]) = stV 4 := by simp [stV]
theorem ret_pair {v v' : Value} {f f' : Bool} (h : v = v') (h2 : f = f') : Ending.returned (.tuple #[v, .bool f]) = .returned (.tuple #[v', .bool f']) := by rw [h, h2]
theorem below_drawn {B : Nat} {w w' : World} (h : Below B w w') (n : Nat) : Below B w (w'.drewN n) := h.trans ⟨rfl, rfl, rfl, Nat.le_refl _, fun _ _ => rfl⟩

set_option maxHeartbeats 1000000 in
theorem whenUp_any (a b c d i u : Int) (f x n o : Bool) (br : Int) (m : Bool) (w : World) :
    Calls Try.prog 78 #[tV a b c d, gV 0 i u f, fV x n o br m] w fun e w' => e = .returned (.tuple #[stV (nextS 0 a c i (x || n || o) br), .bool (nextF 0 b i br)]) ∧ Below w.heap.size w w' := by
  generalize hR : Ending.returned (.tuple #[stV (nextS 0 a c i (x || n || o) br), .bool (nextF 0 b i br)]) = R
  have HR : Hid (Ending.returned (.tuple #[stV (nextS 0 a c i (x || n || o) br), .bool (nextF 0 b i br)]) = R) := hR
  clear hR
  have HF : Hid (fV x n o br m = .agg #[.bool x, .bool n, .bool o, .int .i64 br, .bool m]) := rfl
  rw [HF.out]
  unfold tV gV
  go_enter Try.func78, Try.ntmps78
  go_wp2_with fail
  rw [← HF.out]
  refine (wanted_any x n o br m _).mono ?_
  rintro e w1 ⟨rfl, hb1⟩
  have HB : Hid (Below w.heap.size w w1) := (below3 _ _ _ _).trans (hb1.mono (by simp; omega))
  clear hb1
  have HN : Hid ((br != 0) = nextF 0 b i br) := hid (by simp [nextF])
  cases hw : (x || n || o)
  · have HV : Hid (.iface 158 (.agg #[]) = stV (nextS 0 a c i (x || n || o) br)) := hid (by rw [hw, stV_0]; simp [nextS])
    go_wp2
    go_ret2
    exact ⟨(ret_pair HV.out HN.out).trans HR.out, HB.out⟩
  · have HV : Hid (.iface 157 (.agg #[]) = stV (nextS 0 a c i (x || n || o) br)) := hid (by rw [hw, stV_1]; simp [nextS])
    go_wp2
    go_ret2
    exact ⟨(ret_pair HV.out HN.out).trans HR.out, HB.out⟩

set_option maxHeartbeats 1000000 in
theorem whenWarning_any (a b c d i u : Int) (f x n o : Bool) (br : Int) (m : Bool) (w : World) :
    Calls Try.prog 79 #[tV a b c d, gV 1 i u f, fV x n o br m] w fun e w' => e = .returned (.tuple #[stV (nextS 1 a c i (x || n || o) br), .bool (nextF 1 b i br)]) ∧ Below w.heap.size w w' := by
  generalize hR : Ending.returned (.tuple #[stV (nextS 1 a c i (x || n || o) br), .bool (nextF 1 b i br)]) = R
  have HR : Hid (Ending.returned (.tuple #[stV (nextS 1 a c i (x || n || o) br), .bool (nextF 1 b i br)]) = R) := hR
  clear hR
  have HF : Hid (fV x n o br m = .agg #[.bool x, .bool n, .bool o, .int .i64 br, .bool m]) := rfl
  rw [HF.out]
  unfold tV gV
  have HN : Hid (false = nextF 1 b i br) := hid (by simp [nextF])
  by_cases hai : a ≤ i
  · have HV : Hid (.iface 159 (.agg #[]) = stV (nextS 1 a c i (x || n || o) br)) := hid (by rw [stV_2]; simp [nextS, hai])
    go_enter Try.func79, Try.ntmps79
    go_wp2
    go_ret2
    exact ⟨(ret_pair HV.out HN.out).trans HR.out, below3 _ _ _ _⟩
  · have HV : Hid (.iface 157 (.agg #[]) = stV (nextS 1 a c i (x || n || o) br)) := hid (by rw [stV_1]; simp [nextS, hai])
    go_enter Try.func79, Try.ntmps79
    go_wp2
    go_ret2
    exact ⟨(ret_pair HV.out HN.out).trans HR.out, below3 _ _ _ _⟩

set_option maxHeartbeats 1000000 in
theorem whenClosing_any (a b c d i u : Int) (f x n o : Bool) (br : Int) (m : Bool) (w : World) :
    Calls Try.prog 80 #[tV a b c d, gV 2 i u f, fV x n o br m] w fun e w' => e = .returned (.tuple #[stV (nextS 2 a c i (x || n || o) br), .bool (nextF 2 b i br)]) ∧ Below w.heap.size w w' := by
  generalize hR : Ending.returned (.tuple #[stV (nextS 2 a c i (x || n || o) br), .bool (nextF 2 b i br)]) = R
  have HR : Hid (Ending.returned (.tuple #[stV (nextS 2 a c i (x || n || o) br), .bool (nextF 2 b i br)]) = R) := hR
  clear hR
  have HF : Hid (fV x n o br m = .agg #[.bool x, .bool n, .bool o, .int .i64 br, .bool m]) := rfl
  rw [HF.out]
  unfold tV gV
  by_cases hb2 : br = 2
  · have hbr : (br == 2) = true := by simp [hb2]
    have HN : Hid (false = nextF 2 b i br) := hid (by simp [nextF, hb2])
    have HV : Hid (.iface 160 (.agg #[]) = stV (nextS 2 a c i (x || n || o) br)) := hid (by rw [stV_3]; simp [nextS, hb2])
    clear hb2
    go_enter Try.func80, Try.ntmps80
    go_wp2
    go_ret2
    exact ⟨(ret_pair HV.out HN.out).trans HR.out, below3 _ _ _ _⟩
  · have hbr : (br == 2) = false := by simp [hb2]
    have HN : Hid (decide (b < i) = nextF 2 b i br) := hid (by simp [nextF, hb2])
    have HV : Hid (.iface 159 (.agg #[]) = stV (nextS 2 a c i (x || n || o) br)) := hid (by rw [stV_2]; simp [nextS, hb2])
    clear hb2
    go_enter Try.func80, Try.ntmps80
    go_wp2
    go_quiet (fail)
    go_wp2
    go_ret2
    exact ⟨(ret_pair HV.out HN.out).trans HR.out, below_drawn (below3 _ _ _ _) _⟩

set_option maxHeartbeats 1000000 in
theorem whenDown_any (a b c d i u : Int) (f x n o : Bool) (br : Int) (m : Bool) (w : World) :
    Calls Try.prog 81 #[tV a b c d, gV 3 i u f, fV x n o br m] w fun e w' => e = .returned (.tuple #[stV (nextS 3 a c i (x || n || o) br), .bool (nextF 3 b i br)]) ∧ Below w.heap.size w w' := by
  generalize hR : Ending.returned (.tuple #[stV (nextS 3 a c i (x || n || o) br), .bool (nextF 3 b i br)]) = R
  have HR : Hid (Ending.returned (.tuple #[stV (nextS 3 a c i (x || n || o) br), .bool (nextF 3 b i br)]) = R) := hR
  clear hR
  have HF : Hid (fV x n o br m = .agg #[.bool x, .bool n, .bool o, .int .i64 br, .bool m]) := rfl
  rw [HF.out]
  unfold tV gV
  by_cases hb2 : br = 2
  · have hbr : (br != 2) = false := by simp [hb2]
    have HN : Hid (false = nextF 3 b i br) := hid (by simp [nextF, hb2])
    have HS : Hid (nextS 3 a c i (x || n || o) br = if (!(x || n || o) && decide (c ≤ i)) = true then 4 else 3) := hid (by simp [nextS, hb2])
    clear hb2
    go_enter Try.func81, Try.ntmps81
    go_wp2_with fail
    rw [← HF.out]
    refine (wanted_any x n o br m _).mono ?_
    rintro e w1 ⟨rfl, hb1⟩
    have HB : Hid (Below w.heap.size w w1) := (below3 _ _ _ _).trans (hb1.mono (by simp; omega))
    obtain ⟨hc, hf⟩ := bcell hb1
    clear hb1 hf
    cases hw : (x || n || o)
    · by_cases hci : c ≤ i
      · have HV : Hid (.iface 161 (.agg #[]) = stV (nextS 3 a c i (x || n || o) br)) := hid (by rw [HS.out, hw, stV_4]; simp [hci])
        go_wp2
        go_ret2
        exact ⟨(ret_pair HV.out HN.out).trans HR.out, HB.out⟩
      · have HV : Hid (.iface 160 (.agg #[]) = stV (nextS 3 a c i (x || n || o) br)) := hid (by rw [HS.out, hw, stV_3]; simp [hci])
        go_wp2
        go_ret2
        exact ⟨(ret_pair HV.out HN.out).trans HR.out, HB.out⟩
    · have HV : Hid (.iface 160 (.agg #[]) = stV (nextS 3 a c i (x || n || o) br)) := hid (by rw [HS.out, hw, stV_3]; simp)
      go_wp2
      go_ret2
      exact ⟨(ret_pair HV.out HN.out).trans HR.out, HB.out⟩
  · have hbr : (br != 2) = true := by simp [hb2]
    have HN : Hid (true = nextF 3 b i br) := hid (by simp [nextF, hb2])
    have HV : Hid (.iface 159 (.agg #[]) = stV (nextS 3 a c i (x || n || o) br)) := hid (by rw [stV_2]; simp [nextS, hb2])
    clear hb2
    go_enter Try.func81, Try.ntmps81
    go_wp2
    go_ret2
    exact ⟨(ret_pair HV.out HN.out).trans HR.out, below3 _ _ _ _⟩

set_option maxHeartbeats 1000000 in
theorem whenOpening_any (a b c d i u : Int) (f x n o : Bool) (br : Int) (m : Bool) (w : World) :
    Calls Try.prog 82 #[tV a b c d, gV 4 i u f, fV x n o br m] w fun e w' => e = .returned (.tuple #[stV (nextS 4 a c i (x || n || o) br), .bool (nextF 4 b i br)]) ∧ Below w.heap.size w w' := by
  generalize hR : Ending.returned (.tuple #[stV (nextS 4 a c i (x || n || o) br), .bool (nextF 4 b i br)]) = R
  have HR : Hid (Ending.returned (.tuple #[stV (nextS 4 a c i (x || n || o) br), .bool (nextF 4 b i br)]) = R) := hR
  clear hR
  have HF : Hid (fV x n o br m = .agg #[.bool x, .bool n, .bool o, .int .i64 br, .bool m]) := rfl
  rw [HF.out]
  unfold tV gV
  have HN : Hid (false = nextF 4 b i br) := hid (by simp [nextF])
  go_enter Try.func82, Try.ntmps82
  go_wp2_with fail
  rw [← HF.out]
  refine (wanted_any x n o br m _).mono ?_
  rintro e w1 ⟨rfl, hb1⟩
  have HB : Hid (Below w.heap.size w w1) := (below3 _ _ _ _).trans (hb1.mono (by simp; omega))
  obtain ⟨hc, hf⟩ := bcell hb1
  clear hb1 hf
  cases hw : (x || n || o)
  · by_cases hb0 : br = 0
    · have hbr : (br == 0) = true := by simp [hb0]
      have HV : Hid (.iface 158 (.agg #[]) = stV (nextS 4 a c i (x || n || o) br)) := hid (by rw [hw, stV_0]; simp [nextS, hb0])
      clear hb0
      go_wp2
      go_ret2
      exact ⟨(ret_pair HV.out HN.out).trans HR.out, HB.out⟩
    · have hbr : (br == 0) = false := by simp [hb0]
      have HV : Hid (.iface 161 (.agg #[]) = stV (nextS 4 a c i (x || n || o) br)) := hid (by rw [hw, stV_4]; simp [nextS, hb0])
      clear hb0
      go_wp2
      go_ret2
      exact ⟨(ret_pair HV.out HN.out).trans HR.out, HB.out⟩
  · have HV : Hid (.iface 157 (.agg #[]) = stV (nextS 4 a c i (x || n || o) br)) := hid (by rw [hw, stV_1]; simp [nextS])
    go_wp2
    go_ret2
    exact ⟨(ret_pair HV.out HN.out).trans HR.out, HB.out⟩

set_option maxHeartbeats 1000000 in
theorem ruleOf_0 (w : World) :
    Calls Try.prog 61 #[.int .i64 0] w fun e w' => e = .returned (.func (.func 78) #[] #[]) ∧ Below w.heap.size w w' := by
  go_enter Try.func61, Try.ntmps61
  go_wp2
  go_ret
  exact ⟨rfl, (Below.refl _ _).alloc (Nat.le_refl _) _⟩

set_option maxHeartbeats 1000000 in
theorem ruleOf_1 (w : World) :
    Calls Try.prog 61 #[.int .i64 1] w fun e w' => e = .returned (.func (.func 79) #[] #[]) ∧ Below w.heap.size w w' := by
  go_enter Try.func61, Try.ntmps61
  go_wp2
  go_ret
  exact ⟨rfl, (Below.refl _ _).alloc (Nat.le_refl _) _⟩

set_option maxHeartbeats 1000000 in
theorem ruleOf_2 (w : World) :
    Calls Try.prog 61 #[.int .i64 2] w fun e w' => e = .returned (.func (.func 80) #[] #[]) ∧ Below w.heap.size w w' := by
  go_enter Try.func61, Try.ntmps61
  go_wp2
  go_ret
  exact ⟨rfl, (Below.refl _ _).alloc (Nat.le_refl _) _⟩

set_option maxHeartbeats 1000000 in
theorem ruleOf_3 (w : World) :
    Calls Try.prog 61 #[.int .i64 3] w fun e w' => e = .returned (.func (.func 81) #[] #[]) ∧ Below w.heap.size w w' := by
  go_enter Try.func61, Try.ntmps61
  go_wp2
  go_ret
  exact ⟨rfl, (Below.refl _ _).alloc (Nat.le_refl _) _⟩

set_option maxHeartbeats 1000000 in
theorem ruleOf_4 (w : World) :
    Calls Try.prog 61 #[.int .i64 4] w fun e w' => e = .returned (.func (.func 82) #[] #[]) ∧ Below w.heap.size w w' := by
  go_enter Try.func61, Try.ntmps61
  go_wp2
  go_ret
  exact ⟨rfl, (Below.refl _ _).alloc (Nat.le_refl _) _⟩

set_option maxHeartbeats 1000000 in
theorem shown_0 (w : World) :
    Calls Try.prog 83 #[.iface 158 (.agg #[])] w fun e w' => e = .returned (.tuple #[.bool false, .bool false]) ∧ w' = w := by
  have k0 : ∀ w : World, (Instr.typeAssert (.iface 158 (.agg #[])) 102 158 true).run Try.prog w = .ok (.tuple #[.agg #[], .bool true]) w := fun _ => by kernel_rfl
  have k1 : ∀ w : World, (Instr.typeAssert (.iface 158 (.agg #[])) 102 159 true).run Try.prog w = .ok (.tuple #[.agg #[], .bool false]) w := fun _ => by kernel_rfl
  have k2 : ∀ w : World, (Instr.typeAssert (.iface 158 (.agg #[])) 102 160 true).run Try.prog w = .ok (.tuple #[.agg #[], .bool false]) w := fun _ => by kernel_rfl
  go_enter Try.func83, Try.ntmps83
  go_wp2
  go_ret2
  exact ⟨rfl, rfl⟩

set_option maxHeartbeats 1000000 in
theorem shown_1 (w : World) :
    Calls Try.prog 83 #[.iface 157 (.agg #[])] w fun e w' => e = .returned (.tuple #[.bool true, .bool false]) ∧ w' = w := by
  have k0 : ∀ w : World, (Instr.typeAssert (.iface 157 (.agg #[])) 102 158 true).run Try.prog w = .ok (.tuple #[.agg #[], .bool false]) w := fun _ => by kernel_rfl
  have k1 : ∀ w : World, (Instr.typeAssert (.iface 157 (.agg #[])) 102 159 true).run Try.prog w = .ok (.tuple #[.agg #[], .bool false]) w := fun _ => by kernel_rfl
  have k2 : ∀ w : World, (Instr.typeAssert (.iface 157 (.agg #[])) 102 160 true).run Try.prog w = .ok (.tuple #[.agg #[], .bool false]) w := fun _ => by kernel_rfl
  go_enter Try.func83, Try.ntmps83
  go_wp2
  go_ret2
  exact ⟨rfl, rfl⟩

set_option maxHeartbeats 1000000 in
theorem shown_2 (w : World) :
    Calls Try.prog 83 #[.iface 159 (.agg #[])] w fun e w' => e = .returned (.tuple #[.bool true, .bool true]) ∧ w' = w := by
  have k0 : ∀ w : World, (Instr.typeAssert (.iface 159 (.agg #[])) 102 158 true).run Try.prog w = .ok (.tuple #[.agg #[], .bool false]) w := fun _ => by kernel_rfl
  have k1 : ∀ w : World, (Instr.typeAssert (.iface 159 (.agg #[])) 102 159 true).run Try.prog w = .ok (.tuple #[.agg #[], .bool true]) w := fun _ => by kernel_rfl
  have k2 : ∀ w : World, (Instr.typeAssert (.iface 159 (.agg #[])) 102 160 true).run Try.prog w = .ok (.tuple #[.agg #[], .bool false]) w := fun _ => by kernel_rfl
  go_enter Try.func83, Try.ntmps83
  go_wp2
  go_ret2
  exact ⟨rfl, rfl⟩

set_option maxHeartbeats 1000000 in
theorem shown_3 (w : World) :
    Calls Try.prog 83 #[.iface 160 (.agg #[])] w fun e w' => e = .returned (.tuple #[.bool true, .bool true]) ∧ w' = w := by
  have k0 : ∀ w : World, (Instr.typeAssert (.iface 160 (.agg #[])) 102 158 true).run Try.prog w = .ok (.tuple #[.agg #[], .bool false]) w := fun _ => by kernel_rfl
  have k1 : ∀ w : World, (Instr.typeAssert (.iface 160 (.agg #[])) 102 159 true).run Try.prog w = .ok (.tuple #[.agg #[], .bool false]) w := fun _ => by kernel_rfl
  have k2 : ∀ w : World, (Instr.typeAssert (.iface 160 (.agg #[])) 102 160 true).run Try.prog w = .ok (.tuple #[.agg #[], .bool true]) w := fun _ => by kernel_rfl
  go_enter Try.func83, Try.ntmps83
  go_wp2
  go_ret2
  exact ⟨rfl, rfl⟩

set_option maxHeartbeats 1000000 in
theorem shown_4 (w : World) :
    Calls Try.prog 83 #[.iface 161 (.agg #[])] w fun e w' => e = .returned (.tuple #[.bool true, .bool false]) ∧ w' = w := by
  have k0 : ∀ w : World, (Instr.typeAssert (.iface 161 (.agg #[])) 102 158 true).run Try.prog w = .ok (.tuple #[.agg #[], .bool false]) w := fun _ => by kernel_rfl
  have k1 : ∀ w : World, (Instr.typeAssert (.iface 161 (.agg #[])) 102 159 true).run Try.prog w = .ok (.tuple #[.agg #[], .bool false]) w := fun _ => by kernel_rfl
  have k2 : ∀ w : World, (Instr.typeAssert (.iface 161 (.agg #[])) 102 160 true).run Try.prog w = .ok (.tuple #[.agg #[], .bool false]) w := fun _ => by kernel_rfl
  go_enter Try.func83, Try.ntmps83
  go_wp2
  go_ret2
  exact ⟨rfl, rfl⟩

theorem number_0 (w : World) : Calls Try.prog 128 #[.agg #[]] w fun e w' => e = .returned (.int .i64 0) ∧ w' = w.alloc (.cells #[] 158) := by
  go_enter Try.func128, Try.ntmps128
  go_wp2
  go_ret
  exact ⟨rfl, rfl⟩

theorem number_1 (w : World) : Calls Try.prog 127 #[.agg #[]] w fun e w' => e = .returned (.int .i64 1) ∧ w' = w.alloc (.cells #[] 157) := by
  go_enter Try.func127, Try.ntmps127
  go_wp2
  go_ret
  exact ⟨rfl, rfl⟩

theorem number_2 (w : World) : Calls Try.prog 129 #[.agg #[]] w fun e w' => e = .returned (.int .i64 2) ∧ w' = w.alloc (.cells #[] 159) := by
  go_enter Try.func129, Try.ntmps129
  go_wp2
  go_ret
  exact ⟨rfl, rfl⟩

theorem number_3 (w : World) : Calls Try.prog 130 #[.agg #[]] w fun e w' => e = .returned (.int .i64 3) ∧ w' = w.alloc (.cells #[] 160) := by
  go_enter Try.func130, Try.ntmps130
  go_wp2
  go_ret
  exact ⟨rfl, rfl⟩

theorem number_4 (w : World) : Calls Try.prog 131 #[.agg #[]] w fun e w' => e = .returned (.int .i64 4) ∧ w' = w.alloc (.cells #[] 161) := by
  go_enter Try.func131, Try.ntmps131
  go_wp2
  go_ret
  exact ⟨rfl, rfl⟩

end Go.Proofs.Ytcidikmbngflcaa
