/- Walks: what may become a name, by the model, way by way. -/
import Derived.Test.YtcoengedikcneayDoorTxB
namespace Go.Proofs.YtcoengedikcneayDoor.TxW
open Go.RowKit Go.Proofs.YtcoengedikcneayDoor.Kit Go.Proofs.YtcoengedikcneayDoor.Tx
set_option linter.unusedVariables false

set_option maxHeartbeats 2000000 in
theorem bg_size (s : ByteArray) (w : World) (hn : btB (s.size : Int) 1 5 = false) :
    Calls Tryd.prog 35 #[.string s] w fun e w' => e = .returned (.bool false) ∧ Below w.heap.size w w' := by
  go_enter Tryd.func35, Tryd.ntmps35
  go_wp2_with (first | (go_at_call 33; refine (bt_any _ _ _ _).mono ?_; rintro e w1 ⟨rfl, rfl⟩) | (go_at_call 48; refine (digC_any _ _).mono ?_; rintro e w1 ⟨rfl, rfl⟩))
  go_ret
  refine ⟨congrArg (fun b => Ending.returned (Value.bool b)) ?_, Below.refl _ _⟩
  first | rfl | (simp; omega)

set_option maxHeartbeats 2000000 in
theorem bg_0 (s : ByteArray) (w : World) (hn : btB (s.size : Int) 1 5 = true) (h0 : 0 < s.size) (a0 : ¬ ((s[0]'h0).toNat : Int) = 64) :
    Calls Tryd.prog 35 #[.string s] w fun e w' => e = .returned (.bool false) ∧ Below w.heap.size w w' := by
  go_enter Tryd.func35, Tryd.ntmps35
  go_wp2_with (first | (go_at_call 33; refine (bt_any _ _ _ _).mono ?_; rintro e w1 ⟨rfl, rfl⟩) | (go_at_call 48; refine (digC_any _ _).mono ?_; rintro e w1 ⟨rfl, rfl⟩))
  go_ret
  refine ⟨congrArg (fun b => Ending.returned (Value.bool b)) ?_, Below.refl _ _⟩
  first | rfl | (simp; omega)

set_option maxHeartbeats 2000000 in
theorem bg_1 (s : ByteArray) (w : World) (hn : btB (s.size : Int) 1 5 = true) (h0 : 0 < s.size) (a0 : ((s[0]'h0).toNat : Int) = 64) (g1 : (1 : Int) < s.size) (h1 : 1 < s.size) (a1 : digC (s[1]'h1) < 1) :
    Calls Tryd.prog 35 #[.string s] w fun e w' => e = .returned (.bool false) ∧ Below w.heap.size w w' := by
  go_enter Tryd.func35, Tryd.ntmps35
  go_wp2_with (first | (go_at_call 33; refine (bt_any _ _ _ _).mono ?_; rintro e w1 ⟨rfl, rfl⟩) | (go_at_call 48; refine (digC_any _ _).mono ?_; rintro e w1 ⟨rfl, rfl⟩))
  go_ret
  refine ⟨congrArg (fun b => Ending.returned (Value.bool b)) ?_, Below.refl _ _⟩
  first | rfl | (simp; omega)

set_option maxHeartbeats 2000000 in
theorem bg_2 (s : ByteArray) (w : World) (hn : btB (s.size : Int) 1 5 = true) (h0 : 0 < s.size) (a0 : ((s[0]'h0).toNat : Int) = 64) (g1 : (1 : Int) < s.size) (h1 : 1 < s.size) (a1 : 1 ≤ digC (s[1]'h1)) (g2 : (2 : Int) < s.size) (h2 : 2 < s.size) (a2 : ¬ ((s[2]'h2).toNat : Int) = 58) :
    Calls Tryd.prog 35 #[.string s] w fun e w' => e = .returned (.bool false) ∧ Below w.heap.size w w' := by
  go_enter Tryd.func35, Tryd.ntmps35
  go_wp2_with (first | (go_at_call 33; refine (bt_any _ _ _ _).mono ?_; rintro e w1 ⟨rfl, rfl⟩) | (go_at_call 48; refine (digC_any _ _).mono ?_; rintro e w1 ⟨rfl, rfl⟩))
  go_ret
  refine ⟨congrArg (fun b => Ending.returned (Value.bool b)) ?_, Below.refl _ _⟩
  first | rfl | (simp; omega)

set_option maxHeartbeats 2000000 in
theorem bg_3 (s : ByteArray) (w : World) (hn : btB (s.size : Int) 1 5 = true) (h0 : 0 < s.size) (a0 : ((s[0]'h0).toNat : Int) = 64) (g1 : (1 : Int) < s.size) (h1 : 1 < s.size) (a1 : 1 ≤ digC (s[1]'h1)) (g2 : (2 : Int) < s.size) (h2 : 2 < s.size) (a2 : ((s[2]'h2).toNat : Int) = 58) (g3 : (3 : Int) < s.size) (h3 : 3 < s.size) (a3 : digC (s[3]'h3) < 1) :
    Calls Tryd.prog 35 #[.string s] w fun e w' => e = .returned (.bool false) ∧ Below w.heap.size w w' := by
  go_enter Tryd.func35, Tryd.ntmps35
  go_wp2_with (first | (go_at_call 33; refine (bt_any _ _ _ _).mono ?_; rintro e w1 ⟨rfl, rfl⟩) | (go_at_call 48; refine (digC_any _ _).mono ?_; rintro e w1 ⟨rfl, rfl⟩))
  go_ret
  refine ⟨congrArg (fun b => Ending.returned (Value.bool b)) ?_, Below.refl _ _⟩
  first | rfl | (simp; omega)

set_option maxHeartbeats 2000000 in
theorem bg_4 (s : ByteArray) (w : World) (hn : btB (s.size : Int) 1 5 = true) (h0 : 0 < s.size) (a0 : ((s[0]'h0).toNat : Int) = 64) (g1 : (1 : Int) < s.size) (h1 : 1 < s.size) (a1 : 1 ≤ digC (s[1]'h1)) (g2 : (2 : Int) < s.size) (h2 : 2 < s.size) (a2 : ((s[2]'h2).toNat : Int) = 58) (g3 : (3 : Int) < s.size) (h3 : 3 < s.size) (a3 : 1 ≤ digC (s[3]'h3)) (g5 : (5 : Int) ≤ s.size) (g4 : (4 : Int) < s.size) (h4 : 4 < s.size) (a4 : digC (s[4]'h4) < 0) :
    Calls Tryd.prog 35 #[.string s] w fun e w' => e = .returned (.bool false) ∧ Below w.heap.size w w' := by
  go_enter Tryd.func35, Tryd.ntmps35
  go_wp2_with (first | (go_at_call 33; refine (bt_any _ _ _ _).mono ?_; rintro e w1 ⟨rfl, rfl⟩) | (go_at_call 48; refine (digC_any _ _).mono ?_; rintro e w1 ⟨rfl, rfl⟩))
  go_ret
  refine ⟨congrArg (fun b => Ending.returned (Value.bool b)) ?_, Below.refl _ _⟩
  first | rfl | (simp; omega)

set_option maxHeartbeats 2000000 in
theorem by_5 (s : ByteArray) (w : World) (hn : btB (s.size : Int) 1 5 = true) (h0 : 0 < s.size) (a0 : ((s[0]'h0).toNat : Int) = 64) (g1 : (1 : Int) < s.size) (h1 : 1 < s.size) (a1 : 1 ≤ digC (s[1]'h1)) (g2 : (2 : Int) < s.size) (h2 : 2 < s.size) (a2 : ((s[2]'h2).toNat : Int) = 58) (g3 : (3 : Int) < s.size) (h3 : 3 < s.size) (a3 : 1 ≤ digC (s[3]'h3)) (g5 : (5 : Int) ≤ s.size) (g4 : (4 : Int) < s.size) (h4 : 4 < s.size) (a4 : 0 ≤ digC (s[4]'h4)) :
    Calls Tryd.prog 35 #[.string s] w fun e w' => e = .returned (.bool true) ∧ Below w.heap.size w w' := by
  go_enter Tryd.func35, Tryd.ntmps35
  go_wp2_with (first | (go_at_call 33; refine (bt_any _ _ _ _).mono ?_; rintro e w1 ⟨rfl, rfl⟩) | (go_at_call 48; refine (digC_any _ _).mono ?_; rintro e w1 ⟨rfl, rfl⟩))
  go_ret
  refine ⟨congrArg (fun b => Ending.returned (Value.bool b)) ?_, Below.refl _ _⟩
  first | rfl | (simp; omega)

set_option maxHeartbeats 2000000 in
theorem by_4 (s : ByteArray) (w : World) (hn : btB (s.size : Int) 1 5 = true) (h0 : 0 < s.size) (a0 : ((s[0]'h0).toNat : Int) = 64) (g1 : (1 : Int) < s.size) (h1 : 1 < s.size) (a1 : 1 ≤ digC (s[1]'h1)) (g2 : (2 : Int) < s.size) (h2 : 2 < s.size) (a2 : ((s[2]'h2).toNat : Int) = 58) (g3 : (3 : Int) < s.size) (h3 : 3 < s.size) (a3 : 1 ≤ digC (s[3]'h3)) (g5 : (s.size : Int) < 5)  :
    Calls Tryd.prog 35 #[.string s] w fun e w' => e = .returned (.bool true) ∧ Below w.heap.size w w' := by
  go_enter Tryd.func35, Tryd.ntmps35
  go_wp2_with (first | (go_at_call 33; refine (bt_any _ _ _ _).mono ?_; rintro e w1 ⟨rfl, rfl⟩) | (go_at_call 48; refine (digC_any _ _).mono ?_; rintro e w1 ⟨rfl, rfl⟩))
  go_ret
  refine ⟨congrArg (fun b => Ending.returned (Value.bool b)) ?_, Below.refl _ _⟩
  first | rfl | (simp; omega)

set_option maxHeartbeats 2000000 in
theorem by_3 (s : ByteArray) (w : World) (hn : btB (s.size : Int) 1 5 = true) (h0 : 0 < s.size) (a0 : ((s[0]'h0).toNat : Int) = 64) (g1 : (1 : Int) < s.size) (h1 : 1 < s.size) (a1 : 1 ≤ digC (s[1]'h1)) (g2 : (2 : Int) < s.size) (h2 : 2 < s.size) (a2 : ((s[2]'h2).toNat : Int) = 58) (g3 : (s.size : Int) ≤ 3) (g5 : (s.size : Int) < 5)  :
    Calls Tryd.prog 35 #[.string s] w fun e w' => e = .returned (.bool true) ∧ Below w.heap.size w w' := by
  go_enter Tryd.func35, Tryd.ntmps35
  go_wp2_with (first | (go_at_call 33; refine (bt_any _ _ _ _).mono ?_; rintro e w1 ⟨rfl, rfl⟩) | (go_at_call 48; refine (digC_any _ _).mono ?_; rintro e w1 ⟨rfl, rfl⟩))
  go_ret
  refine ⟨congrArg (fun b => Ending.returned (Value.bool b)) ?_, Below.refl _ _⟩
  first | rfl | (simp; omega)

set_option maxHeartbeats 2000000 in
theorem by_2 (s : ByteArray) (w : World) (hn : btB (s.size : Int) 1 5 = true) (h0 : 0 < s.size) (a0 : ((s[0]'h0).toNat : Int) = 64) (g1 : (1 : Int) < s.size) (h1 : 1 < s.size) (a1 : 1 ≤ digC (s[1]'h1)) (g2 : (s.size : Int) ≤ 2) (g3 : (s.size : Int) ≤ 3) (g5 : (s.size : Int) < 5)  :
    Calls Tryd.prog 35 #[.string s] w fun e w' => e = .returned (.bool true) ∧ Below w.heap.size w w' := by
  go_enter Tryd.func35, Tryd.ntmps35
  go_wp2_with (first | (go_at_call 33; refine (bt_any _ _ _ _).mono ?_; rintro e w1 ⟨rfl, rfl⟩) | (go_at_call 48; refine (digC_any _ _).mono ?_; rintro e w1 ⟨rfl, rfl⟩))
  go_ret
  refine ⟨congrArg (fun b => Ending.returned (Value.bool b)) ?_, Below.refl _ _⟩
  first | rfl | (simp; omega)

set_option maxHeartbeats 2000000 in
theorem by_1 (s : ByteArray) (w : World) (hn : btB (s.size : Int) 1 5 = true) (h0 : 0 < s.size) (a0 : ((s[0]'h0).toNat : Int) = 64) (g1 : (s.size : Int) ≤ 1) (g2 : (s.size : Int) ≤ 2) (g3 : (s.size : Int) ≤ 3) (g5 : (s.size : Int) < 5)  :
    Calls Tryd.prog 35 #[.string s] w fun e w' => e = .returned (.bool true) ∧ Below w.heap.size w w' := by
  go_enter Tryd.func35, Tryd.ntmps35
  go_wp2_with (first | (go_at_call 33; refine (bt_any _ _ _ _).mono ?_; rintro e w1 ⟨rfl, rfl⟩) | (go_at_call 48; refine (digC_any _ _).mono ?_; rintro e w1 ⟨rfl, rfl⟩))
  go_ret
  refine ⟨congrArg (fun b => Ending.returned (Value.bool b)) ?_, Below.refl _ _⟩
  first | rfl | (simp; omega)


theorem dig1 (c : UInt8) : 1 ≤ digC c ↔ 49 ≤ c.toNat ∧ c.toNat ≤ 57 := by
  unfold digC; split <;> omega
theorem dig0 (c : UInt8) : 0 ≤ digC c ↔ 48 ≤ c.toNat ∧ c.toNat ≤ 57 := by
  unfold digC; split <;> omega

theorem begins_any (s : ByteArray) (w : World) :
    Calls Tryd.prog 35 #[.string s] w fun e w' => e = .returned (.bool (begB s.data.toList)) ∧ Below w.heap.size w w' := by
  cases hn : btB (s.size : Int) 1 5
  · rw [beg_none s hn]; exact bg_size s w hn
  have hb := hn
  simp only [btB, Bool.and_eq_true, decide_eq_true_eq] at hb
  have h0 : 0 < s.size := by omega
  have e0 := getL s 0 h0
  have bd : begB s.data.toList = decide ((s.data.toList.getD 0 0).toNat = 64 ∧ (1 < s.size → 49 ≤ (s.data.toList.getD 1 0).toNat ∧ (s.data.toList.getD 1 0).toNat ≤ 57) ∧ (2 < s.size → (s.data.toList.getD 2 0).toNat = 58)
    ∧ (3 < s.size → 49 ≤ (s.data.toList.getD 3 0).toNat ∧ (s.data.toList.getD 3 0).toNat ≤ 57) ∧ (4 < s.size → 48 ≤ (s.data.toList.getD 4 0).toNat ∧ (s.data.toList.getD 4 0).toNat ≤ 57)) := by
    unfold begB
    rw [lenL, decide_eq_decide]
    omega
  rw [bd]
  by_cases a0 : ((s[0]'h0).toNat : Int) = 64
  case neg =>
    rw [e0, decide_eq_false (fun h => a0 (by have := h.1; exact_mod_cast this))]
    exact bg_0 s w hn h0 a0
  have a0' : (s.data[0]'h0).toNat = 64 := by have : (s[0]'h0).toNat = 64 := by omega
                                             exact this
  by_cases g1 : (1 : Int) < s.size
  case neg =>
    rw [e0, a0', decide_eq_true (by omega)]
    exact by_1 s w hn h0 a0 (by omega) (by omega) (by omega) (by omega)
  have h1 : 1 < s.size := by omega
  have e1 := getL s 1 h1
  by_cases a1 : 1 ≤ digC (s[1]'h1)
  case neg =>
    have : ¬ (49 ≤ (s.data[1]'h1).toNat ∧ (s.data[1]'h1).toNat ≤ 57) := fun h => a1 ((dig1 _).2 h)
    rw [e0, e1, a0', decide_eq_false (by omega)]
    exact bg_1 s w hn h0 a0 g1 h1 (by omega)
  have a1' : 49 ≤ (s.data[1]'h1).toNat ∧ (s.data[1]'h1).toNat ≤ 57 := (dig1 _).1 a1
  by_cases g2 : (2 : Int) < s.size
  case neg =>
    rw [e0, e1, a0', decide_eq_true (by omega)]
    exact by_2 s w hn h0 a0 g1 h1 a1 (by omega) (by omega) (by omega)
  have h2 : 2 < s.size := by omega
  have e2 := getL s 2 h2
  by_cases a2 : ((s[2]'h2).toNat : Int) = 58
  case neg =>
    have : ¬ (s.data[2]'h2).toNat = 58 := fun h => a2 (by have h' : (s[2]'h2).toNat = 58 := h
                                                          omega)
    rw [e0, e1, e2, a0', decide_eq_false (by omega)]
    exact bg_2 s w hn h0 a0 g1 h1 a1 g2 h2 a2
  have a2' : (s.data[2]'h2).toNat = 58 := by have : (s[2]'h2).toNat = 58 := by omega
                                             exact this
  by_cases g3 : (3 : Int) < s.size
  case neg =>
    rw [e0, e1, e2, a0', decide_eq_true (by omega)]
    exact by_3 s w hn h0 a0 g1 h1 a1 g2 h2 a2 (by omega) (by omega)
  have h3 : 3 < s.size := by omega
  have e3 := getL s 3 h3
  by_cases a3 : 1 ≤ digC (s[3]'h3)
  case neg =>
    have : ¬ (49 ≤ (s.data[3]'h3).toNat ∧ (s.data[3]'h3).toNat ≤ 57) := fun h => a3 ((dig1 _).2 h)
    rw [e0, e1, e2, e3, a0', decide_eq_false (by omega)]
    exact bg_3 s w hn h0 a0 g1 h1 a1 g2 h2 a2 g3 h3 (by omega)
  have a3' : 49 ≤ (s.data[3]'h3).toNat ∧ (s.data[3]'h3).toNat ≤ 57 := (dig1 _).1 a3
  by_cases g4 : (4 : Int) < s.size
  case neg =>
    rw [e0, e1, e2, e3, a0', decide_eq_true (by omega)]
    exact by_4 s w hn h0 a0 g1 h1 a1 g2 h2 a2 g3 h3 a3 (by omega)
  have h4 : 4 < s.size := by omega
  have e4 := getL s 4 h4
  by_cases a4 : 0 ≤ digC (s[4]'h4)
  case neg =>
    have : ¬ (48 ≤ (s.data[4]'h4).toNat ∧ (s.data[4]'h4).toNat ≤ 57) := fun h => a4 ((dig0 _).2 h)
    rw [e0, e1, e2, e3, e4, a0', decide_eq_false (by omega)]
    exact bg_4 s w hn h0 a0 g1 h1 a1 g2 h2 a2 g3 h3 a3 (by omega) g4 h4 (by omega)
  have a4' : 48 ≤ (s.data[4]'h4).toNat ∧ (s.data[4]'h4).toNat ≤ 57 := (dig0 _).1 a4
  rw [e0, e1, e2, e3, e4, a0', decide_eq_true (by omega)]
  exact by_5 s w hn h0 a0 g1 h1 a1 g2 h2 a2 g3 h3 a3 (by omega) g4 h4 a4
end Go.Proofs.YtcoengedikcneayDoor.TxW
