/- Walks: StreamOut, StreamFor, StreamBack of the model. -/
import Derived.Test.YtdggchcapjidjabGreatDoorSsA
import Derived.Test.YtdggchcapjidjabGreatDoorStCE
namespace Go.Proofs.YtdggchcapjidjabGreatDoor.StS
open Go.RowKit Go.Shelf Go.Proofs.YtdggchcapjidjabGreatDoor.Kit Go.Proofs.YtdggchcapjidjabGreatDoor.Tx Go.Proofs.YtdggchcapjidjabGreatDoor.Nm Go.Proofs.YtdggchcapjidjabGreatDoor.App Go.Proofs.YtdggchcapjidjabGreatDoor.St Go.Proofs.YtdggchcapjidjabGreatDoor.Lz Go.Proofs.YtdggchcapjidjabGreatDoor.LzP
set_option linter.unusedSimpArgs false
set_option linter.unusedVariables false

theorem isT_at {W : World} {a : Option Addr} {cap : Nat} {ps : List (Int × ByteArray)} (h : ps = [] ∨ ∃ g o, a = some ⟨g, o, none⟩ ∧ ∀ (i : Nat) (p : Int × ByteArray), ps[i]? = some p → At2 W g (o + i * 2) p) (k : Nat) (p : Int × ByteArray) (hp : ps[k]? = some p) : ∃ g o, a = some ⟨g, o, none⟩ ∧ At2 W g (o + k * 2) p := by
  rcases h with rfl | ⟨g, o, rfl, h⟩
  · simp at hp
  · exact ⟨g, o, rfl, h k p hp⟩

set_option maxHeartbeats 1000000 in
theorem in_any (x a b : Int) (w : World) : Calls Tryz.prog 30 #[.int .i64 x, .int .i64 a, .int .i64 b] w fun e w' => e = .returned (.bool (decide (a ≤ x ∧ x ≤ b))) ∧ w' = w := by
  go_enter Tryz.func30, Tryz.ntmps30
  by_cases h1 : a ≤ x
  · by_cases h2 : x ≤ b
    · go_wp2
      go_ret
      exact ⟨by simp [h1, h2], rfl⟩
    · go_wp2
      go_ret
      exact ⟨by simp [h1, h2], rfl⟩
  · go_wp2
    go_ret
    exact ⟨by simp; omega, rfl⟩
end Go.Proofs.YtdggchcapjidjabGreatDoor.StS
