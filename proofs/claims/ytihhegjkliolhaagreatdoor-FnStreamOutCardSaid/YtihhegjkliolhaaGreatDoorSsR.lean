/- Walks: bytes that come to a stream, by the model, in all ways. -/
import Derived.Test.YtihhegjkliolhaaGreatDoorSsP
namespace Go.Proofs.YtihhegjkliolhaaGreatDoor.StP
open Go.RowKit Go.Shelf Go.Proofs.YtihhegjkliolhaaGreatDoor.Kit Go.Proofs.YtihhegjkliolhaaGreatDoor.Tx Go.Proofs.YtihhegjkliolhaaGreatDoor.Mp Go.Proofs.YtihhegjkliolhaaGreatDoor.Mm Go.Proofs.YtihhegjkliolhaaGreatDoor.Ms Go.Proofs.YtihhegjkliolhaaGreatDoor.Nm Go.Proofs.YtihhegjkliolhaaGreatDoor.App Go.Proofs.YtihhegjkliolhaaGreatDoor.St Go.Proofs.YtihhegjkliolhaaGreatDoor.SpA
set_option linter.unusedSimpArgs false
set_option linter.unusedVariables false

/-- what StreamPut answers is ok -/
theorem putF_ok (o : Bool) {es : List (Int × Int)} {S : ByteArray} {ps : List (Int × ByteArray)} (q : Nat) (T : ByteArray) (hg : GoodE es) (hst : stB S ps = true) (hT : okB T.data.toList = true) :
    GoodE (putF o es S ps (q : Nat) T).1 ∧ stB (putF o es S ps (q : Nat) T).2.1 (putF o es S ps (q : Nat) T).2.2.1 = true ∧ es <+: (putF o es S ps (q : Nat) T).1 := by
  obtain ⟨hSok, _, _⟩ := stB_parts.1 hst
  unfold putF
  split
  · exact ⟨hg, hst, List.prefix_refl _⟩
  · split
    · exact ⟨hg, hst, List.prefix_refl _⟩
    · rename_i h1 h2
      have hb : okB (S.data.toList ++ T.data.toList.drop (S.size - ((q : Nat) : Int).toNat)) = true := by
        refine ok_app _ _ hSok (ok_drop _ _ hT) ?_
        rw [List.length_drop, lenL, lenL]
        have e : ((q : Nat) : Int).toNat = q := by simp
        rw [e]; omega
      exact ⟨prt_good o es _ _ hg, stB_more o hg hst _ hb, prt_pre o es _ _⟩

theorem lput_any (W : World) (base : Nat) (hB : base ≤ W.heap.size) (o : Bool) (v : Value) (es : List (Int × Int)) (hg : GoodE es) (S : ByteArray) (pv : Value) (ps : List (Int × ByteArray)) (h2 : Rows2 W base v es pv ps) (hst : stB S ps = true) (q : Nat) (T : ByteArray) (hTok : okB T.data.toList = true) (hq : q ≤ 1000) :
    Calls Tryz.prog 30 #[v, .agg #[.string S, pv], .int .i64 (q : Nat), .string T, .bool o] W fun r W' => ∃ v' pv', r = .returned (.tuple #[v', .agg #[.string (putF o es S ps (q : Nat) T).2.1, pv'], .bool (putF o es S ps (q : Nat) T).2.2.2]) ∧
      Rows2 W' base v' (putF o es S ps (q : Nat) T).1 pv' (putF o es S ps (q : Nat) T).2.2.1 ∧ Below base W W' ∧ Gr W W' v v' ∧ (∀ k, pv'.ownBlock = some k → pv.ownBlock = some k ∨ W.heap.size ≤ k) := by
  obtain ⟨hSok, _, _⟩ := stB_parts.1 hst
  have hS40 := (ok_parts _ hSok).1
  have hT40 := (ok_parts _ hTok).1
  rw [lenL] at hS40 hT40
  by_cases hno : S.size < q ∨ 40 < q + T.size
  · have e : putF o es S ps (q : Nat) T = (es, S, ps, false) := if_pos (by omega)
    rw [e]
    refine (lput_no W base o v es S pv ps h2 q T hq (by omega) (by omega) hno).mono ?_
    rintro r W' ⟨rfl, k⟩
    exact ⟨v, pv, rfl, h2.below k, k.mono hB, Gr.of k v, fun k hk => .inl hk⟩
  · by_cases hle : q + T.size ≤ S.size
    · have e : putF o es S ps (q : Nat) T = (es, S, ps, true) := by
        unfold putF
        rw [if_neg (by omega), if_pos (by omega)]
      rw [e]
      refine (lput_had W base o v es S pv ps h2 q T hq (by omega) (by omega) (by omega) (by omega) hle).mono ?_
      rintro r W' ⟨rfl, k⟩
      exact ⟨v, pv, rfl, h2.below k, k.mono hB, Gr.of k v, fun k hk => .inl hk⟩
    · have e0 : ((q : Nat) : Int).toNat = q := by simp
      have e : putF o es S ps (q : Nat) T = ((prt o es (pieL (hp S.data.toList ++ T.data.toList.drop (S.size - q))) (hp S.data.toList ++ T.data.toList.drop (S.size - q))).1, mkB (S.data.toList ++ T.data.toList.drop (S.size - q)), ps ++ (prt o es (pieL (hp S.data.toList ++ T.data.toList.drop (S.size - q))) (hp S.data.toList ++ T.data.toList.drop (S.size - q))).2, true) := by
        unfold putF
        rw [if_neg (by omega), if_neg (by omega), e0]
      rw [e]
      refine (lput_new W base hB o v es hg S pv ps h2 hst q T hTok (by omega) (by omega) (by omega) _ rfl).mono ?_
      rintro r W' ⟨v', pv', rfl, k1, k2, k3, k4⟩
      exact ⟨v', pv', rfl, k1, k2, k3, fun k hk => .inr (k4 k hk)⟩
end Go.Proofs.YtihhegjkliolhaaGreatDoor.StP
