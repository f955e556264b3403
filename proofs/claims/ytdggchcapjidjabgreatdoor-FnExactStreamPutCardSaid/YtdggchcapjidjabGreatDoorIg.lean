/- Walks: StreamPut of program and model, in one form; what the laws on it draw. -/
import Derived.Test.YtdggchcapjidjabGreatDoorPuPr
import Derived.Test.YtdggchcapjidjabGreatDoorDrawV
import Derived.Test.YtdggchcapjidjabGreatDoorLzTM
import Derived.Test.YtdggchcapjidjabGreatDoorLaid
namespace Go.Proofs.YtdggchcapjidjabGreatDoor.Ip
open Go.RowKit Go.Shelf Go.Proofs.YtdggchcapjidjabGreatDoor.Kit Go.Proofs.YtdggchcapjidjabGreatDoor.Mp Go.Proofs.YtdggchcapjidjabGreatDoor.Mm Go.Proofs.YtdggchcapjidjabGreatDoor.Tx Go.Proofs.YtdggchcapjidjabGreatDoor.Nm Go.Proofs.YtdggchcapjidjabGreatDoor.App Go.Proofs.YtdggchcapjidjabGreatDoor.St Go.Proofs.YtdggchcapjidjabGreatDoor.StP
open Go.Proofs.YtdggchcapjidjabGreatDoor.Read (Errs ErrCell)
set_option linter.unusedSimpArgs false
set_option linter.unusedVariables false

/-- what StreamPut answers -/
noncomputable def putG (o : Bool) (es : List (Int × Int)) (S : ByteArray) (ps : List (Int × ByteArray)) (q : Nat) (T : ByteArray) : List (Int × Int) × ByteArray × List (Int × ByteArray) × Bool :=
  if stB S ps = true ∧ okB T.data.toList = true then putF o es S ps (q : Nat) T else ([], ⟨#[]⟩, [], false)
theorem putG_ok {o : Bool} {es : List (Int × Int)} {S : ByteArray} {ps : List (Int × ByteArray)} {q : Nat} {T : ByteArray} (h1 : stB S ps = true) (h2 : okB T.data.toList = true) : putG o es S ps q T = putF o es S ps (q : Nat) T := if_pos ⟨h1, h2⟩
theorem putG_no {o : Bool} {es : List (Int × Int)} {S : ByteArray} {ps : List (Int × ByteArray)} {q : Nat} {T : ByteArray} (h : ¬ (stB S ps = true ∧ okB T.data.toList = true)) : putG o es S ps q T = ([], ⟨#[]⟩, [], false) := if_neg h
theorem stB_nil : stB ⟨#[]⟩ [] = true := by
  refine stB_parts.2 ⟨by rfl, ?_, fun i x p _ hp => by simp at hp⟩
  have h : pieL ((⟨#[]⟩ : ByteArray).data.toList) = [] := pie_hp [] (by rfl)
  rw [h]; rfl
/-- what is answered is good -/
theorem putG_good {o : Bool} {es : List (Int × Int)} {S : ByteArray} {ps : List (Int × ByteArray)} {q : Nat} {T : ByteArray} (hg : GoodE es) : GoodE (putG o es S ps q T).1 ∧ stB (putG o es S ps q T).2.1 (putG o es S ps q T).2.2.1 = true := by
  by_cases h : stB S ps = true ∧ okB T.data.toList = true
  · rw [putG_ok h.1 h.2]
    obtain ⟨h1, h2, _⟩ := putF_ok o q T hg h.1 h.2
    exact ⟨h1, h2⟩
  · rw [putG_no h]
    exact ⟨GoodE.nil, stB_nil⟩
/-- what StreamPut told -/
def Told (W W' : World) (r : Ending) (g : List (Int × Int) × ByteArray × List (Int × ByteArray) × Bool) : Prop :=
  ∃ va vc pa pc, r = .returned (.tuple #[.slice va (prs g.1).length vc, .agg #[.string g.2.1, .slice pa g.2.2.1.length pc], .bool g.2.2.2]) ∧ IsM W' (.slice va (prs g.1).length vc) (prs g.1) ∧ IsT W' (.slice pa g.2.2.1.length pc) g.2.2.1 ∧ Below W.heap.size W W'
theorem isM_nil (W : World) : IsM W (.slice none 0 0) (prs []) := isM_of_row (World.ownsRow_nil W 0 83 3)
theorem isT_nil (W : World) : IsT W (.slice none 0 0) [] := isT_of_row (World.ownsRow_nil W 0 79 2)
theorem told_of {W W' : World} {v pv : Value} {g : List (Int × Int) × ByteArray × List (Int × ByteArray) × Bool} (hM : IsM W' v (prs g.1)) (hT : IsT W' pv g.2.2.1) (k : Below W.heap.size W W') : Told W W' (.returned (.tuple #[v, .agg #[.string g.2.1, pv], .bool g.2.2.2])) g := by
  obtain ⟨va, vc, rfl⟩ := isM_slice hM
  obtain ⟨pa, pc, rfl, _⟩ := id hT
  exact ⟨va, vc, pa, pc, rfl, hM, hT, k⟩
theorem iput_g (W : World) (v : Value) (es : List (Int × Int)) (hg : GoodE es) (hM : IsM W v (prs es)) (S : ByteArray) (pv : Value) (ps : List (Int × ByteArray)) (hT : IsT W pv ps) (q : Nat) (hq : q ≤ 40) (T : ByteArray) (o : Bool) (herr : Errs W) :
    Calls Tryz.prog 8 #[v, .agg #[.string S, pv], .int .i64 (q : Nat), .string T, .bool o] W fun r W' => Told W W' r (putG o es S ps q T) := by
  have hok := okM_prs es hg
  have hes := prs_snd es
  by_cases h : stB S ps = true ∧ okB T.data.toList = true
  · rw [putG_ok h.1 h.2]
    have key : Calls Tryz.prog 8 #[v, .agg #[.string S, pv], .int .i64 (q : Nat), .string T, .bool o] W fun r W' => ∃ v' pv', r = .returned (.tuple #[v', .agg #[.string (putF o ((prs es).map Prod.snd) S ps (q : Nat) T).2.1, pv'], .bool (putF o ((prs es).map Prod.snd) S ps (q : Nat) T).2.2.2]) ∧ RowsI W' W.heap.size v' (putF o ((prs es).map Prod.snd) S ps (q : Nat) T).1 pv' (putF o ((prs es).map Prod.snd) S ps (q : Nat) T).2.2.1 ∧ Below W.heap.size W W' := by
      by_cases hno : S.size < q ∨ 40 < q + T.size
      · exact iput_stay W v (prs es) hM S pv ps hT q T o herr hok h.1 h.2 hq hno
      · exact iput_go W v (prs es) hM S pv ps hT q T o herr hok h.1 h.2 hq (by omega) (by omega)
    rw [hes] at key
    refine key.mono ?_
    rintro r W' ⟨v', pv', rfl, hR, k⟩
    exact told_of (isM_of_row hR.rm) (isT_of_row hR.rt) k
  · rw [putG_no h]
    refine (iput_no W v (prs es) hM S pv ps hT (q : Nat) T o herr (fun a => h ⟨a.2.1, a.2.2.1⟩)).mono ?_
    rintro r W' ⟨rfl, k⟩
    exact told_of (g := ([], ⟨#[]⟩, [], false)) (isM_nil W') (isT_nil W') k
theorem sput_g (W : World) (v : Value) (es : List (Int × Int)) (hg : GoodE es) (hM : IsM W v (prs es)) (S : ByteArray) (pv : Value) (ps : List (Int × ByteArray)) (hT : IsT W pv ps) (hSm : Sm S ps) (q : Nat) (hq : q ≤ 40) (T : ByteArray) (hTz : T.size ≤ 40) (o : Bool) :
    Calls Tryz.prog 7 #[v, .agg #[.string S, pv], .int .i64 (q : Nat), .string T, .bool o] W fun r W' => Told W W' r (putG o es S ps q T) := by
  have hok := okM_prs es hg
  have hes := prs_snd es
  obtain ⟨hS, hpl, hpb⟩ := hSm
  have hml : T.size ≤ maxLen := by unfold maxLen; omega
  have hpp : ∀ p ∈ ps, p.2.size ≤ 1073741824 := fun p hp => by have := (hpb p hp).2; omega
  have h8 := hg.len
  have hmm : (prs es).length ≤ 1073741824 := by rw [prs_len]; omega
  by_cases h : stB S ps = true ∧ okB T.data.toList = true
  · rw [putG_ok h.1 h.2]
    have key := sput_ok W v (prs es) hM hmm S pv ps hT (by omega) hpp (by omega) q T hml o hok h.1 h.2 hq
    rw [hes] at key
    refine key.mono ?_
    rintro r W' ⟨v', pv', rfl, hR, k⟩
    exact told_of hR.rm.isM (isT_of_row hR.rt) k
  · rw [putG_no h]
    refine (sput_no W v (prs es) hM hmm S pv ps hT hpp (by omega) (q : Nat) T hml o (fun a => h ⟨a.2.1, a.2.2.1⟩)).mono ?_
    rintro r W' ⟨g, rfl, hgl, k⟩
    exact told_of (g := ([], ⟨#[]⟩, [], false)) (.inr ⟨g, 0, 0, rfl, Nat.le_refl _, Nat.zero_le _, hgl, fun i p hp => by simp [prs] at hp⟩) (isT_nil W') k
/-- the same, its four answers named -/
def Told4 (W W' : World) (r : Ending) (es : List (Int × Int)) (S : ByteArray) (ps : List (Int × ByteArray)) (b : Bool) : Prop :=
  ∃ va vc pa pc, r = .returned (.tuple #[.slice va (prs es).length vc, .agg #[.string S, .slice pa ps.length pc], .bool b]) ∧ IsM W' (.slice va (prs es).length vc) (prs es) ∧ IsT W' (.slice pa ps.length pc) ps ∧ Below W.heap.size W W'
theorem iput_h (W : World) (v : Value) (es : List (Int × Int)) (hg : GoodE es) (hM : IsM W v (prs es)) (S : ByteArray) (pv : Value) (ps : List (Int × ByteArray)) (hT : IsT W pv ps) (q : Nat) (hq : q ≤ 40) (T : ByteArray) (o : Bool) (herr : Errs W) {es' : List (Int × Int)} {S' : ByteArray} {ps' : List (Int × ByteArray)} {b : Bool} (hG : putG o es S ps q T = (es', S', ps', b)) :
    Calls Tryz.prog 8 #[v, .agg #[.string S, pv], .int .i64 (q : Nat), .string T, .bool o] W fun r W' => Told4 W W' r es' S' ps' b := by
  have h := iput_g W v es hg hM S pv ps hT q hq T o herr
  rw [hG] at h; exact h
theorem sput_h (W : World) (v : Value) (es : List (Int × Int)) (hg : GoodE es) (hM : IsM W v (prs es)) (S : ByteArray) (pv : Value) (ps : List (Int × ByteArray)) (hT : IsT W pv ps) (hSm : Sm S ps) (q : Nat) (hq : q ≤ 40) (T : ByteArray) (hTz : T.size ≤ 40) (o : Bool) {es' : List (Int × Int)} {S' : ByteArray} {ps' : List (Int × ByteArray)} {b : Bool} (hG : putG o es S ps q T = (es', S', ps', b)) :
    Calls Tryz.prog 7 #[v, .agg #[.string S, pv], .int .i64 (q : Nat), .string T, .bool o] W fun r W' => Told4 W W' r es' S' ps' b := by
  have h := sput_g W v es hg hM S pv ps hT hSm q hq T hTz o
  rw [hG] at h; exact h
end Go.Proofs.YtdggchcapjidjabGreatDoor.Ip
