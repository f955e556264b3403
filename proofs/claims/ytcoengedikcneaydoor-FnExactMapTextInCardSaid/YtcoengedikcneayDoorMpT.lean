/- Plain facts on pieces that go out and come in. No program is named here but for the ends' sides. -/
import Derived.Test.YtcoengedikcneayDoorMp
import Derived.Test.YtcoengedikcneayDoorTx2
namespace Go.Proofs.YtcoengedikcneayDoor.Mp
open Go.RowKit
open Go.Proofs.YtcoengedikcneayDoor.Tx
open Go.Proofs.YtcoengedikcneayDoor.EndW (sideZ)

/-- as what a piece goes out, and the ends then -/
def goO (es : List (Int × Int)) (p : Pc) (l : List UInt8) : List (Int × Int) × List UInt8 :=
  if p.nm = true ∧ inB (p.ad, p.po) = true ∧ (outE es (p.ad, p.po)).2.2 = true then ((outE es (p.ad, p.po)).1, nmL (9, (outE es (p.ad, p.po)).2.1)) else (es, l)
/-- as what a piece comes in -/
def goI (es : List (Int × Int)) (p : Pc) (l : List UInt8) : List UInt8 :=
  if p.nm = true ∧ sideZ p.ad p.po = 3 ∧ (inE es p.po).2 = true then nmL (inE es p.po).1 else l

/-- as what pieces go out, one behind the other -/
def outP : List (Int × Int) → List Pc → List UInt8 → List (Int × Int) × List UInt8
  | es, [], _ => (es, [])
  | es, p :: ps, l => ((outP (goO es p (l.take p.sz)).1 ps (l.drop p.sz)).1, (goO es p (l.take p.sz)).2 ++ (outP (goO es p (l.take p.sz)).1 ps (l.drop p.sz)).2)
/-- as what pieces come in, one behind the other -/
def inP (es : List (Int × Int)) : List Pc → List UInt8 → List UInt8
  | [], _ => []
  | p :: ps, l => goI es p (l.take p.sz) ++ inP es ps (l.drop p.sz)

theorem outP_app (es : List (Int × Int)) (ps qs : List Pc) (l : List UInt8) :
    outP es (ps ++ qs) l = ((outP (outP es ps l).1 qs (l.drop (szs ps))).1, (outP es ps l).2 ++ (outP (outP es ps l).1 qs (l.drop (szs ps))).2) := by
  induction ps generalizing es l with
  | nil => simp [outP, szs]
  | cons p ps ih =>
    have e : szs (p :: ps) = p.sz + szs ps := by simp [szs]
    rw [List.cons_append, outP, outP, ih, e, List.drop_drop]
    simp
theorem inP_app (es : List (Int × Int)) (ps qs : List Pc) (l : List UInt8) : inP es (ps ++ qs) l = inP es ps l ++ inP es qs (l.drop (szs ps)) := by
  induction ps generalizing l with
  | nil => simp [inP, szs]
  | cons p ps ih =>
    have e : szs (p :: ps) = p.sz + szs ps := by simp [szs]
    rw [List.cons_append, inP, inP, ih, e, List.drop_drop, List.append_assoc]
theorem outP_snoc (es : List (Int × Int)) (ps : List Pc) (p : Pc) (l : List UInt8) :
    outP es (ps ++ [p]) l = ((goO (outP es ps l).1 p ((l.drop (szs ps)).take p.sz)).1, (outP es ps l).2 ++ (goO (outP es ps l).1 p ((l.drop (szs ps)).take p.sz)).2) := by
  rw [outP_app]; simp [outP]
theorem inP_snoc (es : List (Int × Int)) (ps : List Pc) (p : Pc) (l : List UInt8) : inP es (ps ++ [p]) l = inP es ps l ++ goI es p ((l.drop (szs ps)).take p.sz) := by
  rw [inP_app]; simp [inP]

theorem goO_good (es : List (Int × Int)) (p : Pc) (l : List UInt8) (hg : GoodE es) : GoodE (goO es p l).1 := by
  unfold goO
  split
  · next h => exact outE_good es _ hg h.2.1
  · exact hg
theorem outP_good (es : List (Int × Int)) (ps : List Pc) (l : List UInt8) (hg : GoodE es) : GoodE (outP es ps l).1 := by
  induction ps generalizing es l with
  | nil => exact hg
  | cons p ps ih => exact ih _ _ (goO_good es p _ hg)
theorem goO_pre (es : List (Int × Int)) (p : Pc) (l : List UInt8) : es <+: (goO es p l).1 := by
  unfold goO
  split
  · exact outE_pre es _
  · exact List.prefix_refl _
theorem outP_pre (es : List (Int × Int)) (ps : List Pc) (l : List UInt8) : es <+: (outP es ps l).1 := by
  induction ps generalizing es l with
  | nil => exact List.prefix_refl _
  | cons p ps ih => exact (goO_pre es p _).trans (ih _ _)

/-- what MapTextOut tells -/
noncomputable def tOut (m : List (Int × Int × Int)) (s : List UInt8) : List (Int × Int × Int) × List UInt8 :=
  if okM m = true ∧ okB s = true then (prs (outP (m.map Prod.snd) (pieL s) s).1, (outP (m.map Prod.snd) (pieL s) s).2) else ([], [])
/-- what MapTextIn tells -/
noncomputable def tIn (m : List (Int × Int × Int)) (s : List UInt8) : List UInt8 := if okM m = true ∧ okB s = true then inP (m.map Prod.snd) (pieL s) s else []
end Go.Proofs.YtcoengedikcneayDoor.Mp
