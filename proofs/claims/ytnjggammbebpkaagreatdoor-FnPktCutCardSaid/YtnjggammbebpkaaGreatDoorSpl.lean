/- Walks: a text is cut at its blanks, into five words at most, by the library; and what its words are. -/
import Derived.Test.YtnjggammbebpkaaGreatDoorShelf
import Derived.Test.YtnjggammbebpkaaGreatDoorPkI
import Derived.Shelf.Strings.SplitShaped
import Derived.Lib.SplitLaws
import Derived.Lib.IndexBytes
namespace Go.Proofs.YtnjggammbebpkaaGreatDoor.Spl
open Go.RowKit Go.Shelf Go.Proofs.YtnjggammbebpkaaGreatDoor.Kit

/-- the words -/
def wsOf (s : ByteArray) : List ByteArray := Lib.splitB ⟨#[32]⟩ 0 (min 5 (s.size + 1) - 1) s

theorem indexB_one (x : ByteArray) : Lib.indexB x ⟨#[32]⟩ = Lib.indexByte x.data.toList 32 := Lib.index_one x.data.toList 32
theorem idx_cut (l r : List UInt8) (h : (32 : UInt8) ∉ l) : Lib.indexByte (l ++ 32 :: r) 32 = (l.length : Int) := by
  induction l with
  | nil => rfl
  | cons a l ih =>
    have ha : (a == 32) = false := by
      rw [beq_eq_false_iff_ne]; exact fun e => h (by simp [e])
    have := ih (fun q => h (List.mem_cons_of_mem _ q))
    simp only [List.cons_append, Lib.indexByte, ha, this, List.length_cons]
    simp <;> omega
theorem idx_none (l : List UInt8) (h : (32 : UInt8) ∉ l) : Lib.indexByte l 32 = -1 := by
  induction l with
  | nil => rfl
  | cons a l ih =>
    have ha : (a == 32) = false := by
      rw [beq_eq_false_iff_ne]; exact fun e => h (by simp [e])
    have := ih (fun q => h (List.mem_cons_of_mem _ q))
    simp [Lib.indexByte, ha, this]
theorem ext_list {s t : ByteArray} (h : s.data.toList = t.data.toList) : s = t := by
  obtain ⟨⟨l⟩⟩ := s
  obtain ⟨⟨m⟩⟩ := t
  have : l = m := h
  rw [this]
theorem cut_hit (k : Nat) (s x y : ByteArray) (h : (32 : UInt8) ∉ x.data.toList) (e : s.data.toList = x.data.toList ++ 32 :: y.data.toList) :
    Lib.splitB ⟨#[32]⟩ 0 (k + 1) s = x :: Lib.splitB ⟨#[32]⟩ 0 k y := by
  have hi : Lib.indexB s ⟨#[32]⟩ = ((x.data.toList.length : Nat) : Int) := by rw [indexB_one, e]; exact idx_cut _ _ h
  rw [Lib.splitB_hit _ _ _ _ _ hi]
  have h1 : s.extract 0 (x.data.toList.length + 0) = x := ext_list (by rw [Lib.extract_from_zero, e]; simp)
  have hz : s.size = x.data.toList.length + 1 + y.data.toList.length := by
    have : s.size = s.data.toList.length := rfl
    rw [this, e]; simp; omega
  have h2 : s.extract (x.data.toList.length + (⟨#[32]⟩ : ByteArray).size) s.size = y := ext_list (by
    rw [Lib.extract_data, e]
    have e1 : (⟨#[32]⟩ : ByteArray).size = 1 := rfl
    rw [e1, hz, List.drop_append, List.drop_eq_nil_of_le (by omega)]
    simp
    exact List.take_of_length_le (by simp <;> omega))
  rw [h1, h2]
theorem cut_miss (k : Nat) (s : ByteArray) (h : (32 : UInt8) ∉ s.data.toList) : Lib.splitB ⟨#[32]⟩ 0 k s = [s] :=
  Lib.splitB_miss _ _ _ _ (by rw [indexB_one]; exact idx_none _ h)

theorem mk_list (l : List UInt8) : (⟨l.toArray⟩ : ByteArray).data.toList = l := rfl

set_option maxHeartbeats 1000000 in
theorem splitN_any (s : ByteArray) (hs : s.size ≤ 1000) (w : World) :
    Calls Tryz.prog 41 #[.string s, .string ⟨#[32]⟩, .int .i64 5] w fun e w' =>
      e = .returned (.slice (some ⟨w.heap.size, 0, none⟩) (wsOf s).length (min 5 (s.size + 1))) ∧ w' = w.alloc (.cells (Lib.cellsOf (wsOf s) (min 5 (s.size + 1))) 9) := by
  have c := Any.strings_genSplit_core Tryz.lays221 (by kernel_rfl) s ⟨#[32]⟩ 0 5 (min 5 (s.size + 1)) w (by omega) (by decide) (Nat.zero_le _)
    (fun x cs _ => (Tryz.strings_Index_one x 32 _).mono fun e w' ⟨he, hw⟩ => ⟨by rw [he, indexB_one], hw⟩)
    ((Tryz.strings_Count_one s 32 w).mono fun e w' ⟨he, hw⟩ => ⟨by
      rw [he]
      show _ = Ending.returned (Value.int .i64 ((Lib.count s.data.toList [32] : Nat) : Int))
      rw [Lib.count_one]; rfl, hw⟩)
    (by decide) (by decide) (by rw [if_neg (by decide)]; omega)
  go_enter Tryz.func41, Tryz.ntmps41
  go_wp2_with (go_at_call 57; refine c.mono ?_; rintro e w' ⟨rfl, hw⟩; rw [hw])
  go_ret
  exact ⟨rfl, rfl⟩
end Go.Proofs.YtnjggammbebpkaaGreatDoor.Spl
