/- Walks: a packet is read from its text, by the model. -/
import Derived.Test.YtnjggammbebpkaaGreatDoorPkP
import Derived.Test.YtnjggammbebpkaaGreatDoorCutX
import Derived.Test.YtnjggammbebpkaaGreatDoorSRead4
namespace Go.Proofs.YtnjggammbebpkaaGreatDoor.PkR
open Go.RowKit Go.Shelf Go.Proofs.YtnjggammbebpkaaGreatDoor.Kit Go.Proofs.YtnjggammbebpkaaGreatDoor.Pk
open Go.Proofs.YtnjggammbebpkaaGreatDoor.EndW (sideZ endV l6in_any inB)
open Go.Proofs.YtnjggammbebpkaaGreatDoor.Text (txt txtL txt_list fig txtL_inj)
open Go.Proofs.YtnjggammbebpkaaGreatDoor.Itoa (decS decS_size)
open Go.Proofs.YtnjggammbebpkaaGreatDoor.Read (digit_any digZ digZ_bd dig_fig sread_any)
open Go.Proofs.YtnjggammbebpkaaGreatDoor.CutW (cutF cut_any fold_cut fold_word cutF_size cutF_len stepW)
open Go.Proofs.YtnjggammbebpkaaGreatDoor.Spl (ext_list mk_list)
set_option linter.unusedVariables false
set_option linter.unusedSimpArgs false

/-- what a number of one figure, or two, must be -/
def DecIs (s : ByteArray) (m : Int) : Prop := ∀ n, 0 ≤ n → n ≤ 99 → s.data.toList = (decS n).data.toList → m = n

theorem decL_fig (n : Int) (h0 : 0 ≤ n) (h1 : n ≤ 9) : digZ (fig n) = n := dig_fig n h0 h1
theorem wrap_in2 (x : Int) (h0 : -1000 ≤ x) (h1 : x ≤ 1000) : IntKind.i64.wrap x = x := by
  simp [IntKind.wrap, IntKind.bits, IntKind.signed]; omega

set_option maxHeartbeats 2000000 in
theorem dec1_any (c : UInt8) (w : World) :
    Calls Tryz.prog 30 #[.string ⟨#[c]⟩] w fun e w' => e = .returned (.int .i64 (if digZ c < 0 then -1 else digZ c)) ∧ w' = w := by
  have hn : inB 1 1 2 = true := rfl
  have i0 : ((⟨#[c]⟩ : ByteArray)[0]'(show 0 < 1 by decide)) = c := rfl
  obtain ⟨ha0, ha1⟩ := digZ_bd c
  by_cases h : digZ c < 0
  · rw [if_pos h]
    go_enter Tryz.func30, Tryz.ntmps30
    go_wp2_with (first | (go_at_call 29; refine (l6in_any _ _ _ _).mono ?_; rintro e w1 ⟨rfl, rfl⟩))
    refine wp_loop_rounds 2 ?_
    rw [rounds_succ]
    go_wp2_with (go_at_call 46; refine (digit_any _ _).mono ?_; rintro e w1 ⟨rfl, rfl⟩)
    go_ret
    exact ⟨rfl, rfl⟩
  · rw [if_neg h]
    have h' : 0 ≤ digZ c := by omega
    go_enter Tryz.func30, Tryz.ntmps30
    go_wp2_with (first | (go_at_call 29; refine (l6in_any _ _ _ _).mono ?_; rintro e w1 ⟨rfl, rfl⟩))
    refine wp_loop_rounds 2 ?_
    rw [rounds_succ]
    go_wp2_with (go_at_call 46; refine (digit_any _ _).mono ?_; rintro e w1 ⟨rfl, rfl⟩)
    rw [rounds_succ]
    go_wp2
    go_ret
    exact ⟨rfl, rfl⟩

set_option maxHeartbeats 2000000 in
theorem dec2_any (c d : UInt8) (w : World) :
    Calls Tryz.prog 30 #[.string ⟨#[c, d]⟩] w fun e w' => e = .returned (.int .i64 (if digZ c < 0 ∨ digZ d < 0 then -1 else 10 * digZ c + digZ d)) ∧ w' = w := by
  have hn : inB 2 1 2 = true := rfl
  have i0 : ((⟨#[c, d]⟩ : ByteArray)[0]'(show 0 < 2 by decide)) = c := rfl
  have i1 : ((⟨#[c, d]⟩ : ByteArray)[1]'(show 1 < 2 by decide)) = d := rfl
  obtain ⟨ha0, ha1⟩ := digZ_bd c
  obtain ⟨hd0, hd1⟩ := digZ_bd d
  by_cases h : digZ c < 0
  · rw [if_pos (.inl h)]
    go_enter Tryz.func30, Tryz.ntmps30
    go_wp2_with (first | (go_at_call 29; refine (l6in_any _ _ _ _).mono ?_; rintro e w1 ⟨rfl, rfl⟩))
    refine wp_loop_rounds 3 ?_
    rw [rounds_succ]
    go_wp2_with (go_at_call 46; refine (digit_any _ _).mono ?_; rintro e w1 ⟨rfl, rfl⟩)
    go_ret
    exact ⟨rfl, rfl⟩
  · have h' : 0 ≤ digZ c := by omega
    by_cases g : digZ d < 0
    · rw [if_pos (.inr g)]
      go_enter Tryz.func30, Tryz.ntmps30
      go_wp2_with (first | (go_at_call 29; refine (l6in_any _ _ _ _).mono ?_; rintro e w1 ⟨rfl, rfl⟩))
      refine wp_loop_rounds 3 ?_
      rw [rounds_succ]
      go_wp2_with (go_at_call 46; refine (digit_any _ _).mono ?_; rintro e w1 ⟨rfl, rfl⟩)
      rw [rounds_succ]
      go_wp2_with (go_at_call 46; refine (digit_any _ _).mono ?_; rintro e w1 ⟨rfl, rfl⟩)
      go_ret
      exact ⟨rfl, rfl⟩
    · rw [if_neg (by omega)]
      have g' : 0 ≤ digZ d := by omega
      go_enter Tryz.func30, Tryz.ntmps30
      go_wp2_with (first | (go_at_call 29; refine (l6in_any _ _ _ _).mono ?_; rintro e w1 ⟨rfl, rfl⟩))
      refine wp_loop_rounds 3 ?_
      rw [rounds_succ]
      go_wp2_with (go_at_call 46; refine (digit_any _ _).mono ?_; rintro e w1 ⟨rfl, rfl⟩)
      rw [rounds_succ]
      go_wp2_with (go_at_call 46; refine (digit_any _ _).mono ?_; rintro e w1 ⟨rfl, rfl⟩)
      rw [rounds_succ]
      go_wp2
      go_ret
      exact ⟨rfl, rfl⟩

set_option maxHeartbeats 1000000 in
theorem dec0_any (s : ByteArray) (h : inB (s.size : Int) 1 2 = false) (w : World) :
    Calls Tryz.prog 30 #[.string s] w fun e w' => e = .returned (.int .i64 (-1)) ∧ w' = w := by
  go_enter Tryz.func30, Tryz.ntmps30
  go_wp2_with (first | (go_at_call 29; refine (l6in_any _ _ _ _).mono ?_; rintro e w1 ⟨rfl, rfl⟩))
  go_ret
  exact ⟨rfl, rfl⟩

theorem bytes1 (s : ByteArray) (h : s.size = 1) : ∃ a, s = ⟨#[a]⟩ := by
  obtain ⟨⟨l⟩⟩ := s
  match l, h with
  | [a], _ => exact ⟨a, rfl⟩
theorem bytes2 (s : ByteArray) (h : s.size = 2) : ∃ a b, s = ⟨#[a, b]⟩ := by
  obtain ⟨⟨l⟩⟩ := s
  match l, h with
  | [a, b], _ => exact ⟨a, b, rfl⟩

theorem sdec_any (s : ByteArray) (w : World) :
    Calls Tryz.prog 30 #[.string s] w fun e w' => ∃ m, e = .returned (.int .i64 m) ∧ w' = w ∧ DecIs s m := by
  by_cases h1 : s.size = 1
  · obtain ⟨c, rfl⟩ := bytes1 s h1
    refine (dec1_any c w).mono ?_
    rintro e w' ⟨rfl, rfl⟩
    refine ⟨_, rfl, rfl, fun n h0 h9 e => ?_⟩
    rw [dec_list] at e
    split at e
    · have hc : c = fig n := by have e' : [c] = [fig n] := e; injection e'
      rw [hc, dig_fig n (by omega) (by omega), if_neg (by omega)]
    · have e' : [c] = [fig (n / 10), fig (n % 10)] := e
      simp at e'
  · by_cases h2 : s.size = 2
    · obtain ⟨c, d, rfl⟩ := bytes2 s h2
      refine (dec2_any c d w).mono ?_
      rintro e w' ⟨rfl, rfl⟩
      refine ⟨_, rfl, rfl, fun n h0 h9 e => ?_⟩
      rw [dec_list] at e
      split at e
      · have e' : [c, d] = [fig n] := e
        simp at e'
      · have e' : [c, d] = [fig (n / 10), fig (n % 10)] := e
        simp only [List.cons.injEq, and_true] at e'
        rw [e'.1, e'.2, dig_fig _ (by omega) (by omega), dig_fig _ (by omega) (by omega), if_neg (by omega)]
        omega
    · refine (dec0_any s (by unfold inB; simp; omega) w).mono ?_
      rintro e w' ⟨rfl, rfl⟩
      refine ⟨_, rfl, rfl, fun n h0 h9 e => ?_⟩
      have hs : s.size = (decS n).data.toList.length := by rw [sz_list, e]
      rw [dec_list] at hs
      split at hs
      · simp at hs; omega
      · simp at hs; omega

/-- the words of a packet's text -/
theorem cut_pkt (s : ByteArray) (k a b c d n : Int) (t : ByteArray) (h : pktB k a b c d n t = true) (e : s.data.toList = pktL k a b c d n t) : cutF s.data.toList = pktWs k a b c d n t := by
  obtain ⟨h1, h2, h3, h4, h5⟩ := pkt_parts h
  unfold pktL at e
  unfold cutF pktWs
  rw [e]
  have f1 := fold_cut (wordS k).data.toList ((txt a b).data.toList ++ 32 :: ((txt c d).data.toList ++ 32 :: ((decS n).data.toList ++ (if k = 1 then 32 :: t.data.toList else [])))) (nb_word k) []
  rw [List.nil_append] at f1
  rw [f1, fold_cut _ _ (nb_txt a b h1), fold_cut _ _ (nb_txt c d h2)]
  rcases h5 with ⟨rfl, he, ho⟩ | ⟨rfl, rfl⟩
  · rw [if_pos rfl, if_pos rfl, fold_cut _ _ (nb_dec n h3 h4), fold_word _ (nb_ok t ho)]
    rfl
  · rw [if_neg (by decide), if_neg (by decide), List.append_nil, fold_word _ (nb_dec n h3 h4)]
    rfl
theorem cut_nil : cutF (⟨#[]⟩ : ByteArray).data.toList = [⟨#[]⟩] := rfl

/-- what the model's words say, where the text is a packet's -/
theorem words_say (s w0 w1 w2 w3 : ByteArray) (r : List ByteArray) (hw : cutF s.data.toList = w0 :: w1 :: w2 :: w3 :: r) {a b c d m : Int} {t1 t2 : Bool} (T1 : Read.Told w1 a b t1) (T2 : Read.Told w2 c d t2) (hm : DecIs w3 m)
    {k2 a2 b2 c2 d2 n2 : Int} {q2 : ByteArray} (hB : pktB k2 a2 b2 c2 d2 n2 q2 = true) (e : s.data.toList = pktL k2 a2 b2 c2 d2 n2 q2) :
    a = a2 ∧ b = b2 ∧ c = c2 ∧ d = d2 ∧ m = n2 ∧ ((k2 = 1 ∧ r = [q2]) ∨ (k2 = 2 ∧ r = [] ∧ q2 = ⟨#[]⟩)) := by
  have := (cut_pkt s k2 a2 b2 c2 d2 n2 q2 hB e).symm.trans hw
  obtain ⟨h1, h2, h3, h4, h5⟩ := pkt_parts hB
  unfold pktWs at this
  simp only [List.cons_append, List.nil_append, List.cons.injEq] at this
  obtain ⟨rfl, rfl, rfl, rfl, rfl⟩ := this
  have g1 : sideZ a2 b2 ≠ 0 := by simpa using h1
  have g2 : sideZ c2 d2 ≠ 0 := by simpa using h2
  have e1 := Read.told_one T1 (.inl ⟨rfl, g1, txt_is h1⟩)
  have e2 := Read.told_one T2 (.inl ⟨rfl, g2, txt_is h2⟩)
  refine ⟨e1.1, e1.2.1, e2.1, e2.2.1, hm n2 h3 h4 rfl, ?_⟩
  rcases h5 with ⟨rfl, _, _⟩ | ⟨rfl, rfl⟩
  · rw [if_pos rfl]; exact .inl ⟨rfl, rfl⟩
  · rw [if_neg (by decide)]; exact .inr ⟨rfl, rfl, rfl⟩
end Go.Proofs.YtnjggammbebpkaaGreatDoor.PkR
