/- The first token of a text, by the program. -/
import Derived.Test.YtgdbfedagdlgkaaDoorB1
namespace Go.Proofs.YtgdbfedagdlgkaaDoor
open Go.RowKit Go.Shelf
set_option maxHeartbeats 2000000 in
theorem first46_num (s : ByteArray) (k v er : Int) (w : World) (hs : s.size ≤ 281474976710656) (hm : 0 < nsz s.data.toList) (hd : dgB (bt s.data.toList 0) = true) (hC : ∀ W, Below w.heap.size w W → Calls Tryd.prog 61 #[.string (s.extract 0 (nsz s.data.toList))] W fun e w' => e = .returned (.tuple #[tkv k (s.extract 0 (nsz s.data.toList)) v 0 0, .int .i64 er]) ∧ Below W.heap.size W w') :
    Calls Tryd.prog 46 #[.string s] w fun e w' => e = .returned (.tuple #[tkv k (s.extract 0 (nsz s.data.toList)) v 0 0, .int .i64 er]) ∧ Below w.heap.size w w' := by
  have hle := nsz_le s.data.toList
  have hL := len_of s
  have h0 : 0 < s.size := by omega
  have hb0 := at_bt s 0 h0
  have HN : Hid (∀ W, Calls Tryd.prog 59 #[.string s] W fun e w' => e = .returned (.int .i64 (nsz s.data.toList)) ∧ w' = W) := fun W => nameSize59 s W (by unfold maxLen; omega)
  have HC : Hid (∀ W, Below w.heap.size w W → Calls Tryd.prog 61 #[.string (s.extract 0 (nsz s.data.toList))] W fun e w' => e = .returned (.tuple #[tkv k (s.extract 0 (nsz s.data.toList)) v 0 0, .int .i64 er]) ∧ Below W.heap.size W w') := hC
  clear hC
  generalize nsz s.data.toList = m at *
  generalize bt s.data.toList 0 = b at *
  unfold tkv at *
  go_enter Tryd.func46, Tryd.ntmps46
  go_wp2_with (first | (go_at_call 59; refine (HN.out _).mono ?_; rintro e w' ⟨rfl, rfl⟩) | (go_at_call 60; refine (isDigit60 _ _).mono ?_; rintro e w' ⟨rfl, rfl⟩) | fail)
  refine (HC.out _ (below_cells _ _ _)).mono ?_
  rintro e w1 ⟨rfl, hb⟩
  have HB : Hid (Below _ _ w1) := hb
  obtain ⟨hc, hf⟩ := bcell hb
  have hz : w.heap.size < w1.heap.size := by have := hb.size; simp at this; omega
  clear hb
  go_wp2
  exact bodyPost_ret (v := .tuple #[.agg #[.int .i64 k, .string (s.extract 0 m), .int .i64 v, .int .i64 0, .int .i64 0], .int .i64 er]) (by simp [results, Tryd.results46, go_sem, hc]) rfl ⟨rfl, below5 HB.out _ _ _ _ _⟩
set_option maxHeartbeats 2000000 in
theorem first46_word (s : ByteArray) (k v er : Int) (w : World) (hs : s.size ≤ 281474976710656) (hm : 0 < nsz s.data.toList) (hd : dgB (bt s.data.toList 0) = false) (hC : ∀ W, Below w.heap.size w W → Calls Tryd.prog 62 #[.string (s.extract 0 (nsz s.data.toList))] W fun e w' => e = .returned (.tuple #[tkv k (s.extract 0 (nsz s.data.toList)) v 0 0, .int .i64 er]) ∧ Below W.heap.size W w') :
    Calls Tryd.prog 46 #[.string s] w fun e w' => e = .returned (.tuple #[tkv k (s.extract 0 (nsz s.data.toList)) v 0 0, .int .i64 er]) ∧ Below w.heap.size w w' := by
  have hle := nsz_le s.data.toList
  have hL := len_of s
  have h0 : 0 < s.size := by omega
  have hb0 := at_bt s 0 h0
  have HN : Hid (∀ W, Calls Tryd.prog 59 #[.string s] W fun e w' => e = .returned (.int .i64 (nsz s.data.toList)) ∧ w' = W) := fun W => nameSize59 s W (by unfold maxLen; omega)
  have HC : Hid (∀ W, Below w.heap.size w W → Calls Tryd.prog 62 #[.string (s.extract 0 (nsz s.data.toList))] W fun e w' => e = .returned (.tuple #[tkv k (s.extract 0 (nsz s.data.toList)) v 0 0, .int .i64 er]) ∧ Below W.heap.size W w') := hC
  clear hC
  generalize nsz s.data.toList = m at *
  generalize bt s.data.toList 0 = b at *
  unfold tkv at *
  go_enter Tryd.func46, Tryd.ntmps46
  go_wp2_with (first | (go_at_call 59; refine (HN.out _).mono ?_; rintro e w' ⟨rfl, rfl⟩) | (go_at_call 60; refine (isDigit60 _ _).mono ?_; rintro e w' ⟨rfl, rfl⟩) | fail)
  refine (HC.out _ (below_cells _ _ _)).mono ?_
  rintro e w1 ⟨rfl, hb⟩
  have HB : Hid (Below _ _ w1) := hb
  obtain ⟨hc, hf⟩ := bcell hb
  have hz : w.heap.size < w1.heap.size := by have := hb.size; simp at this; omega
  clear hb
  go_wp2
  exact bodyPost_ret (v := .tuple #[.agg #[.int .i64 k, .string (s.extract 0 m), .int .i64 v, .int .i64 0, .int .i64 0], .int .i64 er]) (by simp [results, Tryd.results46, go_sem, hc]) rfl ⟨rfl, below5 HB.out _ _ _ _ _⟩
set_option maxHeartbeats 2000000 in
theorem first46_sign (s : ByteArray) (w : World) (hs : s.size ≤ 281474976710656) (hm : nsz s.data.toList = 0) (hg : 0 < sgz s.data.toList) (hg2 : sgz s.data.toList ≤ s.size) :
    Calls Tryd.prog 46 #[.string s] w fun e w' => e = .returned (.tuple #[tkv 4 (s.extract 0 (sgz s.data.toList)) 0 0 0, .int .i64 0]) ∧ Below w.heap.size w w' := by
  have HN : Hid (∀ W, Calls Tryd.prog 59 #[.string s] W fun e w' => e = .returned (.int .i64 (nsz s.data.toList)) ∧ w' = W) := fun W => nameSize59 s W (by unfold maxLen; omega)
  have HG : Hid (∀ W, Calls Tryd.prog 63 #[.string s] W fun e w' => e = .returned (.int .i64 (sgz s.data.toList)) ∧ w' = W) := fun W => signSize63 s W (by unfold maxLen; omega)
  rw [hm] at HN
  clear hm
  generalize sgz s.data.toList = m at *
  unfold tkv at *
  go_enter Tryd.func46, Tryd.ntmps46
  go_wp2_with (first | (go_at_call 59; refine (HN.out _).mono ?_; rintro e w' ⟨rfl, rfl⟩) | (go_at_call 63; refine (HG.out _).mono ?_; rintro e w' ⟨rfl, rfl⟩))
  exact bodyPost_ret (v := .tuple #[.agg #[.int .i64 4, .string (s.extract 0 m), .int .i64 0, .int .i64 0, .int .i64 0], .int .i64 0]) (by simp [results, Tryd.results46, go_sem]) rfl ⟨rfl, below_cells _ _ _⟩
set_option maxHeartbeats 2000000 in
theorem first46_none (s : ByteArray) (w : World) (hT : Tb w) (hs : s.size ≤ 281474976710656) (hm : nsz s.data.toList = 0) (hg : sgz s.data.toList = 0) (hd : (Lib.decodeGo s).2 ≤ s.size) :
    Calls Tryd.prog 46 #[.string s] w fun e w' => e = .returned (.tuple #[tkv 0 (s.extract 0 (Lib.decodeGo s).2) 0 0 0, .int .i64 111]) ∧ Below w.heap.size w w' := by
  have HN : Hid (∀ W, Calls Tryd.prog 59 #[.string s] W fun e w' => e = .returned (.int .i64 (nsz s.data.toList)) ∧ w' = W) := fun W => nameSize59 s W (by unfold maxLen; omega)
  have HG : Hid (∀ W, Calls Tryd.prog 63 #[.string s] W fun e w' => e = .returned (.int .i64 (sgz s.data.toList)) ∧ w' = W) := fun W => signSize63 s W (by unfold maxLen; omega)
  have HD : Hid (∀ W, Below w.heap.size w W → Calls Tryd.prog 44 #[.string s] W fun e w' => e = .returned (.tuple #[.int .i32 (Lib.decodeGo s).1, .int .i64 (Lib.decodeGo s).2]) ∧ Below W.heap.size W w') := fun W hW => Tryd.utf8_DecodeRuneInString s W (hT.below hW (Nat.le_refl _)).utf
  rw [hm] at HN
  rw [hg] at HG
  clear hm hg hT
  generalize (Lib.decodeGo s).2 = m at *
  generalize (Lib.decodeGo s).1 = r at *
  unfold tkv at *
  go_enter Tryd.func46, Tryd.ntmps46
  go_wp2_with (first | (go_at_call 59; refine (HN.out _).mono ?_; rintro e w' ⟨rfl, rfl⟩) | (go_at_call 63; refine (HG.out _).mono ?_; rintro e w' ⟨rfl, rfl⟩) | fail)
  refine (HD.out _ (below_cells _ _ _)).mono ?_
  rintro e w1 ⟨rfl, hb⟩
  have HB : Hid (Below _ _ w1) := hb
  obtain ⟨hc, hf⟩ := bcell hb
  have hz : w.heap.size < w1.heap.size := by have := hb.size; simp at this; omega
  clear hb
  go_wp2
  exact bodyPost_ret (v := .tuple #[.agg #[.int .i64 0, .string (s.extract 0 m), .int .i64 0, .int .i64 0, .int .i64 0], .int .i64 111]) (by simp [results, Tryd.results46, go_sem, hc]) rfl ⟨rfl, below5 HB.out _ _ _ _ _⟩
/-- The first token: its kind, its bytes, its number, what is wrong. -/
def fst (l : List UInt8) (wd : Nat) : Int × Nat × Int × Int :=
  if 0 < nsz l then
    (if dgB (bt l 0) then (match nuO (l.take (nsz l)) with
      | some v => (3, nsz l, v, 0)
      | none => (0, nsz l, 0, 112))
    else (wdK (l.take (nsz l)), nsz l, 0, wdE (l.take (nsz l))))
  else if 0 < sgz l then (4, sgz l, 0, 0) else (0, wd, 0, 111)
theorem sg_le2 (b c : Nat) : sg b c ≤ 2 := by
  unfold sg
  repeat' split
  all_goals omega
theorem sg_zero (b : Nat) : sg b 0 ≤ 1 := by
  unfold sg
  repeat' split
  all_goals omega
theorem sgz_le (l : List UInt8) : sgz l ≤ l.length := by
  unfold sgz
  match l with
  | [] => simp
  | [c] =>
    rw [if_neg (by simp)]
    exact sg_zero _
  | c :: d :: r =>
    rw [if_neg (by simp)]
    have := sg_le2 (bt (c :: d :: r) 0) (bt (c :: d :: r) 1)
    simp only [List.length_cons]
    omega
theorem decode_le (s : ByteArray) : (Lib.decodeGo s).2 ≤ s.size := by
  unfold Lib.decodeGo
  split
  · simp
  · rw [Lib.decode_at]
    unfold Lib.decodeN
    repeat' split
    all_goals simp only
    all_goals omega
theorem first46 (s : ByteArray) (w : World) (hT : Tb w) (hs : s.size ≤ 281474976710656) :
    Calls Tryd.prog 46 #[.string s] w fun e w' => e = .returned (.tuple #[tkv (fst s.data.toList (Lib.decodeGo s).2).1 (s.extract 0 (fst s.data.toList (Lib.decodeGo s).2).2.1) (fst s.data.toList (Lib.decodeGo s).2).2.2.1 0 0, .int .i64 (fst s.data.toList (Lib.decodeGo s).2).2.2.2]) ∧ Below w.heap.size w w' := by
  have hL := len_of s
  have hle := nsz_le s.data.toList
  have hx : (s.extract 0 (nsz s.data.toList)).size ≤ 281474976710656 := by simp; omega
  have hl2 := toList_upto s (nsz s.data.toList)
  unfold fst
  by_cases hm : 0 < nsz s.data.toList
  · rw [if_pos hm]
    cases hd : dgB (bt s.data.toList 0)
    · simp only [Bool.false_eq_true, if_false]
      exact first46_word s _ _ _ w hs hm hd fun W _ => by
        have t := word62 (s.extract 0 (nsz s.data.toList)) W (by unfold maxLen; omega)
        rw [hl2] at t
        exact t
    · simp only [if_true]
      cases hv : nuO (s.data.toList.take (nsz s.data.toList)) with
      | some v => exact first46_num s _ _ _ w hs hm hd fun W _ => number61_ok _ v W hx (by rw [hl2]; exact hv)
      | none => exact first46_num s _ _ _ w hs hm hd fun W hW => number61_no _ W hx (hT.below hW (Nat.le_refl _)) (by rw [hl2]; exact hv)
  · rw [if_neg hm]
    by_cases hg : 0 < sgz s.data.toList
    · rw [if_pos hg]
      exact first46_sign s w hs (by omega) hg (by have := sgz_le s.data.toList; omega)
    · rw [if_neg hg]
      exact first46_none s w hT hs (by omega) (by omega) (decode_le s)
end Go.Proofs.YtgdbfedagdlgkaaDoor
