/- Names and numbers of nodes, kinds that are known: the document's own. -/
import Derived.Test.YtkkmeogehapjoaaGreatDoorRU
import Derived.Test.YtkkmeogehapjoaaGreatDoorR1
namespace Go.Proofs.YtkkmeogehapjoaaGreatDoor
open Go.RowKit Go.Shelf
set_option maxHeartbeats 2000000 in
theorem counted76 (k v f e : Int) (s : ByteArray) (ao : Option Addr) (n c : Nat) (w : World) : Calls Tryz.prog 76 #[ndv k s v (.slice ao n c) f e] w fun r w' => r = .returned (.bool (nuB k v)) ∧ Below w.heap.size w w' := by
  unfold ndv
  by_cases h2 : k = 2
  · subst h2
    go_enter Tryz.func76, Tryz.ntmps76
    go_wp2
    all_goals go_ret
    all_goals exact ⟨ret_bool (by rw [Bool.eq_iff_iff]; simp [nuB] <;> omega), below_cells _ _ _⟩
  by_cases h7 : k = 7
  · subst h7
    go_enter Tryz.func76, Tryz.ntmps76
    go_wp2
    all_goals go_ret
    all_goals exact ⟨ret_bool (by rw [Bool.eq_iff_iff]; simp [nuB] <;> omega), below_cells _ _ _⟩
  by_cases h20 : k = 20
  · subst h20
    go_enter Tryz.func76, Tryz.ntmps76
    go_wp2
    all_goals go_ret
    all_goals exact ⟨ret_bool (by rw [Bool.eq_iff_iff]; simp [nuB] <;> omega), below_cells _ _ _⟩
  by_cases h21 : k = 21
  · subst h21
    go_enter Tryz.func76, Tryz.ntmps76
    go_wp2
    all_goals go_ret
    all_goals exact ⟨ret_bool (by rw [Bool.eq_iff_iff]; simp [nuB] <;> omega), below_cells _ _ _⟩
  by_cases h31 : k = 31
  · subst h31
    go_enter Tryz.func76, Tryz.ntmps76
    go_wp2
    all_goals go_ret
    all_goals exact ⟨ret_bool (by rw [Bool.eq_iff_iff]; simp [nuB] <;> omega), below_cells _ _ _⟩
  by_cases h43 : k = 43
  · subst h43
    go_enter Tryz.func76, Tryz.ntmps76
    go_wp2
    all_goals go_ret
    all_goals exact ⟨ret_bool (by rw [Bool.eq_iff_iff]; simp [nuB] <;> omega), below_cells _ _ _⟩
  by_cases h53 : k = 53
  · subst h53
    go_enter Tryz.func76, Tryz.ntmps76
    go_wp2
    all_goals go_ret
    all_goals exact ⟨ret_bool (by rw [Bool.eq_iff_iff]; simp [nuB] <;> omega), below_cells _ _ _⟩
  by_cases h30 : k = 30
  · subst h30
    go_enter Tryz.func76, Tryz.ntmps76
    go_wp2
    all_goals go_ret
    all_goals exact ⟨ret_bool (by rw [Bool.eq_iff_iff]; simp [nuB] <;> omega), below_cells _ _ _⟩
  by_cases h52 : k = 52
  · subst h52
    go_enter Tryz.func76, Tryz.ntmps76
    go_wp2
    all_goals go_ret
    all_goals exact ⟨ret_bool (by rw [Bool.eq_iff_iff]; simp [nuB] <;> omega), below_cells _ _ _⟩
  have b2 : (k == 2) = false := by simpa using h2
  have b7 : (k == 7) = false := by simpa using h7
  have b20 : (k == 20) = false := by simpa using h20
  have b21 : (k == 21) = false := by simpa using h21
  have b31 : (k == 31) = false := by simpa using h31
  have b43 : (k == 43) = false := by simpa using h43
  have b53 : (k == 53) = false := by simpa using h53
  have b30 : (k == 30) = false := by simpa using h30
  have b52 : (k == 52) = false := by simpa using h52
  go_enter Tryz.func76, Tryz.ntmps76
  go_wp2
  all_goals go_ret
  all_goals exact ⟨ret_bool (by rw [Bool.eq_iff_iff]; simp [nuB, h2, h7, h20, h21, h31, h43, h53, h30, h52]), below_cells _ _ _⟩
set_option maxHeartbeats 2000000 in
theorem sign101 (s : ByteArray) (w : World) : Calls Tryz.prog 101 #[.string s] w fun e w' => ∃ v : Int, e = .returned (.int .i64 v) ∧ decide (0 < v) = sgnB s.data.toList ∧ w' = w := by
  have hl := ByteArray.toList_eq s
  unfold sgnB
  generalize s.data.toList = l at *
  go_enter Tryz.func101, Tryz.ntmps101
  go_wp2
  all_goals go_ret
  all_goals exact ⟨_, rfl, by simp_all, rfl⟩
set_option maxHeartbeats 4000000 in
theorem named75 (k v f e : Int) (s : ByteArray) (ao : Option Addr) (n c : Nat) (w : World) (hs : s.size ≤ 4294967280) : Calls Tryz.prog 75 #[ndv k s v (.slice ao n c) f e] w fun r w' => r = .returned (.bool (nfB k s.data.toList)) ∧ Below w.heap.size w w' := by
  have HN : Hid (∀ W, Calls Tryz.prog 99 #[.string s] W fun e w' => e = .returned (.bool (nameB s.data.toList)) ∧ Below W.heap.size W w') := fun W => name16 s W (by unfold maxLen; omega)
  have HP : Hid (∀ W, Calls Tryz.prog 100 #[.string s] W fun e w' => e = .returned (.bool (pkB s.data.toList)) ∧ Below W.heap.size W w') := fun W => picked100 s W hs
  have HS : Hid (∀ W, Calls Tryz.prog 101 #[.string s] W fun e w' => ∃ v : Int, e = .returned (.int .i64 v) ∧ decide (0 < v) = sgnB s.data.toList ∧ w' = W) := fun W => sign101 s W
  unfold ndv nfB
  by_cases h2 : k = 2
  · subst h2
    rw [if_pos (by decide)]
    generalize nameB s.data.toList = b at *
    go_enter Tryz.func75, Tryz.ntmps75
    go_wp2_with fail
    refine (HN.out _).mono ?_
    rintro e w1 ⟨rfl, hb⟩
    have HB1 : Hid (Below w.heap.size w w1) := (below_cells w _ _).trans (hb.mono (by simp))
    clear hb
    go_wp2
    go_ret
    exact ⟨rfl, HB1.out⟩
  by_cases h3 : k = 3
  · subst h3
    rw [if_pos (by decide)]
    generalize nameB s.data.toList = b at *
    go_enter Tryz.func75, Tryz.ntmps75
    go_wp2_with fail
    refine (HN.out _).mono ?_
    rintro e w1 ⟨rfl, hb⟩
    have HB1 : Hid (Below w.heap.size w w1) := (below_cells w _ _).trans (hb.mono (by simp))
    clear hb
    go_wp2
    go_ret
    exact ⟨rfl, HB1.out⟩
  by_cases h4 : k = 4
  · subst h4
    rw [if_pos (by decide)]
    generalize nameB s.data.toList = b at *
    go_enter Tryz.func75, Tryz.ntmps75
    go_wp2_with fail
    refine (HN.out _).mono ?_
    rintro e w1 ⟨rfl, hb⟩
    have HB1 : Hid (Below w.heap.size w w1) := (below_cells w _ _).trans (hb.mono (by simp))
    clear hb
    go_wp2
    go_ret
    exact ⟨rfl, HB1.out⟩
  by_cases h5 : k = 5
  · subst h5
    rw [if_pos (by decide)]
    generalize nameB s.data.toList = b at *
    go_enter Tryz.func75, Tryz.ntmps75
    go_wp2_with fail
    refine (HN.out _).mono ?_
    rintro e w1 ⟨rfl, hb⟩
    have HB1 : Hid (Below w.heap.size w w1) := (below_cells w _ _).trans (hb.mono (by simp))
    clear hb
    go_wp2
    go_ret
    exact ⟨rfl, HB1.out⟩
  by_cases h6 : k = 6
  · subst h6
    rw [if_pos (by decide)]
    generalize nameB s.data.toList = b at *
    go_enter Tryz.func75, Tryz.ntmps75
    go_wp2_with fail
    refine (HN.out _).mono ?_
    rintro e w1 ⟨rfl, hb⟩
    have HB1 : Hid (Below w.heap.size w w1) := (below_cells w _ _).trans (hb.mono (by simp))
    clear hb
    go_wp2
    go_ret
    exact ⟨rfl, HB1.out⟩
  by_cases h7 : k = 7
  · subst h7
    rw [if_pos (by decide)]
    generalize nameB s.data.toList = b at *
    go_enter Tryz.func75, Tryz.ntmps75
    go_wp2_with fail
    refine (HN.out _).mono ?_
    rintro e w1 ⟨rfl, hb⟩
    have HB1 : Hid (Below w.heap.size w w1) := (below_cells w _ _).trans (hb.mono (by simp))
    clear hb
    go_wp2
    go_ret
    exact ⟨rfl, HB1.out⟩
  by_cases h13 : k = 13
  · subst h13
    rw [if_pos (by decide)]
    generalize nameB s.data.toList = b at *
    go_enter Tryz.func75, Tryz.ntmps75
    go_wp2_with fail
    refine (HN.out _).mono ?_
    rintro e w1 ⟨rfl, hb⟩
    have HB1 : Hid (Below w.heap.size w w1) := (below_cells w _ _).trans (hb.mono (by simp))
    clear hb
    go_wp2
    go_ret
    exact ⟨rfl, HB1.out⟩
  by_cases h21 : k = 21
  · subst h21
    rw [if_pos (by decide)]
    generalize nameB s.data.toList = b at *
    go_enter Tryz.func75, Tryz.ntmps75
    go_wp2_with fail
    refine (HN.out _).mono ?_
    rintro e w1 ⟨rfl, hb⟩
    have HB1 : Hid (Below w.heap.size w w1) := (below_cells w _ _).trans (hb.mono (by simp))
    clear hb
    go_wp2
    go_ret
    exact ⟨rfl, HB1.out⟩
  by_cases h33 : k = 33
  · subst h33
    rw [if_pos (by decide)]
    generalize nameB s.data.toList = b at *
    go_enter Tryz.func75, Tryz.ntmps75
    go_wp2_with fail
    refine (HN.out _).mono ?_
    rintro e w1 ⟨rfl, hb⟩
    have HB1 : Hid (Below w.heap.size w w1) := (below_cells w _ _).trans (hb.mono (by simp))
    clear hb
    go_wp2
    go_ret
    exact ⟨rfl, HB1.out⟩
  by_cases h34 : k = 34
  · subst h34
    rw [if_pos (by decide)]
    generalize nameB s.data.toList = b at *
    go_enter Tryz.func75, Tryz.ntmps75
    go_wp2_with fail
    refine (HN.out _).mono ?_
    rintro e w1 ⟨rfl, hb⟩
    have HB1 : Hid (Below w.heap.size w w1) := (below_cells w _ _).trans (hb.mono (by simp))
    clear hb
    go_wp2
    go_ret
    exact ⟨rfl, HB1.out⟩
  by_cases h35 : k = 35
  · subst h35
    rw [if_pos (by decide)]
    generalize nameB s.data.toList = b at *
    go_enter Tryz.func75, Tryz.ntmps75
    go_wp2_with fail
    refine (HN.out _).mono ?_
    rintro e w1 ⟨rfl, hb⟩
    have HB1 : Hid (Below w.heap.size w w1) := (below_cells w _ _).trans (hb.mono (by simp))
    clear hb
    go_wp2
    go_ret
    exact ⟨rfl, HB1.out⟩
  by_cases h36 : k = 36
  · subst h36
    rw [if_pos (by decide)]
    generalize nameB s.data.toList = b at *
    go_enter Tryz.func75, Tryz.ntmps75
    go_wp2_with fail
    refine (HN.out _).mono ?_
    rintro e w1 ⟨rfl, hb⟩
    have HB1 : Hid (Below w.heap.size w w1) := (below_cells w _ _).trans (hb.mono (by simp))
    clear hb
    go_wp2
    go_ret
    exact ⟨rfl, HB1.out⟩
  by_cases h41 : k = 41
  · subst h41
    rw [if_pos (by decide)]
    generalize nameB s.data.toList = b at *
    go_enter Tryz.func75, Tryz.ntmps75
    go_wp2_with fail
    refine (HN.out _).mono ?_
    rintro e w1 ⟨rfl, hb⟩
    have HB1 : Hid (Below w.heap.size w w1) := (below_cells w _ _).trans (hb.mono (by simp))
    clear hb
    go_wp2
    go_ret
    exact ⟨rfl, HB1.out⟩
  by_cases h51 : k = 51
  · subst h51
    rw [if_pos (by decide)]
    generalize nameB s.data.toList = b at *
    go_enter Tryz.func75, Tryz.ntmps75
    go_wp2_with fail
    refine (HN.out _).mono ?_
    rintro e w1 ⟨rfl, hb⟩
    have HB1 : Hid (Below w.heap.size w w1) := (below_cells w _ _).trans (hb.mono (by simp))
    clear hb
    go_wp2
    go_ret
    exact ⟨rfl, HB1.out⟩
  rw [if_neg (by simp [h2, h3, h4, h5, h6, h7, h13, h21, h33, h34, h35, h36, h41, h51])]
  have b2 : (k == 2) = false := by simpa using h2
  have b3 : (k == 3) = false := by simpa using h3
  have b4 : (k == 4) = false := by simpa using h4
  have b5 : (k == 5) = false := by simpa using h5
  have b6 : (k == 6) = false := by simpa using h6
  have b7 : (k == 7) = false := by simpa using h7
  have b13 : (k == 13) = false := by simpa using h13
  have b21 : (k == 21) = false := by simpa using h21
  have b33 : (k == 33) = false := by simpa using h33
  have b34 : (k == 34) = false := by simpa using h34
  have b35 : (k == 35) = false := by simpa using h35
  have b36 : (k == 36) = false := by simpa using h36
  have b41 : (k == 41) = false := by simpa using h41
  have b51 : (k == 51) = false := by simpa using h51
  by_cases h37 : k = 37
  · subst h37
    rw [if_pos (by decide)]
    change Calls _ _ _ _ fun r w' => r = .returned (.bool (pkB s.data.toList)) ∧ _
    generalize pkB s.data.toList = b at *
    go_enter Tryz.func75, Tryz.ntmps75
    go_wp2_with fail
    refine (HP.out _).mono ?_
    rintro e w1 ⟨rfl, hb⟩
    have HB1 : Hid (Below w.heap.size w w1) := (below_cells w _ _).trans (hb.mono (by simp))
    clear hb
    go_wp2
    go_ret
    exact ⟨rfl, HB1.out⟩
  by_cases h54 : k = 54
  · subst h54
    rw [if_pos (by decide)]
    change Calls _ _ _ _ fun r w' => r = .returned (.bool (pkB s.data.toList)) ∧ _
    generalize pkB s.data.toList = b at *
    go_enter Tryz.func75, Tryz.ntmps75
    go_wp2_with fail
    refine (HP.out _).mono ?_
    rintro e w1 ⟨rfl, hb⟩
    have HB1 : Hid (Below w.heap.size w w1) := (below_cells w _ _).trans (hb.mono (by simp))
    clear hb
    go_wp2
    go_ret
    exact ⟨rfl, HB1.out⟩
  rw [if_neg (by simp [h37, h54])]
  have b37 : (k == 37) = false := by simpa using h37
  have b54 : (k == 54) = false := by simpa using h54
  by_cases h38 : k = 38
  · subst h38
    rw [if_pos rfl]
    generalize sgnB s.data.toList = b at *
    go_enter Tryz.func75, Tryz.ntmps75
    go_wp2_with fail
    refine (HS.out _).mono ?_
    rintro e w1 ⟨z, rfl, hz, rfl⟩
    have HZ : Hid (decide (0 < z) = b) := hz
    clear hz
    go_wp2
    all_goals go_ret
    all_goals exact ⟨ret_bool HZ.out, below_cells _ _ _⟩
  rw [if_neg h38]
  have b38 : (k == 38) = false := by simpa using h38
  go_enter Tryz.func75, Tryz.ntmps75
  go_wp2
  go_ret
  exact ⟨ret_bool (by simp [ByteArray.toList_eq]), below_cells _ _ _⟩
end Go.Proofs.YtkkmeogehapjoaaGreatDoor
