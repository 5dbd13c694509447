/- A node's name and number: whether they fit its kind. Whether a node's name fits its kind; groups of kinds. Groups of kinds. Nodes and lists of numbers in memory; kids of one group. A list's last ones, and all others. -/
import Derived.Test.YtkkmeogehapjoaaGreatDoorBB
import Derived.Deep.RegionHeld3
import Derived.Deep.QuietTactic
import Derived.BigQuiet
namespace Go.Proofs.YtkkmeogehapjoaaGreatDoor
section
open Go.RowKit Go.Shelf
/-- What the walks lean on: the library's tables, and a number that the library keeps. -/
structure Tm (w : World) : Prop where
  tb : Tb w
  mx : ∃ m, w.cell? ⟨1, 0, none⟩ = some (.int .i64 m)
theorem Tm.below {w w' : World} (h : Tm w) (hb : Below w.heap.size w w') : Tm w' := by
  obtain ⟨m, hm⟩ := h.mx
  exact ⟨h.tb.below hb (Nat.le_refl _), m, by rw [(bcell hb).1 1 0 (by have := h.tb.size; omega)]; exact hm⟩
/-- A node as a value. -/
def ndv (k : Int) (s : ByteArray) (v : Int) (sl : Value) (f e : Int) : Value := .agg #[.int .i64 k, .string s, .int .i64 v, sl, .int .i64 f, .int .i64 e]
def sgnB (l : List UInt8) : Bool := (l == [124, 124]) || (l == [38, 38]) || (l == [61, 61]) || (l == [33, 61]) || (l == [60]) || (l == [62]) || (l == [60, 61]) || (l == [62, 61]) || (l == [43]) || (l == [45]) || (l == [42]) || (l == [47]) || (l == [37])
set_option maxHeartbeats 2000000 in
theorem isSign84 (s : ByteArray) (w : World) : Calls Tryz.prog 84 #[.string s] w fun e w' => e = .returned (.bool (sgnB s.data.toList)) ∧ w' = w := by
  have hl := ByteArray.toList_eq s
  unfold sgnB
  generalize s.data.toList = l at *
  go_enter Tryz.func84, Tryz.ntmps84
  go_wp2
  all_goals go_ret
  all_goals exact ⟨ret_bool (by simp_all), rfl⟩

def nfB (k : Int) (l : List UInt8) : Bool := if (decide (k = 2) || decide (k = 3) || decide (k = 4) || decide (k = 5) || decide (k = 6) || decide (k = 7) || decide (k = 13) || decide (k = 21) || decide (k = 33) || decide (k = 34) || decide (k = 35) || decide (k = 36) || decide (k = 41) || decide (k = 51)) = true then nameB l else if (decide (k = 37) || decide (k = 54)) = true then (Lib.cut l [58, 58]).2.2 && (nameB (Lib.cut l [58, 58]).1 && nameB (Lib.cut l [58, 58]).2.1) else if k = 38 then sgnB l else l == []

def nuB (k v : Int) : Bool := if k = 2 then true else if (decide (k = 7) || decide (k = 20) || decide (k = 21) || decide (k = 31) || decide (k = 43) || decide (k = 53)) = true then decide (v = 0) || decide (v = 1) else if k = 30 then decide (0 ≤ v) else if k = 52 then !(decide (v = -9223372036854775808)) else decide (v = 0)

set_option maxHeartbeats 2000000 in
theorem numFits61 (k v f e : Int) (s : ByteArray) (ao : Option Addr) (n c : Nat) (w : World) : Calls Tryz.prog 61 #[ndv k s v (.slice ao n c) f e] w fun r w' => r = .returned (.bool (nuB k v)) ∧ Below w.heap.size w w' := by
  unfold ndv
  by_cases h2 : k = 2
  · subst h2
    go_enter Tryz.func61, Tryz.ntmps61
    go_wp2
    all_goals go_ret
    all_goals exact ⟨ret_bool (by rw [Bool.eq_iff_iff]; simp [nuB] <;> omega), below_cells _ _ _⟩
  by_cases h7 : k = 7
  · subst h7
    go_enter Tryz.func61, Tryz.ntmps61
    go_wp2
    all_goals go_ret
    all_goals exact ⟨ret_bool (by rw [Bool.eq_iff_iff]; simp [nuB] <;> omega), below_cells _ _ _⟩
  by_cases h20 : k = 20
  · subst h20
    go_enter Tryz.func61, Tryz.ntmps61
    go_wp2
    all_goals go_ret
    all_goals exact ⟨ret_bool (by rw [Bool.eq_iff_iff]; simp [nuB] <;> omega), below_cells _ _ _⟩
  by_cases h21 : k = 21
  · subst h21
    go_enter Tryz.func61, Tryz.ntmps61
    go_wp2
    all_goals go_ret
    all_goals exact ⟨ret_bool (by rw [Bool.eq_iff_iff]; simp [nuB] <;> omega), below_cells _ _ _⟩
  by_cases h31 : k = 31
  · subst h31
    go_enter Tryz.func61, Tryz.ntmps61
    go_wp2
    all_goals go_ret
    all_goals exact ⟨ret_bool (by rw [Bool.eq_iff_iff]; simp [nuB] <;> omega), below_cells _ _ _⟩
  by_cases h43 : k = 43
  · subst h43
    go_enter Tryz.func61, Tryz.ntmps61
    go_wp2
    all_goals go_ret
    all_goals exact ⟨ret_bool (by rw [Bool.eq_iff_iff]; simp [nuB] <;> omega), below_cells _ _ _⟩
  by_cases h53 : k = 53
  · subst h53
    go_enter Tryz.func61, Tryz.ntmps61
    go_wp2
    all_goals go_ret
    all_goals exact ⟨ret_bool (by rw [Bool.eq_iff_iff]; simp [nuB] <;> omega), below_cells _ _ _⟩
  by_cases h30 : k = 30
  · subst h30
    go_enter Tryz.func61, Tryz.ntmps61
    go_wp2
    all_goals go_ret
    all_goals exact ⟨ret_bool (by rw [Bool.eq_iff_iff]; simp [nuB] <;> omega), below_cells _ _ _⟩
  by_cases h52 : k = 52
  · subst h52
    go_enter Tryz.func61, Tryz.ntmps61
    go_wp2
    all_goals go_ret
    all_goals exact ⟨ret_bool (by rw [Bool.eq_iff_iff]; simp [nuB] <;> omega), below_cells _ _ _⟩
  have b2 : (k == 2) = false := by simpa using h2
  have b7 : (k == 7) = false := by simpa using h7
  have b20 : (k == 20) = false := by simpa using h20
  have b21 : (k == 21) = false := by simpa using h21
  have b31 : (k == 31) = false := by simpa using h31
  have b43 : (k == 43) = false := by simpa using h43
  have b53 : (k == 53) = false := by simpa using h53
  have b30 : (k == 30) = false := by simpa using h30
  have b52 : (k == 52) = false := by simpa using h52
  go_enter Tryz.func61, Tryz.ntmps61
  go_wp2
  all_goals go_ret
  all_goals exact ⟨ret_bool (by rw [Bool.eq_iff_iff]; simp [nuB, h2, h7, h20, h21, h31, h43, h53, h30, h52]), below_cells _ _ _⟩
end
section
open Go.RowKit Go.Shelf
theorem cut_size (l m : List UInt8) : (Lib.cut l m).1.length ≤ l.length ∧ (Lib.cut l m).2.1.length ≤ l.length := by
  unfold Lib.cut
  repeat' split
  all_goals simp
  all_goals try omega
theorem name82 (s : ByteArray) (w : World) (hT : Tb w) (hs : s.size ≤ 281474976710656) : Calls Tryz.prog 82 #[.string s] w fun e w' => e = .returned (.bool (nameB s.data.toList)) ∧ Below w.heap.size w w' := by
  have t := name15 s w hT hs
  rw [name_same] at t
  exact t
theorem drew_below (w : World) (n : Nat) : Below w.heap.size w (w.drewN n) := ⟨rfl, rfl, rfl, Nat.le_refl _, fun _ _ => rfl⟩
set_option maxHeartbeats 4000000 in
theorem nameFits60 (k v f e : Int) (s : ByteArray) (ao : Option Addr) (n c : Nat) (w : World) (hT : Tm w) (hs : s.size < 4294967281) : Calls Tryz.prog 60 #[ndv k s v (.slice ao n c) f e] w fun r w' => r = .returned (.bool (nfB k s.data.toList)) ∧ Below w.heap.size w w' := by
  have HN : Hid (∀ W, Below w.heap.size w W → Calls Tryz.prog 82 #[.string s] W fun e w' => e = .returned (.bool (nameB s.data.toList)) ∧ Below W.heap.size W w') := fun W hW => name82 s W (hT.tb.below hW (Nat.le_refl _)) (by omega)
  have HS : Hid (∀ W, Calls Tryz.prog 84 #[.string s] W fun e w' => e = .returned (.bool (sgnB s.data.toList)) ∧ w' = W) := fun W => isSign84 s W
  have hL := len_of s
  have hcz := cut_size s.data.toList [58, 58]
  have HC : Hid (∀ W, Below w.heap.size w W → Calls Tryz.prog 83 #[.string s, .string ⟨#[58, 58]⟩] W fun e w' => e = .returned (.tuple #[.string ⟨(Lib.cut s.data.toList [58, 58]).1.toArray⟩, .string ⟨(Lib.cut s.data.toList [58, 58]).2.1.toArray⟩, .bool (Lib.cut s.data.toList [58, 58]).2.2]) ∧ Below W.heap.size W w') := fun W hW => by
    obtain ⟨m, hm⟩ := (hT.below hW).mx
    exact (Tryz.strings_Cut s ⟨#[58, 58]⟩ m W hs hm).mono fun _ _ ⟨he, n, hw⟩ => ⟨he, by rw [hw]; exact drew_below W n⟩
  have HA : Hid (∀ W, Below w.heap.size w W → Calls Tryz.prog 82 #[.string ⟨(Lib.cut s.data.toList [58, 58]).1.toArray⟩] W fun e w' => e = .returned (.bool (nameB (Lib.cut s.data.toList [58, 58]).1)) ∧ Below W.heap.size W w') := fun W hW => name82 _ W (hT.tb.below hW (Nat.le_refl _)) (by rw [← len_of]; show (Lib.cut s.data.toList [58, 58]).1.length ≤ _; omega)
  have HB : Hid (∀ W, Below w.heap.size w W → Calls Tryz.prog 82 #[.string ⟨(Lib.cut s.data.toList [58, 58]).2.1.toArray⟩] W fun e w' => e = .returned (.bool (nameB (Lib.cut s.data.toList [58, 58]).2.1)) ∧ Below W.heap.size W w') := fun W hW => name82 _ W (hT.tb.below hW (Nat.le_refl _)) (by rw [← len_of]; show (Lib.cut s.data.toList [58, 58]).2.1.length ≤ _; omega)
  clear hT hL hcz
  unfold ndv nfB
  by_cases h2 : k = 2
  · subst h2
    rw [if_pos (by decide)]
    generalize nameB s.data.toList = b at *
    go_enter Tryz.func60, Tryz.ntmps60
    go_wp2_with fail
    refine (HN.out _ (below_cells _ _ _)).mono ?_
    rintro e w1 ⟨rfl, hb⟩
    have HB1 : Hid (Below w.heap.size w w1) := (below_cells w _ _).trans (hb.mono (by simp))
    clear hb
    go_wp2
    go_ret
    exact ⟨rfl, HB1.out⟩
  by_cases h3 : k = 3
  · subst h3
    rw [if_pos (by decide)]
    generalize nameB s.data.toList = b at *
    go_enter Tryz.func60, Tryz.ntmps60
    go_wp2_with fail
    refine (HN.out _ (below_cells _ _ _)).mono ?_
    rintro e w1 ⟨rfl, hb⟩
    have HB1 : Hid (Below w.heap.size w w1) := (below_cells w _ _).trans (hb.mono (by simp))
    clear hb
    go_wp2
    go_ret
    exact ⟨rfl, HB1.out⟩
  by_cases h4 : k = 4
  · subst h4
    rw [if_pos (by decide)]
    generalize nameB s.data.toList = b at *
    go_enter Tryz.func60, Tryz.ntmps60
    go_wp2_with fail
    refine (HN.out _ (below_cells _ _ _)).mono ?_
    rintro e w1 ⟨rfl, hb⟩
    have HB1 : Hid (Below w.heap.size w w1) := (below_cells w _ _).trans (hb.mono (by simp))
    clear hb
    go_wp2
    go_ret
    exact ⟨rfl, HB1.out⟩
  by_cases h5 : k = 5
  · subst h5
    rw [if_pos (by decide)]
    generalize nameB s.data.toList = b at *
    go_enter Tryz.func60, Tryz.ntmps60
    go_wp2_with fail
    refine (HN.out _ (below_cells _ _ _)).mono ?_
    rintro e w1 ⟨rfl, hb⟩
    have HB1 : Hid (Below w.heap.size w w1) := (below_cells w _ _).trans (hb.mono (by simp))
    clear hb
    go_wp2
    go_ret
    exact ⟨rfl, HB1.out⟩
  by_cases h6 : k = 6
  · subst h6
    rw [if_pos (by decide)]
    generalize nameB s.data.toList = b at *
    go_enter Tryz.func60, Tryz.ntmps60
    go_wp2_with fail
    refine (HN.out _ (below_cells _ _ _)).mono ?_
    rintro e w1 ⟨rfl, hb⟩
    have HB1 : Hid (Below w.heap.size w w1) := (below_cells w _ _).trans (hb.mono (by simp))
    clear hb
    go_wp2
    go_ret
    exact ⟨rfl, HB1.out⟩
  by_cases h7 : k = 7
  · subst h7
    rw [if_pos (by decide)]
    generalize nameB s.data.toList = b at *
    go_enter Tryz.func60, Tryz.ntmps60
    go_wp2_with fail
    refine (HN.out _ (below_cells _ _ _)).mono ?_
    rintro e w1 ⟨rfl, hb⟩
    have HB1 : Hid (Below w.heap.size w w1) := (below_cells w _ _).trans (hb.mono (by simp))
    clear hb
    go_wp2
    go_ret
    exact ⟨rfl, HB1.out⟩
  by_cases h13 : k = 13
  · subst h13
    rw [if_pos (by decide)]
    generalize nameB s.data.toList = b at *
    go_enter Tryz.func60, Tryz.ntmps60
    go_wp2_with fail
    refine (HN.out _ (below_cells _ _ _)).mono ?_
    rintro e w1 ⟨rfl, hb⟩
    have HB1 : Hid (Below w.heap.size w w1) := (below_cells w _ _).trans (hb.mono (by simp))
    clear hb
    go_wp2
    go_ret
    exact ⟨rfl, HB1.out⟩
  by_cases h21 : k = 21
  · subst h21
    rw [if_pos (by decide)]
    generalize nameB s.data.toList = b at *
    go_enter Tryz.func60, Tryz.ntmps60
    go_wp2_with fail
    refine (HN.out _ (below_cells _ _ _)).mono ?_
    rintro e w1 ⟨rfl, hb⟩
    have HB1 : Hid (Below w.heap.size w w1) := (below_cells w _ _).trans (hb.mono (by simp))
    clear hb
    go_wp2
    go_ret
    exact ⟨rfl, HB1.out⟩
  by_cases h33 : k = 33
  · subst h33
    rw [if_pos (by decide)]
    generalize nameB s.data.toList = b at *
    go_enter Tryz.func60, Tryz.ntmps60
    go_wp2_with fail
    refine (HN.out _ (below_cells _ _ _)).mono ?_
    rintro e w1 ⟨rfl, hb⟩
    have HB1 : Hid (Below w.heap.size w w1) := (below_cells w _ _).trans (hb.mono (by simp))
    clear hb
    go_wp2
    go_ret
    exact ⟨rfl, HB1.out⟩
  by_cases h34 : k = 34
  · subst h34
    rw [if_pos (by decide)]
    generalize nameB s.data.toList = b at *
    go_enter Tryz.func60, Tryz.ntmps60
    go_wp2_with fail
    refine (HN.out _ (below_cells _ _ _)).mono ?_
    rintro e w1 ⟨rfl, hb⟩
    have HB1 : Hid (Below w.heap.size w w1) := (below_cells w _ _).trans (hb.mono (by simp))
    clear hb
    go_wp2
    go_ret
    exact ⟨rfl, HB1.out⟩
  by_cases h35 : k = 35
  · subst h35
    rw [if_pos (by decide)]
    generalize nameB s.data.toList = b at *
    go_enter Tryz.func60, Tryz.ntmps60
    go_wp2_with fail
    refine (HN.out _ (below_cells _ _ _)).mono ?_
    rintro e w1 ⟨rfl, hb⟩
    have HB1 : Hid (Below w.heap.size w w1) := (below_cells w _ _).trans (hb.mono (by simp))
    clear hb
    go_wp2
    go_ret
    exact ⟨rfl, HB1.out⟩
  by_cases h36 : k = 36
  · subst h36
    rw [if_pos (by decide)]
    generalize nameB s.data.toList = b at *
    go_enter Tryz.func60, Tryz.ntmps60
    go_wp2_with fail
    refine (HN.out _ (below_cells _ _ _)).mono ?_
    rintro e w1 ⟨rfl, hb⟩
    have HB1 : Hid (Below w.heap.size w w1) := (below_cells w _ _).trans (hb.mono (by simp))
    clear hb
    go_wp2
    go_ret
    exact ⟨rfl, HB1.out⟩
  by_cases h41 : k = 41
  · subst h41
    rw [if_pos (by decide)]
    generalize nameB s.data.toList = b at *
    go_enter Tryz.func60, Tryz.ntmps60
    go_wp2_with fail
    refine (HN.out _ (below_cells _ _ _)).mono ?_
    rintro e w1 ⟨rfl, hb⟩
    have HB1 : Hid (Below w.heap.size w w1) := (below_cells w _ _).trans (hb.mono (by simp))
    clear hb
    go_wp2
    go_ret
    exact ⟨rfl, HB1.out⟩
  by_cases h51 : k = 51
  · subst h51
    rw [if_pos (by decide)]
    generalize nameB s.data.toList = b at *
    go_enter Tryz.func60, Tryz.ntmps60
    go_wp2_with fail
    refine (HN.out _ (below_cells _ _ _)).mono ?_
    rintro e w1 ⟨rfl, hb⟩
    have HB1 : Hid (Below w.heap.size w w1) := (below_cells w _ _).trans (hb.mono (by simp))
    clear hb
    go_wp2
    go_ret
    exact ⟨rfl, HB1.out⟩
  rw [if_neg (by simp [h2, h3, h4, h5, h6, h7, h13, h21, h33, h34, h35, h36, h41, h51])]
  have b2 : (k == 2) = false := by simpa using h2
  have b3 : (k == 3) = false := by simpa using h3
  have b4 : (k == 4) = false := by simpa using h4
  have b5 : (k == 5) = false := by simpa using h5
  have b6 : (k == 6) = false := by simpa using h6
  have b7 : (k == 7) = false := by simpa using h7
  have b13 : (k == 13) = false := by simpa using h13
  have b21 : (k == 21) = false := by simpa using h21
  have b33 : (k == 33) = false := by simpa using h33
  have b34 : (k == 34) = false := by simpa using h34
  have b35 : (k == 35) = false := by simpa using h35
  have b36 : (k == 36) = false := by simpa using h36
  have b41 : (k == 41) = false := by simpa using h41
  have b51 : (k == 51) = false := by simpa using h51
  by_cases h37 : k = 37
  · subst h37
    rw [if_pos (by decide)]
    generalize (Lib.cut s.data.toList [58, 58]).2.2 = b0 at *
    generalize (Lib.cut s.data.toList [58, 58]).1 = l1 at *
    generalize (Lib.cut s.data.toList [58, 58]).2.1 = l2 at *
    generalize nameB l1 = b1 at *
    generalize nameB l2 = b2 at *
    go_enter Tryz.func60, Tryz.ntmps60
    go_wp2_with fail
    refine (HC.out _ (below_cells _ _ _)).mono ?_
    rintro e w1 ⟨rfl, hb⟩
    have HB1 : Hid (Below w.heap.size w w1) := (below_cells w _ _).trans (hb.mono (by simp))
    clear hb
    cases b0
    · go_wp2
      go_ret
      exact ⟨rfl, HB1.out⟩
    · cases b1
      · go_wp2_with fail
        refine (HA.out _ HB1.out).mono ?_
        rintro e w2 ⟨rfl, hb⟩
        have HB2 : Hid (Below w.heap.size w w2) := HB1.out.trans (hb.mono HB1.out.size)
        clear hb
        go_wp2
        go_ret
        exact ⟨rfl, HB2.out⟩
      · go_wp2_with fail
        refine (HA.out _ HB1.out).mono ?_
        rintro e w2 ⟨rfl, hb⟩
        have HB2 : Hid (Below w.heap.size w w2) := HB1.out.trans (hb.mono HB1.out.size)
        clear hb
        go_wp2_with fail
        refine (HB.out _ HB2.out).mono ?_
        rintro e w3 ⟨rfl, hb⟩
        have HB3 : Hid (Below w.heap.size w w3) := HB2.out.trans (hb.mono HB2.out.size)
        clear hb
        go_wp2
        go_ret
        exact ⟨rfl, HB3.out⟩
  by_cases h54 : k = 54
  · subst h54
    rw [if_pos (by decide)]
    generalize (Lib.cut s.data.toList [58, 58]).2.2 = b0 at *
    generalize (Lib.cut s.data.toList [58, 58]).1 = l1 at *
    generalize (Lib.cut s.data.toList [58, 58]).2.1 = l2 at *
    generalize nameB l1 = b1 at *
    generalize nameB l2 = b2 at *
    go_enter Tryz.func60, Tryz.ntmps60
    go_wp2_with fail
    refine (HC.out _ (below_cells _ _ _)).mono ?_
    rintro e w1 ⟨rfl, hb⟩
    have HB1 : Hid (Below w.heap.size w w1) := (below_cells w _ _).trans (hb.mono (by simp))
    clear hb
    cases b0
    · go_wp2
      go_ret
      exact ⟨rfl, HB1.out⟩
    · cases b1
      · go_wp2_with fail
        refine (HA.out _ HB1.out).mono ?_
        rintro e w2 ⟨rfl, hb⟩
        have HB2 : Hid (Below w.heap.size w w2) := HB1.out.trans (hb.mono HB1.out.size)
        clear hb
        go_wp2
        go_ret
        exact ⟨rfl, HB2.out⟩
      · go_wp2_with fail
        refine (HA.out _ HB1.out).mono ?_
        rintro e w2 ⟨rfl, hb⟩
        have HB2 : Hid (Below w.heap.size w w2) := HB1.out.trans (hb.mono HB1.out.size)
        clear hb
        go_wp2_with fail
        refine (HB.out _ HB2.out).mono ?_
        rintro e w3 ⟨rfl, hb⟩
        have HB3 : Hid (Below w.heap.size w w3) := HB2.out.trans (hb.mono HB2.out.size)
        clear hb
        go_wp2
        go_ret
        exact ⟨rfl, HB3.out⟩
  rw [if_neg (by simp [h37, h54])]
  have b37 : (k == 37) = false := by simpa using h37
  have b54 : (k == 54) = false := by simpa using h54
  by_cases h38 : k = 38
  · subst h38
    rw [if_pos rfl]
    generalize sgnB s.data.toList = b at *
    go_enter Tryz.func60, Tryz.ntmps60
    go_wp2_with (go_at_call 84; refine (HS.out _).mono ?_; rintro e w1 ⟨rfl, rfl⟩)
    go_ret
    exact ⟨rfl, below_cells _ _ _⟩
  rw [if_neg h38]
  have b38 : (k == 38) = false := by simpa using h38
  go_enter Tryz.func60, Tryz.ntmps60
  go_wp2
  go_ret
  exact ⟨ret_bool (by simp [ByteArray.toList_eq]), below_cells _ _ _⟩
end
section
open Go.RowKit Go.Shelf
theorem low1 {a : Int} (h0 : 0 ≤ a) (h1 : a < 18446744073709551616) : bits .and .u64 a 1 = a % 2 := by
  rw [u64_and a 1 h0 h1 (by omega) (by omega)]
  have e : (1 : Int).toNat = 2 ^ 1 - 1 := rfl
  rw [e, Nat.and_two_pow_sub_one_eq_mod, Int.natCast_emod, Int.toNat_of_nonneg h0]
  rfl
theorem odd_eq (d : Nat) (h : d < 18446744073709551616) : (bits .and .u64 (d : Int) 1 == 1) = decide (d % 2 = 1) := by
  rw [low1 (by omega) (by omega), Bool.eq_iff_iff]
  simp
  omega
def hasB (g : Nat) (k : Int) : Bool := decide (0 ≤ k) && (decide (k < 64) && decide (g / 2 ^ k.toNat % 2 = 1))
set_option maxHeartbeats 2000000 in
theorem has37 (g : Nat) (k : Int) (w : World) (hg : g < 18446744073709551616) : Calls Tryz.prog 37 #[.int .u64 g, .int .i64 k] w fun e w' => e = .returned (.bool (hasB g k)) ∧ w' = w := by
  by_cases h0 : 0 ≤ k
  · by_cases h1 : k < 64
    · obtain ⟨j, rfl⟩ : ∃ j : Nat, k = j := ⟨k.toNat, by omega⟩
      go_enter Tryz.func37, Tryz.ntmps37
      go_wp2
      go_ret
      refine ⟨ret_bool ?_, rfl⟩
      have e : (g : Int) / 2 ^ j = ((g / 2 ^ j : Nat) : Int) := by simp
      have hle : g / 2 ^ j ≤ g := Nat.div_le_self _ _
      rw [e, odd_eq _ (by omega), hasB]
      simp [h1]
    · go_enter Tryz.func37, Tryz.ntmps37
      go_wp2
      go_ret
      exact ⟨ret_bool (by rw [hasB, show decide (k < 64) = false from decide_eq_false (by omega)]; simp), rfl⟩
  · go_enter Tryz.func37, Tryz.ntmps37
    go_wp2
    go_ret
    exact ⟨ret_bool (by rw [hasB, show decide (0 ≤ k) = false from decide_eq_false (by omega)]; rfl), rfl⟩
end
section
open Go.RowKit Go.Shelf
/-- A node, with its kids' slice. -/
structure Nd where
  k : Int
  nm : ByteArray
  v : Int
  ka : Option Addr
  kc : Nat
  ks : List Int
  fr : Int
  en : Int
def ndc (x : Nd) : List Value := [.int .i64 x.k, .string x.nm, .int .i64 x.v, .slice x.ka x.ks.length x.kc, .int .i64 x.fr, .int .i64 x.en]
/-- Numbers in memory. -/
def IsA (w : World) (ao : Option Addr) (c : Nat) (l : List Int) : Prop := l.length ≤ c ∧ c ≤ 9223372036854775807 ∧ (0 < l.length → ∃ g o, ao = some ⟨g, o, none⟩ ∧ ∀ j y, l[j]? = some y → w.cell? ⟨g, o + j, none⟩ = some (.int .i64 y))
theorem IsA.below {W W' : World} {ao : Option Addr} {c : Nat} {l : List Int} (h : IsA W ao c l) (hb : Below W.heap.size W W') : IsA W' ao c l := by
  obtain ⟨h1, h2, h3⟩ := h
  refine ⟨h1, h2, fun hl => ?_⟩
  obtain ⟨g, o, e1, e2⟩ := h3 hl
  exact ⟨g, o, e1, fun j y hy => by
    have t := e2 j y hy
    rw [(bcell hb).1 g _ (World.block_lt_of_cell? _ _ t)]
    exact t⟩
structure okN (w : World) (x : Nd) : Prop where
  nm : x.nm.size ≤ 4294967280
  v0 : -9223372036854775808 ≤ x.v
  v1 : x.v ≤ 9223372036854775807
  ks : IsA w x.ka x.kc x.ks
/-- Nodes in memory. -/
def NdA (w : World) (ao : Option Addr) (c : Nat) (l : List Nd) : Prop := l.length ≤ c ∧ c ≤ 9223372036854775807 ∧ (∀ x ∈ l, okN w x) ∧ (0 < l.length → ∃ g o, ao = some ⟨g, o, none⟩ ∧ ∀ i x, l[i]? = some x → ∀ j y, (ndc x)[j]? = some y → w.cell? ⟨g, o + i * 6 + j, none⟩ = some y)
theorem NdA.below {W W' : World} {ao : Option Addr} {c : Nat} {l : List Nd} (h : NdA W ao c l) (hb : Below W.heap.size W W') : NdA W' ao c l := by
  obtain ⟨h1, h2, h3, h4⟩ := h
  refine ⟨h1, h2, fun x hx => ⟨(h3 x hx).nm, (h3 x hx).v0, (h3 x hx).v1, (h3 x hx).ks.below hb⟩, fun hl => ?_⟩
  obtain ⟨g, o, e1, e2⟩ := h4 hl
  exact ⟨g, o, e1, fun i x hi j y hy => by
    have t := e2 i x hi j y hy
    rw [(bcell hb).1 g _ (World.block_lt_of_cell? _ _ t)]
    exact t⟩
theorem nd_cells {W : World} {g o : Nat} {l : List Nd} {k : Nat} {x : Nd} (h : ∀ i x, l[i]? = some x → ∀ j y, (ndc x)[j]? = some y → W.cell? ⟨g, o + i * 6 + j, none⟩ = some y) (hx : l[k]? = some x) : W.cell? ⟨g, o + k * 6, none⟩ = some (.int .i64 x.k) ∧ W.cell? ⟨g, o + k * 6 + 1, none⟩ = some (.string x.nm) ∧ W.cell? ⟨g, o + k * 6 + 2, none⟩ = some (.int .i64 x.v) ∧ W.cell? ⟨g, o + k * 6 + 3, none⟩ = some (.slice x.ka x.ks.length x.kc) ∧ W.cell? ⟨g, o + k * 6 + 4, none⟩ = some (.int .i64 x.fr) ∧ W.cell? ⟨g, o + k * 6 + 5, none⟩ = some (.int .i64 x.en) :=
  ⟨h k x hx 0 _ rfl, h k x hx 1 _ rfl, h k x hx 2 _ rfl, h k x hx 3 _ rfl, h k x hx 4 _ rfl, h k x hx 5 _ rfl⟩
/-- The kind of the node at a place. -/
def kdK (l : List Nd) (y : Int) : Int := match l[y.toNat]? with
  | some x => x.k
  | none => 0
def Inn (l : List Nd) (ks : List Int) : Prop := ∀ y ∈ ks, 0 ≤ y ∧ y < l.length
def kAll (l : List Nd) (ks : List Int) (g : Nat) : Bool := ks.all fun y => hasB g (kdK l y)
theorem cells53 : Tryz.prog.cellsOf 53 = 6 := by kernel_rfl
theorem cells3' : Tryz.prog.cellsOf 3 = 1 := by kernel_rfl
set_option maxRecDepth 100000 in
set_option maxHeartbeats 4000000 in
theorem kindsAll88 (l : List Nd) (ks : List Int) (ao ko : Option Addr) (c kc g : Nat) (w : World) (hl : NdA w ao c l) (hk : IsA w ko kc ks) (hi : Inn l ks) (hg : g < 18446744073709551616) : Calls Tryz.prog 88 #[.slice ao l.length c, .slice ko ks.length kc, .int .u64 g] w fun e w' => e = .returned (.bool (kAll l ks g)) ∧ w' = w := by
  obtain ⟨h1, h2, h3, h4⟩ := hl
  obtain ⟨k1, k2, k3⟩ := hk
  obtain ⟨n, hn⟩ : ∃ n, n = l.length := ⟨_, rfl⟩
  obtain ⟨m, hm⟩ : ∃ m, m = ks.length := ⟨_, rfl⟩
  have HN : Hid (n = l.length ∧ m = ks.length) := ⟨hn, hm⟩
  have H4 : Hid (0 < n → ∃ g o, ao = some ⟨g, o, none⟩ ∧ ∀ i x, l[i]? = some x → ∀ j y, (ndc x)[j]? = some y → w.cell? ⟨g, o + i * 6 + j, none⟩ = some y) := by rw [hn]; exact h4
  have K3 : Hid (0 < m → ∃ g o, ko = some ⟨g, o, none⟩ ∧ ∀ j y, ks[j]? = some y → w.cell? ⟨g, o + j, none⟩ = some (.int .i64 y)) := by rw [hm]; exact k3
  have HI : Hid (Inn l ks) := hi
  have HH : Hid (∀ k W, Calls Tryz.prog 37 #[.int .u64 g, .int .i64 k] W fun e w' => e = .returned (.bool (hasB g k)) ∧ w' = W) := fun k W => has37 g k W hg
  rw [← hn] at h1 ⊢
  rw [← hm] at k1 ⊢
  clear h3 h4 k3 hn hm hi
  have c53 := cells53
  have c3 := cells3'
  generalize hR : kAll l ks g = R at *
  have HR : Hid (kAll l ks g = R) := hR
  clear hR
  go_enter Tryz.func88, Tryz.ntmps88
  go_wp2
  go_loop [11] (fun i => ∃ j : Nat, j ≤ m ∧ i = .int .i64 j ∧ kAll l (ks.take j) g = true) (fun i => m - (intOf i).toNat)
  case atStart => exact ⟨0, Nat.zero_le _, rfl, rfl⟩
  case round =>
    obtain ⟨j, hj, rfl, hT⟩ := hrel
    have HT : Hid (kAll l (ks.take j) g = true) := hT
    clear hT
    by_cases hlt : j < m
    · obtain ⟨y, hy⟩ : ∃ y, ks[j]? = some y := ⟨_, List.getElem?_eq_getElem (by have := HN.out.2; omega)⟩
      obtain ⟨gk, ok, rfl, hkc⟩ := K3.out (by omega)
      have a0 := hkc j y hy
      obtain ⟨y0, y1⟩ := HI.out y (List.mem_of_getElem? hy)
      obtain ⟨q, rfl⟩ : ∃ q : Nat, y = q := ⟨y.toNat, by omega⟩
      have hqn : q < n := by have := HN.out.1; omega
      obtain ⟨x, hx⟩ : ∃ x, l[q]? = some x := ⟨_, List.getElem?_eq_getElem (by have := HN.out.1; omega)⟩
      obtain ⟨gn, on, rfl, hnc⟩ := H4.out (by omega)
      obtain ⟨b0, _⟩ := nd_cells hnc hx
      have hkd : kdK l (q : Int) = x.k := by unfold kdK; rw [Int.toNat_natCast, hx]
      have HV : Hid (kAll l (ks.take (j + 1)) g = hasB g x.k ∧ (hasB g x.k = false → R = false)) := by
        refine ⟨?_, fun h => ?_⟩
        · rw [List.take_add_one, hy]
          unfold kAll at *
          rw [List.all_append, HT.out, Bool.true_and]
          simp [hkd]
        · rw [← HR.out, ← Bool.not_eq_true]
          unfold kAll
          rw [List.all_eq_true]
          intro hh
          have t := hh q (List.mem_of_getElem? hy)
          rw [hkd, h] at t
          cases t
      clear hkc hnc hx hy hkd
      have H1 := (show Hid _ from HH.out x.k)
      generalize x.k = K at *
      generalize hasB g K = b at *
      cases b
      · obtain rfl := HV.out.2 rfl
        go_wp2_with (go_at_call 37; refine (H1.out _).mono ?_; rintro e w' ⟨rfl, rfl⟩)
        go_ret
        exact ⟨rfl, rfl⟩
      · go_wp2_with (go_at_call 37; refine (H1.out _).mono ?_; rintro e w' ⟨rfl, rfl⟩)
        exact ⟨⟨j + 1, by omega, by go_num, HV.out.1⟩, by simp [intOf]; omega⟩
    · obtain rfl : j = m := by omega
      have hta : ks.take j = ks := List.take_of_length_le (by have := HN.out.2; omega)
      have hR : R = true := by rw [← HR.out, ← HT.out, hta]
      subst hR
      go_wp2
      go_ret
      exact ⟨rfl, rfl⟩
end
section
open Go.RowKit Go.Shelf
def cutN (n : Nat) (last : Nat) : Nat := n - last
theorem isa_take {w : World} {ao : Option Addr} {c : Nat} {l : List Int} (h : IsA w ao c l) (k : Nat) : IsA w ao c (l.take k) := by
  obtain ⟨h1, h2, h3⟩ := h
  refine ⟨by rw [List.length_take]; omega, h2, fun hl => ?_⟩
  rw [List.length_take] at hl
  obtain ⟨g, o, e1, e2⟩ := h3 (by omega)
  exact ⟨g, o, e1, fun j y hy => e2 j y (by rw [List.getElem?_take] at hy; split at hy; exact hy; cases hy)⟩
set_option maxRecDepth 100000 in
set_option maxHeartbeats 4000000 in
theorem cut89 (ks : List Int) (ko : Option Addr) (kc last : Nat) (w : World) (hk : IsA w ko kc ks) (hb : last ≤ 4294967296) : Calls Tryz.prog 89 #[.slice ko ks.length kc, .int .i64 last] w fun e w' => (∃ n, w' = w.drewN n) ∧ ∃ a1 c1 a2 c2, e = .returned (.tuple #[.slice a1 (ks.take (ks.length - last)).length c1, .slice a2 (ks.drop (ks.length - last)).length c2]) ∧ IsA w a1 c1 (ks.take (ks.length - last)) ∧ IsA w a2 c2 (ks.drop (ks.length - last)) := by
  have HK : Hid (IsA w ko kc ks) := hk
  obtain ⟨k1, k2, k3⟩ := hk
  rw [List.length_take, List.length_drop]
  have HM : Hid (∀ a, a = ks.length - last → IsA w ko kc (ks.take a)) := fun a ha => isa_take HK.out a
  obtain ⟨m, hm⟩ : ∃ m, m = ks.length := ⟨_, rfl⟩
  obtain ⟨a, ha⟩ : ∃ a, a = m - last := ⟨_, rfl⟩
  rw [← hm] at k1 k3 ⊢
  have hmin : min a m = a := by omega
  rw [← ha, hmin]
  have hmx : max ((m : Int) - (last : Int)) 0 = (a : Int) := by omega
  have hwr : IntKind.i64.wrap ((m : Int) - (last : Int)) = (m : Int) - (last : Int) := by simp [IntKind.wrap, IntKind.bits, IntKind.signed]; omega
  have ham : a ≤ m := by omega
  have HH : Hid (m = ks.length ∧ a = m - last) := ⟨hm, ha⟩
  clear hm ha hmin HM
  have c3 := cells3'
  go_enter Tryz.func89, Tryz.ntmps89
  go_wp2
  go_quiet (fail)
  obtain ⟨a2, h2⟩ : ∃ a2, a2 = (if kc = a then ko else Option.map (fun x => x.add a) ko) := ⟨_, rfl⟩
  rw [← h2]
  have H2 : Hid (a2 = (if kc = a then ko else Option.map (fun x => x.add a) ko)) := h2
  clear h2
  go_wp2
  go_ret2
  refine ⟨⟨nq, rfl⟩, ko, kc, a2, kc - a, rfl, isa_take HK.out a, ?_⟩
  obtain ⟨g1, g2⟩ := HH.out
  refine ⟨by rw [List.length_drop]; omega, by omega, fun hl => ?_⟩
  rw [List.length_drop] at hl
  obtain ⟨g, o, e1, e2⟩ := k3 (by omega)
  refine ⟨g, o + a, ?_, fun j y hy => ?_⟩
  · rw [H2.out, if_neg (by omega), e1]
    simp [Addr.add_lit]
  · rw [List.getElem?_drop] at hy
    rw [Nat.add_assoc]
    exact e2 _ _ hy
end
end Go.Proofs.YtkkmeogehapjoaaGreatDoor
