/- Tokens of numbers, names and keywords, by the document. -/
import Derived.Test.YtgdbfedagdlgkaaDoorH5
namespace Go.Proofs.YtgdbfedagdlgkaaDoor
open Go.RowKit Go.Shelf
def zer5 : Obj := .cells #[.int .i64 0, .string ⟨#[]⟩, .int .i64 0, .int .i64 0, .int .i64 0] 42 (0, 0)
theorem zer5_cells {W : World} {g : Nat} (h : W.heap[g]? = some zer5) : W.cell? ⟨g, 0, none⟩ = some (.int .i64 0) ∧ W.cell? ⟨g, 1, none⟩ = some (.string ⟨#[]⟩) ∧ W.cell? ⟨g, 2, none⟩ = some (.int .i64 0) ∧ W.cell? ⟨g, 3, none⟩ = some (.int .i64 0) ∧ W.cell? ⟨g, 4, none⟩ = some (.int .i64 0) ∧ (∀ i, W.frozen? ⟨g, i, none⟩ = false) ∧ g < W.heap.size :=
  ⟨Joins.cell_of_block h 0, Joins.cell_of_block h 1, Joins.cell_of_block h 2, Joins.cell_of_block h 3, Joins.cell_of_block h 4, Joins.unfrozen_of_block h, lt_of_block h⟩
theorem two_zero (w : World) : ((w.alloc zer5).alloc zer3).heap[w.heap.size]? = some zer5 ∧ ((w.alloc zer5).alloc zer3).heap[w.heap.size + 1]? = some zer3 := by
  constructor
  · rw [Below.heap_alloc _ _ _ (by simp)]
    show (w.heap.push zer5)[w.heap.size]? = _
    simp
  · have t : ((w.alloc zer5).alloc zer3).heap[(w.alloc zer5).heap.size]? = some zer3 := by
      show ((w.alloc zer5).heap.push zer3)[(w.alloc zer5).heap.size]? = _
      exact Array.getElem?_push_size
    rwa [show (w.alloc zer5).heap.size = w.heap.size + 1 by simp] at t
theorem below_both (w : World) : Below w.heap.size w ((w.alloc zer5).alloc zer3) := ((Below.refl _ w).alloc (Nat.le_refl _) _).alloc (by simp) _
theorem below8 {w W : World} (hb : Below w.heap.size w W) (a b c d e f g h : Value) : Below w.heap.size w ((((((((W.setCell ⟨w.heap.size, 0, none⟩ a).setCell ⟨w.heap.size, 1, none⟩ b).setCell ⟨w.heap.size, 2, none⟩ c).setCell ⟨w.heap.size, 3, none⟩ d).setCell ⟨w.heap.size, 4, none⟩ e).setCell ⟨w.heap.size + 1, 0, none⟩ f).setCell ⟨w.heap.size + 1, 1, none⟩ g).setCell ⟨w.heap.size + 1, 2, none⟩ h) :=
  (((((((hb.setCell (Nat.le_refl _) a).setCell (Nat.le_refl _) b).setCell (Nat.le_refl _) c).setCell (Nat.le_refl _) d).setCell (Nat.le_refl _) e).setCell (Nat.le_succ _) f).setCell (Nat.le_succ _) g).setCell (Nat.le_succ _) h
def dgv (c f t : Int) : Value := .agg #[.int .i64 c, .int .i64 f, .int .i64 t]
set_option maxRecDepth 100000 in
set_option maxHeartbeats 4000000 in
theorem named31_long (s : ByteArray) (a : Nat) (w : World) (hs : s.size ≤ 140737488355328) (ha : a ≤ s.size) (hn : 64 < nsz (s.data.toList.drop a)) : Calls Tryd.prog 31 #[.string s, .int .i64 a] w fun e w' => e = .returned (.tuple #[tkv 0 ⟨#[]⟩ 0 0 0, dgv 2 a ((a + nsz (s.data.toList.drop a) : Nat) : Int)]) ∧ Below w.heap.size w w' := by
  have HC : Hid (∀ W, Calls Tryd.prog 27 #[.string s, .int .i64 a] W fun e w' => e = .returned (.int .i64 ((a + nsz (s.data.toList.drop a) : Nat) : Int)) ∧ w' = W) := fun W => run27 s a W (by unfold maxLen; omega) ha
  have hle := nsz_le (s.data.toList.drop a)
  rw [List.length_drop, len_of] at hle
  generalize nsz (s.data.toList.drop a) = m at *
  unfold tkv dgv
  go_enter Tryd.func31, Tryd.ntmps31
  go_wp2_with (first | (go_at_call 27; refine (HC.out _).mono ?_; rintro e w' ⟨rfl, rfl⟩) | fail)
  refine (diag24 _ _ _ _).mono ?_
  rintro e w1 ⟨rfl, hb⟩
  have HB : Hid (Below w.heap.size w w1) := (below_both w).trans (hb.mono (by simp; omega))
  obtain ⟨y0, y1, y2, y3, y4, y5, y6⟩ := zer5_cells (keep_block (two_zero w).1 hb)
  obtain ⟨z0, z1, z2, z3, z4⟩ := zer_cells (keep_block (two_zero w).2 hb)
  clear hb
  go_wp2
  exact bodyPost_ret (v := .tuple #[.agg #[.int .i64 0, .string ⟨#[]⟩, .int .i64 0, .int .i64 0, .int .i64 0], .agg #[.int .i64 2, .int .i64 a, .int .i64 ((a + m : Nat) : Int)]]) (by simp [results, Tryd.results31, go_sem, y0, y1, y2, y3, y4, z0, z1, z2]) rfl ⟨rfl, below8 HB.out _ _ _ _ _ _ _ _⟩
set_option maxRecDepth 100000 in
set_option maxHeartbeats 4000000 in
theorem named31_ok (s : ByteArray) (a : Nat) (w : World) (hs : s.size ≤ 140737488355328) (ha : a ≤ s.size) (hn : ¬ 64 < nsz (s.data.toList.drop a)) : Calls Tryd.prog 31 #[.string s, .int .i64 a] w fun e w' => e = .returned (.tuple #[tkv (if wdB ((s.data.toList.drop a).take (nsz (s.data.toList.drop a))) then 2 else 1) (s.extract a (a + nsz (s.data.toList.drop a))) 0 a ((a + nsz (s.data.toList.drop a) : Nat) : Int), dgv 0 0 0]) ∧ Below w.heap.size w w' := by
  have HC : Hid (∀ W, Calls Tryd.prog 27 #[.string s, .int .i64 a] W fun e w' => e = .returned (.int .i64 ((a + nsz (s.data.toList.drop a) : Nat) : Int)) ∧ w' = W) := fun W => run27 s a W (by unfold maxLen; omega) ha
  have hle := nsz_le (s.data.toList.drop a)
  rw [List.length_drop, len_of] at hle
  have HW : Hid (∀ W, Calls Tryd.prog 14 #[.string (s.extract a (a + nsz (s.data.toList.drop a)))] W fun e w' => e = .returned (.bool (wdB ((s.data.toList.drop a).take (nsz (s.data.toList.drop a))))) ∧ Below W.heap.size W w') := fun W => by
    have t := word14 (s.extract a (a + nsz (s.data.toList.drop a))) W
    rw [toList_cut, Nat.add_sub_cancel_left] at t
    exact t
  generalize hB : wdB ((s.data.toList.drop a).take (nsz (s.data.toList.drop a))) = B at *
  clear hB
  generalize nsz (s.data.toList.drop a) = m at *
  unfold tkv dgv
  cases B
  all_goals
    simp only [Bool.false_eq_true, if_false, if_true]
    go_enter Tryd.func31, Tryd.ntmps31
    go_wp2_with (first | (go_at_call 27; refine (HC.out _).mono ?_; rintro e w' ⟨rfl, rfl⟩) | fail)
    refine (HW.out _).mono ?_
    rintro e w1 ⟨rfl, hb⟩
    have HB : Hid (Below w.heap.size w w1) := (below_both w).trans (hb.mono (by simp; omega))
    obtain ⟨y0, y1, y2, y3, y4, y5, y6⟩ := zer5_cells (keep_block (two_zero w).1 hb)
    obtain ⟨z0, z1, z2, z3, z4⟩ := zer_cells (keep_block (two_zero w).2 hb)
    clear hb
    go_wp2
  · exact bodyPost_ret (v := .tuple #[.agg #[.int .i64 1, .string (s.extract a (a + m)), .int .i64 0, .int .i64 a, .int .i64 ((a + m : Nat) : Int)], .agg #[.int .i64 0, .int .i64 0, .int .i64 0]]) (by simp [results, Tryd.results31, go_sem, y0, y1, y2, y3, y4, z0, z1, z2]) rfl ⟨rfl, below8 HB.out _ _ _ _ _ _ _ _⟩
  · exact bodyPost_ret (v := .tuple #[.agg #[.int .i64 2, .string (s.extract a (a + m)), .int .i64 0, .int .i64 a, .int .i64 ((a + m : Nat) : Int)], .agg #[.int .i64 0, .int .i64 0, .int .i64 0]]) (by simp [results, Tryd.results31, go_sem, y0, y1, y2, y3, y4, z0, z1, z2]) rfl ⟨rfl, below8 HB.out _ _ _ _ _ _ _ _⟩
theorem digits_not {l : List UInt8} (h : ¬ allD l) : ∃ c ∈ l, ¬ (48 ≤ c.toNat ∧ c.toNat ≤ 57) := by
  apply Classical.byContradiction
  intro hn
  exact h fun c hc => Classical.byContradiction fun hx => hn ⟨c, hc, hx⟩
set_option maxRecDepth 100000 in
set_option maxHeartbeats 8000000 in
theorem numbered29 (s : ByteArray) (a : Nat) (w : World) (hs : s.size ≤ 140737488355328) (ha : a < s.size) (hd : dgB (bt (s.data.toList.drop a) 0) = true) : Calls Tryd.prog 29 #[.string s, .int .i64 a] w fun e w' => (match nuO ((s.data.toList.drop a).take (nsz (s.data.toList.drop a))) with
    | some v => e = .returned (.tuple #[tkv 3 (s.extract a (a + nsz (s.data.toList.drop a))) v a ((a + nsz (s.data.toList.drop a) : Nat) : Int), dgv 0 0 0])
    | none => e = .returned (.tuple #[tkv 0 ⟨#[]⟩ 0 0 0, dgv 112 a ((a + nsz (s.data.toList.drop a) : Nat) : Int)])) ∧ Below w.heap.size w w' := by
  have ha' : a ≤ s.size := by omega
  have HC : Hid (∀ W, Calls Tryd.prog 27 #[.string s, .int .i64 a] W fun e w' => e = .returned (.int .i64 ((a + nsz (s.data.toList.drop a) : Nat) : Int)) ∧ w' = W) := fun W => run27 s a W (by unfold maxLen; omega) ha'
  have hle := nsz_le (s.data.toList.drop a)
  have hlen : (s.data.toList.drop a).length = s.size - a := by rw [List.length_drop, len_of]
  have hpos : 0 < nsz (s.data.toList.drop a) := by
    apply Classical.byContradiction
    intro hz
    have := nsz_end (s.data.toList.drop a) (by omega)
    rw [show nsz (s.data.toList.drop a) = 0 by omega, nm_split, hd] at this
    cases this
  obtain ⟨t, ht⟩ : ∃ t, t = (s.data.toList.drop a).take (nsz (s.data.toList.drop a)) := ⟨_, rfl⟩
  have htl : t.length = nsz (s.data.toList.drop a) := by rw [ht, List.length_take]; omega
  have hbt : ∀ j, j < nsz (s.data.toList.drop a) → bt t j = bt s.data.toList (a + j) := fun j hj => by rw [ht, bt_take _ hj, bt_drop]
  have hcap := nuO_cap t (fun e => by rw [e] at htl; simp at htl; omega) (by rw [hbt 0 hpos, ← bt_drop]; exact hd)
  rw [← ht]
  have hx : (s.extract a (a + nsz (s.data.toList.drop a))).data.toList = t := by rw [toList_cut, Nat.add_sub_cancel_left, ht]
  have hxs : (s.extract a (a + nsz (s.data.toList.drop a))).size ≤ 140737488355328 := by simp; omega
  have HN : Hid (allD t → ∀ W, Calls Tryd.prog 48 #[.string (s.extract a (a + nsz (s.data.toList.drop a)))] W fun e w' => numR (rnum 0 t) e ∧ w' = W) := fun hall W => by
    have q := number48 (s.extract a (a + nsz (s.data.toList.drop a))) W hxs (by rw [hx]; exact hall)
    rw [hx] at q
    exact q
  have HAt : Hid (∀ j (h : a + j < s.size), j < nsz (s.data.toList.drop a) → s[a + j].toNat = bt t j) := fun j h hj => by rw [at_bt s (a + j) h, hbt j hj]
  clear hx hxs hbt hd ht
  rw [hlen] at hle
  clear hlen
  generalize nsz (s.data.toList.drop a) = m at *
  by_cases hall : allD t
  · have hrn := rnum_eq t 0 hall
    rw [hrn] at hcap
    have HB : Hid (∀ j, j < m → dgB (bt t j) = true) := fun j hj => (dgB_iff _).2 (allD_bt hall (by omega))
    have HN2 : Hid (∀ W, Calls Tryd.prog 48 #[.string (s.extract a (a + m))] W fun e w' => numR (rnum 0 t) e ∧ w' = W) := HN.out hall
    clear hrn hall HN
    rw [hcap]
    clear hcap
    cases hq : rnum 0 t with
    | some v =>
      rw [hq] at HN2
      simp only [Option.map_some]
      unfold numR at HN2
      unfold tkv dgv
      clear hq
      simp only at HN2
      go_enter Tryd.func29, Tryd.ntmps29
      go_wp2_with (go_at_call 27; refine (HC.out _).mono ?_; rintro e w' ⟨rfl, rfl⟩)
      go_loop [7] (fun i => ∃ j : Nat, j ≤ m ∧ i = .int .i64 ((a + j : Nat) : Int)) (fun i => a + m - (intOf i).toNat)
      case atStart => exact ⟨0, by omega, rfl⟩
      case round =>
        obtain ⟨j, hj, rfl⟩ := hrel
        by_cases hlt : j < m
        · have hb : s[a + j].toNat = bt t j := HAt.out j (by omega) hlt
          have hdj := HB.out j hlt
          generalize bt t j = c at *
          go_wp2_with (go_at_call 28; refine (digit28 _ _).mono ?_; rintro e w' ⟨rfl, rfl⟩)
          go_round
          case rel => exact ⟨j + 1, by omega, by go_num⟩
          case measure => simp [intOf]; omega
        · obtain rfl : j = m := by omega
          go_wp2_with (go_at_call 48; refine (HN2.out _).mono ?_; rintro e w' ⟨rfl, rfl⟩)
          exact bodyPost_ret (v := .tuple #[.agg #[.int .i64 3, .string (s.extract a (a + j)), .int .i64 v, .int .i64 a, .int .i64 ((a + j : Nat) : Int)], .agg #[.int .i64 0, .int .i64 0, .int .i64 0]]) (by simp [results, Tryd.results29, go_sem]) rfl ⟨rfl, (below_cells _ _ _).alloc (by simp) _⟩
    | none =>
      rw [hq] at HN2
      simp only [Option.map_none]
      unfold numR at HN2
      unfold tkv dgv
      clear hq
      simp only at HN2
      go_enter Tryd.func29, Tryd.ntmps29
      go_wp2_with (go_at_call 27; refine (HC.out _).mono ?_; rintro e w' ⟨rfl, rfl⟩)
      go_loop [7] (fun i => ∃ j : Nat, j ≤ m ∧ i = .int .i64 ((a + j : Nat) : Int)) (fun i => a + m - (intOf i).toNat)
      case atStart => exact ⟨0, by omega, rfl⟩
      case round =>
        obtain ⟨j, hj, rfl⟩ := hrel
        by_cases hlt : j < m
        · have hb : s[a + j].toNat = bt t j := HAt.out j (by omega) hlt
          have hdj := HB.out j hlt
          generalize bt t j = c at *
          go_wp2_with (go_at_call 28; refine (digit28 _ _).mono ?_; rintro e w' ⟨rfl, rfl⟩)
          go_round
          case rel => exact ⟨j + 1, by omega, by go_num⟩
          case measure => simp [intOf]; omega
        · obtain rfl : j = m := by omega
          go_wp2_with (first | (go_at_call 48; refine (HN2.out _).mono ?_; rintro e w' ⟨⟨x, rfl⟩, rfl⟩) | fail)
          refine (diag24 _ _ _ _).mono ?_
          rintro e w1 ⟨rfl, hb⟩
          have HB1 : Hid (Below w.heap.size w w1) := (below_both w).trans (hb.mono (by simp; omega))
          obtain ⟨y0, y1, y2, y3, y4, y5, y6⟩ := zer5_cells (keep_block (two_zero w).1 hb)
          obtain ⟨z0, z1, z2, z3, z4⟩ := zer_cells (keep_block (two_zero w).2 hb)
          clear hb
          go_wp2
          exact bodyPost_ret (v := .tuple #[.agg #[.int .i64 0, .string ⟨#[]⟩, .int .i64 0, .int .i64 0, .int .i64 0], .agg #[.int .i64 112, .int .i64 a, .int .i64 ((a + j : Nat) : Int)]]) (by simp [results, Tryd.results29, go_sem, y0, y1, y2, y3, y4, z0, z1, z2]) rfl ⟨rfl, below8 HB1.out _ _ _ _ _ _ _ _⟩
  · rw [parse_bad _ _ _ (digits_not hall)] at hcap
    have HNo : Hid (¬ ∀ j, j < m → dgB (bt t j) = true) := fun h => hall fun c hc => by
      obtain ⟨j, hj, rfl⟩ := List.getElem_of_mem hc
      have := (dgB_iff _).1 (h j (by omega))
      unfold bt List.getD at this
      rw [List.getElem?_eq_getElem hj] at this
      exact this
    clear hall HN
    rw [hcap]
    clear hcap
    simp only [Option.map_none]
    unfold tkv dgv
    go_enter Tryd.func29, Tryd.ntmps29
    go_wp2_with (go_at_call 27; refine (HC.out _).mono ?_; rintro e w' ⟨rfl, rfl⟩)
    go_loop [7] (fun i => ∃ j : Nat, j ≤ m ∧ i = .int .i64 ((a + j : Nat) : Int) ∧ ∀ x, x < j → dgB (bt t x) = true) (fun i => a + m - (intOf i).toNat)
    case atStart => exact ⟨0, by omega, rfl, fun x hx => absurd hx (by omega)⟩
    case round =>
      obtain ⟨j, hj, rfl, hpre⟩ := hrel
      have HP : Hid (∀ x, x < j → dgB (bt t x) = true) := hpre
      clear hpre
      have hlt : j < m := by
        apply Classical.byContradiction
        intro hn
        exact HNo.out fun x hx => HP.out x (by omega)
      have hb : s[a + j].toNat = bt t j := HAt.out j (by omega) hlt
      cases hdj : dgB (bt t j)
      · generalize bt t j = c at *
        go_wp2_with (first | (go_at_call 28; refine (digit28 _ _).mono ?_; rintro e w' ⟨rfl, rfl⟩) | fail)
        refine (diag24 _ _ _ _).mono ?_
        rintro e w1 ⟨rfl, hb1⟩
        have HB1 : Hid (Below w.heap.size w w1) := (below_both w).trans (hb1.mono (by simp; omega))
        obtain ⟨y0, y1, y2, y3, y4, y5, y6⟩ := zer5_cells (keep_block (two_zero w).1 hb1)
        obtain ⟨z0, z1, z2, z3, z4⟩ := zer_cells (keep_block (two_zero w).2 hb1)
        clear hb1
        go_wp2
        exact bodyPost_ret (v := .tuple #[.agg #[.int .i64 0, .string ⟨#[]⟩, .int .i64 0, .int .i64 0, .int .i64 0], .agg #[.int .i64 112, .int .i64 a, .int .i64 ((a + m : Nat) : Int)]]) (by simp [results, Tryd.results29, go_sem, y0, y1, y2, y3, y4, z0, z1, z2]) rfl ⟨rfl, below8 HB1.out _ _ _ _ _ _ _ _⟩
      · have HQ : Hid (∀ x, x < j + 1 → dgB (bt t x) = true) := fun x hx => by
          rcases Nat.lt_or_ge x j with h | h
          · exact HP.out x h
          · obtain rfl : x = j := by omega
            exact hdj
        generalize bt t j = c at *
        go_wp2_with (go_at_call 28; refine (digit28 _ _).mono ?_; rintro e w' ⟨rfl, rfl⟩)
        go_round
        case rel => exact ⟨j + 1, by omega, by go_num, HQ.out⟩
        case measure => simp [intOf]; omega
end Go.Proofs.YtgdbfedagdlgkaaDoor
