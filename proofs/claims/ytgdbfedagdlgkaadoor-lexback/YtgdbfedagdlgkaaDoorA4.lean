/- Names by the document; a word's token by the program. -/
import Derived.Test.YtgdbfedagdlgkaaDoorA3
namespace Go.Proofs.YtgdbfedagdlgkaaDoor
open Go.RowKit Go.Shelf
def spB (l : List UInt8) : Bool := !(l == []) && !(l == [95]) && ltB (bt l 0) && decide (nsz l = l.length)
theorem bcell {W w1 : World} (hb : Below W.heap.size W w1) : (∀ b o, b < W.heap.size → w1.cell? ⟨b, o, none⟩ = W.cell? ⟨b, o, none⟩) ∧ (∀ b o, b < W.heap.size → w1.frozen? ⟨b, o, none⟩ = W.frozen? ⟨b, o, none⟩) :=
  ⟨fun b o h => hb.cell (p := ⟨b, o, none⟩) h, fun b o h => hb.frozen (p := ⟨b, o, none⟩) h⟩
theorem nsz_short {l : List UInt8} {k : Nat} (hk : k < l.length) (h : nmB (bt l k) = false) : ¬ nsz l = l.length := fun e => by
  have := nsz_nm l (j := k) (by omega)
  rw [h] at this
  cases this
set_option maxHeartbeats 2000000 in
theorem spelt35 (s : ByteArray) (w : World) (hs : s.size ≤ maxLen) : Calls Tryd.prog 35 #[.string s] w fun e w' => e = .returned (.bool (spB s.data.toList)) ∧ w' = w := by
  unfold maxLen at hs
  have hl := ByteArray.toList_eq s
  have hL := len_of s
  have hat := at_bt s
  generalize s.data.toList = l at *
  have HL2 : Hid (l.length = s.size) := hL
  have HA : Hid (∀ k (h : k < s.size), s[k].toNat = bt l k) := hat
  clear hL hat
  cases h0 : (l == [])
  · cases h1 : (l == [95])
    · have hz : 0 < s.size := by
        have := HL2.out
        rcases Nat.eq_zero_or_pos l.length with h | h
        · rw [List.eq_nil_of_length_eq_zero h] at h0
          cases h0
        · omega
      have hb0 := HA.out 0 hz
      cases h2 : ltB (bt l 0)
      · go_enter Tryd.func35, Tryd.ntmps35
        go_wp2_with (go_at_call 30; refine (letter30 _ _).mono ?_; rintro e w' ⟨rfl, rfl⟩)
        go_ret
        exact ⟨ret_bool (by simp [spB, h2]), rfl⟩
      · clear hb0
        have hb0 := HA.out 0 hz
        go_enter Tryd.func35, Tryd.ntmps35
        go_wp2_with (go_at_call 30; refine (letter30 _ _).mono ?_; rintro e w' ⟨rfl, rfl⟩)
        clear hb0
        go_loop [3] (fun i => ∃ k : Nat, k ≤ s.size ∧ i = .int .i64 k ∧ ∀ j, j < k → nmB (bt l j) = true) (fun i => s.size - (intOf i).toNat)
        case atStart => exact ⟨0, Nat.zero_le _, rfl, fun j hj => absurd hj (by omega)⟩
        case round =>
          obtain ⟨k, hk, rfl, hpre⟩ := hrel
          have HP : Hid (∀ j, j < k → nmB (bt l j) = true) := hpre
          clear hpre
          by_cases hlt : k < s.size
          · have hb := HA.out k hlt
            cases ht : ltB (bt l k)
            · cases hd : dgB (bt l k)
              · go_wp2_with (first | (go_at_call 28; refine (digit28 _ _).mono ?_; rintro e w' ⟨rfl, rfl⟩) | (go_at_call 30; refine (letter30 _ _).mono ?_; rintro e w' ⟨rfl, rfl⟩))
                go_ret
                exact ⟨ret_bool (by
                  have hn : ¬ nsz l = l.length := nsz_short (k := k) (by have := HL2.out; omega) (by rw [nm_split, hd, ht]; rfl)
                  simp [spB, hn]), rfl⟩
              · go_wp2_with (first | (go_at_call 28; refine (digit28 _ _).mono ?_; rintro e w' ⟨rfl, rfl⟩) | (go_at_call 30; refine (letter30 _ _).mono ?_; rintro e w' ⟨rfl, rfl⟩))
                go_round
                case rel => exact ⟨k + 1, by omega, by go_num, fun j hj => by
                  rcases Nat.lt_or_ge j k with h | h
                  · exact HP.out j h
                  · obtain rfl : j = k := by omega
                    rw [nm_split, hd]; rfl⟩
                case measure => simp [intOf]; omega
            · go_wp2_with (first | (go_at_call 28; refine (digit28 _ _).mono ?_; rintro e w' ⟨rfl, rfl⟩) | (go_at_call 30; refine (letter30 _ _).mono ?_; rintro e w' ⟨rfl, rfl⟩))
              go_round
              case rel => exact ⟨k + 1, by omega, by go_num, fun j hj => by
                rcases Nat.lt_or_ge j k with h | h
                · exact HP.out j h
                · obtain rfl : j = k := by omega
                  rw [nm_split, ht, Bool.or_true]⟩
              case measure => simp [intOf]; omega
          · go_wp2
            go_ret
            exact ⟨ret_bool (by
              have hn : nsz l = l.length := nsz_eq (Nat.le_refl _) (fun j hj => HP.out j (by have := HL2.out; omega)) (fun h => absurd h (by omega))
              simp [spB, h0, h1, h2, hn]), rfl⟩
    · go_enter Tryd.func35, Tryd.ntmps35
      go_wp2
      go_ret
      exact ⟨ret_bool (by simp [spB, h1]), rfl⟩
  · go_enter Tryd.func35, Tryd.ntmps35
    go_wp2
    go_ret
    exact ⟨ret_bool (by simp [spB, h0]), rfl⟩
def nameB (l : List UInt8) : Bool := spB l && decide (l.length ≤ 64) && !wdB l
set_option maxHeartbeats 2000000 in
theorem name16 (s : ByteArray) (w : World) (hs : s.size ≤ maxLen) : Calls Tryd.prog 16 #[.string s] w fun e w' => e = .returned (.bool (nameB s.data.toList)) ∧ Below w.heap.size w w' := by
  have HS : Hid (s.size ≤ maxLen) := hs
  unfold maxLen at hs
  have hL := len_of s
  have HC : Hid (∀ w, Calls Tryd.prog 35 #[.string s] w fun e w' => e = .returned (.bool (spB s.data.toList)) ∧ w' = w) := fun w => spelt35 s w HS.out
  have HW : Hid (∀ w, Calls Tryd.prog 14 #[.string s] w fun e w' => e = .returned (.bool (wdB s.data.toList)) ∧ Below w.heap.size w w') := fun w => word14 s w
  generalize s.data.toList = l at *
  have HL2 : Hid (l.length = s.size) := hL
  clear hL
  cases h1 : spB l
  · go_enter Tryd.func16, Tryd.ntmps16
    go_wp2_with (go_at_call 35; refine (HC.out _).mono ?_; rintro e w' ⟨rfl, rfl⟩)
    go_ret
    exact ⟨ret_bool (by simp [nameB, h1]), Below.refl _ _⟩
  · by_cases h2 : s.size ≤ 64
    · go_enter Tryd.func16, Tryd.ntmps16
      go_wp2_with (first | (go_at_call 35; refine (HC.out _).mono ?_; rintro e w' ⟨rfl, rfl⟩) | (go_at_call 14; refine (HW.out _).mono ?_; rintro e w' ⟨rfl, hb⟩; have HB : Hid (Below _ _ w') := hb; clear hb))
      go_ret
      exact ⟨ret_bool (by simp [nameB, h1, HL2.out, h2]), HB.out⟩
    · go_enter Tryd.func16, Tryd.ntmps16
      go_wp2_with (first | (go_at_call 35; refine (HC.out _).mono ?_; rintro e w' ⟨rfl, rfl⟩) | (go_at_call 14; refine (HW.out _).mono ?_; rintro e w' ⟨rfl, hb⟩; have HB : Hid (Below _ _ w') := hb; clear hb))
      go_ret
      exact ⟨ret_bool (by simp [nameB, HL2.out, h2]), Below.refl _ _⟩
/-- A token. -/
def tkv (k : Int) (t : ByteArray) (n f to : Int) : Value := .agg #[.int .i64 k, .string t, .int .i64 n, .int .i64 f, .int .i64 to]
def wdK (l : List UInt8) : Int := if l = [95] then 4 else if wdB l then 2 else if 64 < l.length then 0 else 1
def wdE (l : List UInt8) : Int := if l = [95] then 0 else if wdB l then 0 else if 64 < l.length then 2 else 0
set_option maxHeartbeats 2000000 in
theorem word62 (s : ByteArray) (w : World) (hs : s.size ≤ maxLen) : Calls Tryd.prog 62 #[.string s] w fun e w' => e = .returned (.tuple #[tkv (wdK s.data.toList) s 0 0 0, .int .i64 (wdE s.data.toList)]) ∧ Below w.heap.size w w' := by
  unfold maxLen at hs
  have hl := ByteArray.toList_eq s
  have hL := len_of s
  have HW : Hid (∀ w, Calls Tryd.prog 13 #[.string s] w fun e w' => e = .returned (.bool (wdB s.data.toList)) ∧ w' = w) := fun w => word13 s w
  generalize s.data.toList = l at *
  have HL2 : Hid (l.length = s.size) := hL
  clear hL
  unfold tkv wdK wdE
  by_cases h1 : l = [95]
  · have HE : Hid (l = [95]) := h1
    have h1b : (l == [95]) = true := by simp [h1]
    rw [if_pos h1, if_pos h1]
    clear h1
    go_enter Tryd.func62, Tryd.ntmps62
    go_wp2
    exact bodyPost_ret (v := .tuple #[.agg #[.int .i64 4, .string s, .int .i64 0, .int .i64 0, .int .i64 0], .int .i64 0]) (by simp [results, Tryd.results62, go_sem]) rfl ⟨rfl, below_cells _ _ _⟩
  · have h1b : (l == [95]) = false := by simp [h1]
    rw [if_neg h1, if_neg h1]
    clear h1
    cases h2 : wdB l
    · simp only [Bool.false_eq_true, if_false]
      by_cases h3 : 64 < s.size
      · rw [if_pos (by rw [HL2.out]; exact h3), if_pos (by rw [HL2.out]; exact h3)]
        go_enter Tryd.func62, Tryd.ntmps62
        go_wp2_with (go_at_call 13; refine (HW.out _).mono ?_; rintro e w' ⟨rfl, rfl⟩)
        exact bodyPost_ret (v := .tuple #[.agg #[.int .i64 0, .string s, .int .i64 0, .int .i64 0, .int .i64 0], .int .i64 2]) (by simp [results, Tryd.results62, go_sem]) rfl ⟨rfl, below_cells _ _ _⟩
      · rw [if_neg (by rw [HL2.out]; exact h3), if_neg (by rw [HL2.out]; exact h3)]
        go_enter Tryd.func62, Tryd.ntmps62
        go_wp2_with (go_at_call 13; refine (HW.out _).mono ?_; rintro e w' ⟨rfl, rfl⟩)
        exact bodyPost_ret (v := .tuple #[.agg #[.int .i64 1, .string s, .int .i64 0, .int .i64 0, .int .i64 0], .int .i64 0]) (by simp [results, Tryd.results62, go_sem]) rfl ⟨rfl, below_cells _ _ _⟩
    · simp only [if_true]
      go_enter Tryd.func62, Tryd.ntmps62
      go_wp2_with (go_at_call 13; refine (HW.out _).mono ?_; rintro e w' ⟨rfl, rfl⟩)
      exact bodyPost_ret (v := .tuple #[.agg #[.int .i64 2, .string s, .int .i64 0, .int .i64 0, .int .i64 0], .int .i64 0]) (by simp [results, Tryd.results62, go_sem]) rfl ⟨rfl, below_cells _ _ _⟩
end Go.Proofs.YtgdbfedagdlgkaaDoor
