/- The longest sign at a place, by the document. -/
import Derived.Test.YtgdbfedagdlgkaaDoorH3
import Derived.Lib.SlBytesConst
namespace Go.Proofs.YtgdbfedagdlgkaaDoor
open Go.RowKit Go.Shelf
def twoAt (k : Nat) : List UInt8 := [[58, 58], [45, 62], [61, 62], [61, 61], [33, 61], [60, 61], [62, 61], [38, 38], [124, 124]].getD k []
def oneAt (k : Nat) : Nat := [40, 41, 123, 125, 60, 62, 44, 59, 58, 61, 43, 45, 42, 47, 37, 38, 33, 46, 95].getD k 0
/-- How long the longest sign is. -/
def rsg (l : List UInt8) : Nat := if 2 ≤ l.length ∧ (l.take 2 = [58, 58] ∨ l.take 2 = [45, 62] ∨ l.take 2 = [61, 62] ∨ l.take 2 = [61, 61] ∨ l.take 2 = [33, 61] ∨ l.take 2 = [60, 61] ∨ l.take 2 = [62, 61] ∨ l.take 2 = [38, 38] ∨ l.take 2 = [124, 124]) then 2 else if bt l 0 = 40 ∨ bt l 0 = 41 ∨ bt l 0 = 123 ∨ bt l 0 = 125 ∨ bt l 0 = 60 ∨ bt l 0 = 62 ∨ bt l 0 = 44 ∨ bt l 0 = 59 ∨ bt l 0 = 58 ∨ bt l 0 = 61 ∨ bt l 0 = 43 ∨ bt l 0 = 45 ∨ bt l 0 = 42 ∨ bt l 0 = 47 ∨ bt l 0 = 37 ∨ bt l 0 = 38 ∨ bt l 0 = 33 ∨ bt l 0 = 46 ∨ bt l 0 = 95 then 1 else 0
theorem rsg_two {l : List UInt8} {k : Nat} (hk : k < 9) (h2 : 2 ≤ l.length) (h : (l.take 2 == twoAt k) = true) : rsg l = 2 := by
  unfold rsg
  rw [if_pos]
  refine ⟨h2, ?_⟩
  have h' : l.take 2 = twoAt k := by simpa using h
  rcases (by omega : k = 0 ∨ k = 1 ∨ k = 2 ∨ k = 3 ∨ k = 4 ∨ k = 5 ∨ k = 6 ∨ k = 7 ∨ k = 8) with rfl | rfl | rfl | rfl | rfl | rfl | rfl | rfl | rfl <;> simp only [twoAt, List.getD_cons_zero, List.getD_cons_succ] at h' <;> simp [h']
theorem rsg_no {l : List UInt8} (h : ∀ j, j < 9 → 2 ≤ l.length → (l.take 2 == twoAt j) = false) : ¬ (2 ≤ l.length ∧ (l.take 2 = [58, 58] ∨ l.take 2 = [45, 62] ∨ l.take 2 = [61, 62] ∨ l.take 2 = [61, 61] ∨ l.take 2 = [33, 61] ∨ l.take 2 = [60, 61] ∨ l.take 2 = [62, 61] ∨ l.take 2 = [38, 38] ∨ l.take 2 = [124, 124])) := by
  rintro ⟨h2, hx⟩
  have h0' := h 0 (by omega) h2
  have h1' := h 1 (by omega) h2
  have h2' := h 2 (by omega) h2
  have h3' := h 3 (by omega) h2
  have h4' := h 4 (by omega) h2
  have h5' := h 5 (by omega) h2
  have h6' := h 6 (by omega) h2
  have h7' := h 7 (by omega) h2
  have h8' := h 8 (by omega) h2
  simp only [twoAt, List.getD_cons_zero, List.getD_cons_succ, beq_eq_false_iff_ne, ne_eq] at h0' h1' h2' h3' h4' h5' h6' h7' h8'
  rcases hx with e | e | e | e | e | e | e | e | e <;> contradiction
theorem rsg_one {l : List UInt8} {k : Nat} (hk : k < 19) (hn : ¬ (2 ≤ l.length ∧ (l.take 2 = [58, 58] ∨ l.take 2 = [45, 62] ∨ l.take 2 = [61, 62] ∨ l.take 2 = [61, 61] ∨ l.take 2 = [33, 61] ∨ l.take 2 = [60, 61] ∨ l.take 2 = [62, 61] ∨ l.take 2 = [38, 38] ∨ l.take 2 = [124, 124]))) (h : bt l 0 = oneAt k) : rsg l = 1 := by
  unfold rsg
  rw [if_neg hn, if_pos]
  rcases (by omega : k = 0 ∨ k = 1 ∨ k = 2 ∨ k = 3 ∨ k = 4 ∨ k = 5 ∨ k = 6 ∨ k = 7 ∨ k = 8 ∨ k = 9 ∨ k = 10 ∨ k = 11 ∨ k = 12 ∨ k = 13 ∨ k = 14 ∨ k = 15 ∨ k = 16 ∨ k = 17 ∨ k = 18) with rfl | rfl | rfl | rfl | rfl | rfl | rfl | rfl | rfl | rfl | rfl | rfl | rfl | rfl | rfl | rfl | rfl | rfl | rfl <;> simp only [oneAt, List.getD_cons_zero, List.getD_cons_succ] at h <;> omega
theorem rsg_none {l : List UInt8} (hn : ¬ (2 ≤ l.length ∧ (l.take 2 = [58, 58] ∨ l.take 2 = [45, 62] ∨ l.take 2 = [61, 62] ∨ l.take 2 = [61, 61] ∨ l.take 2 = [33, 61] ∨ l.take 2 = [60, 61] ∨ l.take 2 = [62, 61] ∨ l.take 2 = [38, 38] ∨ l.take 2 = [124, 124]))) (h : ∀ j, j < 19 → ¬ bt l 0 = oneAt j) : rsg l = 0 := by
  unfold rsg
  have h0 : ¬ bt l 0 = 40 := h 0 (by omega)
  have h1 : ¬ bt l 0 = 41 := h 1 (by omega)
  have h2 : ¬ bt l 0 = 123 := h 2 (by omega)
  have h3 : ¬ bt l 0 = 125 := h 3 (by omega)
  have h4 : ¬ bt l 0 = 60 := h 4 (by omega)
  have h5 : ¬ bt l 0 = 62 := h 5 (by omega)
  have h6 : ¬ bt l 0 = 44 := h 6 (by omega)
  have h7 : ¬ bt l 0 = 59 := h 7 (by omega)
  have h8 : ¬ bt l 0 = 58 := h 8 (by omega)
  have h9 : ¬ bt l 0 = 61 := h 9 (by omega)
  have h10 : ¬ bt l 0 = 43 := h 10 (by omega)
  have h11 : ¬ bt l 0 = 45 := h 11 (by omega)
  have h12 : ¬ bt l 0 = 42 := h 12 (by omega)
  have h13 : ¬ bt l 0 = 47 := h 13 (by omega)
  have h14 : ¬ bt l 0 = 37 := h 14 (by omega)
  have h15 : ¬ bt l 0 = 38 := h 15 (by omega)
  have h16 : ¬ bt l 0 = 33 := h 16 (by omega)
  have h17 : ¬ bt l 0 = 46 := h 17 (by omega)
  have h18 : ¬ bt l 0 = 95 := h 18 (by omega)
  rw [if_neg hn, if_neg (by omega)]
theorem below_two (w : World) (C D : Array Value) (t u : TypeId) (f : Nat × Nat) : Below w.heap.size w ((w.alloc (.cells C t)).alloc (.cells D u f)) := (below_cells w C t).alloc (by simp) _
set_option maxRecDepth 100000 in
set_option maxHeartbeats 8000000 in
theorem sign32 (s : ByteArray) (a : Nat) (w : World) (hs : s.size ≤ 140737488355328) (ha : a < s.size) : Calls Tryd.prog 32 #[.string s, .int .i64 a] w fun e w' => e = .returned (.string (s.extract a (a + rsg (s.data.toList.drop a)))) ∧ Below w.heap.size w w' := by
  have hx : ∀ n, (s.extract a (a + n)).toList = (s.data.toList.drop a).take n := fun n => by rw [ByteArray.toList_eq, toList_cut, Nat.add_sub_cancel_left]
  have hL : (s.data.toList.drop a).length = s.size - a := by rw [List.length_drop, len_of]
  have hb0 : s[a].toNat = bt (s.data.toList.drop a) 0 := by rw [bt_drop, Nat.add_zero]; exact at_bt s a ha
  have HE : Hid (∀ x : ByteArray, x.data.toList = (s.data.toList.drop a).take 2 → s.extract a (a + 2) = x) := fun x hx' => bytes_ext (by rw [toList_cut, Nat.add_sub_cancel_left, hx'])
  have HZ : Hid (s.extract a (a + 0) = ⟨#[]⟩) := bytes_ext (by rw [toList_cut]; simp)
  have hx2 := hx 2
  clear hx
  generalize s.data.toList.drop a = l at *
  obtain ⟨r, hr⟩ : ∃ r, r = rsg l := ⟨_, rfl⟩
  rw [← hr]
  have HR : Hid (r = rsg l) := hr
  have HL : Hid (l.length = s.size - a) := hL
  have HB0 : Hid (s[a].toNat = bt l 0) := hb0
  have HX2 : Hid ((s.extract a (a + 2)).toList = l.take 2) := hx2
  clear hr hL hb0 hx2
  go_enter Tryd.func32, Tryd.ntmps32
  go_wp2
  go_loop [11] (fun i => ∃ k : Nat, k ≤ 9 ∧ i = .int .i64 k ∧ ∀ j, j < k → 2 ≤ l.length → (l.take 2 == twoAt j) = false) (fun i => 9 - (intOf i).toNat)
  case atStart => exact ⟨0, Nat.zero_le _, rfl, fun j hj => absurd hj (by omega)⟩
  case round =>
    obtain ⟨k, hk, rfl, hpre⟩ := hrel
    have HP : Hid (∀ j, j < k → 2 ≤ l.length → (l.take 2 == twoAt j) = false) := hpre
    clear hpre
    by_cases h9 : k = 9
    · subst h9
      have HN : Hid (¬ (2 ≤ l.length ∧ (l.take 2 = [58, 58] ∨ l.take 2 = [45, 62] ∨ l.take 2 = [61, 62] ∨ l.take 2 = [61, 61] ∨ l.take 2 = [33, 61] ∨ l.take 2 = [60, 61] ∨ l.take 2 = [62, 61] ∨ l.take 2 = [38, 38] ∨ l.take 2 = [124, 124]))) := rsg_no HP.out
      clear HP
      have hcv := fun (A : Obj) (C : Array Value) => Joins.run_convert_bytes_const_at (P := Tryd.prog) (w.alloc A) 55 5 C 19 19 (w.heap.size + 1) (by simp) Tryd.underlying55 Tryd.underlying5
      go_wp2
      clear hcv
      have hcm : ∀ (A : Obj) (C : Array Value) (f : Nat × Nat) (j : Nat), ((w.alloc A).alloc (.cells C 5 f)).cell? ⟨w.heap.size + 1, j, none⟩ = C[j]? := fun A C f j => Joins.cell_alloc_mark_at (w.alloc A) C 5 f _ j (by simp)
      go_loop [34] (fun i => ∃ k : Nat, k ≤ 19 ∧ i = .int .i64 k ∧ ∀ j, j < k → ¬ bt l 0 = oneAt j) (fun i => 19 - (intOf i).toNat)
      case atStart => exact ⟨0, Nat.zero_le _, rfl, fun j hj => absurd hj (by omega)⟩
      case round =>
        obtain ⟨k, hk, rfl, hpre⟩ := hrel
        have HP : Hid (∀ j, j < k → ¬ bt l 0 = oneAt j) := hpre
        clear hpre
        by_cases h19 : k = 19
        · subst h19
          have HQ : Hid (r = 0) := HR.out.trans (rsg_none HN.out HP.out)
          go_wp2
          go_ret
          exact ⟨by rw [HQ.out, HZ.out]; rfl, below_two _ _ _ _ _ _⟩
        · have hb0 := HB0.out
          by_cases hc : bt l 0 = oneAt k
          · have HQ : Hid (r = 1) := HR.out.trans (rsg_one (by omega) HN.out hc)
            rw [hc] at hb0
            clear hc
            rcases (by omega : k = 0 ∨ k = 1 ∨ k = 2 ∨ k = 3 ∨ k = 4 ∨ k = 5 ∨ k = 6 ∨ k = 7 ∨ k = 8 ∨ k = 9 ∨ k = 10 ∨ k = 11 ∨ k = 12 ∨ k = 13 ∨ k = 14 ∨ k = 15 ∨ k = 16 ∨ k = 17 ∨ k = 18) with rfl | rfl | rfl | rfl | rfl | rfl | rfl | rfl | rfl | rfl | rfl | rfl | rfl | rfl | rfl | rfl | rfl | rfl | rfl
            all_goals
              simp only [oneAt, List.getD_cons_zero, List.getD_cons_succ] at hb0
              go_wp2
              go_ret
              exact ⟨by rw [HQ.out]; rfl, below_two _ _ _ _ _ _⟩
          · have HN2 : Hid (∀ j, j < k + 1 → ¬ bt l 0 = oneAt j) := fun j hj => by
              rcases Nat.lt_or_ge j k with h | h
              · exact HP.out j h
              · obtain rfl : j = k := by omega
                exact hc
            have hc' : ¬ (bt l 0 : Int) = (oneAt k : Nat) := by omega
            clear hc
            rcases (by omega : k = 0 ∨ k = 1 ∨ k = 2 ∨ k = 3 ∨ k = 4 ∨ k = 5 ∨ k = 6 ∨ k = 7 ∨ k = 8 ∨ k = 9 ∨ k = 10 ∨ k = 11 ∨ k = 12 ∨ k = 13 ∨ k = 14 ∨ k = 15 ∨ k = 16 ∨ k = 17 ∨ k = 18) with rfl | rfl | rfl | rfl | rfl | rfl | rfl | rfl | rfl | rfl | rfl | rfl | rfl | rfl | rfl | rfl | rfl | rfl | rfl
            all_goals
              simp only [oneAt, List.getD_cons_zero, List.getD_cons_succ] at hc'
              go_wp2
              go_round
              case rel => exact ⟨_, by omega, by go_num, HN2.out⟩
              case measure => simp [intOf]
    · have hx2 := HX2.out
      by_cases h2 : a + 2 ≤ s.size
      · cases hc : (l.take 2 == twoAt k)
        · have HN : Hid (∀ j, j < k + 1 → 2 ≤ l.length → (l.take 2 == twoAt j) = false) := fun j hj h2' => by
            rcases Nat.lt_or_ge j k with h | h
            · exact HP.out j h h2'
            · obtain rfl : j = k := by omega
              exact hc
          rcases (by omega : k = 0 ∨ k = 1 ∨ k = 2 ∨ k = 3 ∨ k = 4 ∨ k = 5 ∨ k = 6 ∨ k = 7 ∨ k = 8) with rfl | rfl | rfl | rfl | rfl | rfl | rfl | rfl | rfl
          all_goals
            simp only [twoAt, List.getD_cons_zero, List.getD_cons_succ] at hc
            go_wp2
            go_round
            case rel => exact ⟨_, by omega, by go_num, HN.out⟩
            case measure => simp [intOf]
        · have HQ : Hid (r = 2) := HR.out.trans (rsg_two (by omega) (by have := HL.out; omega) hc)
          have HQ2 : Hid (twoAt k = l.take 2) := (by simpa using hc : l.take 2 = twoAt k).symm
          rcases (by omega : k = 0 ∨ k = 1 ∨ k = 2 ∨ k = 3 ∨ k = 4 ∨ k = 5 ∨ k = 6 ∨ k = 7 ∨ k = 8) with rfl | rfl | rfl | rfl | rfl | rfl | rfl | rfl | rfl
          all_goals
            simp only [twoAt, List.getD_cons_zero, List.getD_cons_succ] at hc
            go_wp2
            go_ret
            exact ⟨by rw [HQ.out]; exact congrArg (fun x => Ending.returned (.string x)) (HE.out _ HQ2.out).symm, below_cells _ _ _⟩
      · have HN : Hid (∀ j, j < k + 1 → 2 ≤ l.length → (l.take 2 == twoAt j) = false) := fun j hj h2' => by have := HL.out; omega
        clear hx2
        rcases (by omega : k = 0 ∨ k = 1 ∨ k = 2 ∨ k = 3 ∨ k = 4 ∨ k = 5 ∨ k = 6 ∨ k = 7 ∨ k = 8) with rfl | rfl | rfl | rfl | rfl | rfl | rfl | rfl | rfl
        all_goals
          go_wp2
          go_round
          case rel => exact ⟨_, by omega, by go_num, HN.out⟩
          case measure => simp [intOf]
end Go.Proofs.YtgdbfedagdlgkaaDoor
