/- The document's own little functions. The document's own look at a name. The document's own look at an instruction's parts. The document's own look at an instruction's number and callee. -/
import Derived.Test.YtdppoblbenbafaaGreatDoorAA
import Derived.Test.YtdppoblbenbafaaGreatDoorGG
import Derived.Test.YtdppoblbenbafaaGreatDoorHH
import Derived.Test.YtdppoblbenbafaaGreatDoorEE
namespace Go.Proofs.YtdppoblbenbafaaGreatDoor
section
open Go.RowKit Go.Shelf
set_option maxHeartbeats 2000000
theorem rhas94 (s : ByteArray) (c : UInt8) (w : World) (hs : s.size ≤ maxLen) : Calls Tryz.prog 94 #[.string s, .int .u8 (c.toNat : Int)] w fun e w' => e = .returned (.bool (s.data.toList.contains c)) ∧ w' = w := by
  unfold maxLen at hs
  have HS : Hid (s.data.toList.length = s.size) := by show _ = _; simp
  obtain ⟨R, hR⟩ : ∃ R, R = s.data.toList.contains c := ⟨_, rfl⟩
  have HR : Hid (R = s.data.toList.contains c) := hR
  rw [← hR]
  clear hR
  go_enter Tryz.func94, Tryz.ntmps94
  go_wp2
  go_loop [5] (fun i => ∃ k : Nat, k ≤ s.size ∧ i = .int .i64 k ∧ (s.data.toList.take k).contains c = false) (fun i => s.size - (intOf i).toNat)
  case atStart => exact ⟨0, Nat.zero_le _, rfl, rfl⟩
  case round =>
    obtain ⟨k, hk, rfl, ha⟩ := hrel
    have HA : Hid ((s.data.toList.take k).contains c = false) := ha
    clear ha
    by_cases hlt : k < s.size
    · have HT : Hid (s.data.toList.take (k + 1) = s.data.toList.take k ++ [s[k]]) := take_snoc s k hlt
      by_cases hd : s[k] = c
      · have hq : ((s[k].toNat : Int) == (c.toNat : Int)) = true := by rw [hd]; simp
        have HF : Hid (true = R) := by
          show _ = _
          rw [HR.out, eq_comm, List.contains_iff_mem, ← hd]
          exact Array.getElem_mem_toList _
        clear hd
        go_wp2
        go_ret
        exact ⟨ret_bool HF.out, rfl⟩
      · have hq : ((s[k].toNat : Int) == (c.toNat : Int)) = false := by
          simp
          intro e
          exact hd (UInt8.toNat_inj.1 (by omega))
        have HD : Hid (¬ s[k] = c) := hd
        clear hd
        go_wp2
        go_round
        case rel =>
          refine ⟨k + 1, by omega, by go_num, ?_⟩
          rw [HT.out]
          have h1 := HA.out
          have h2 := HD.out
          simp at h1 ⊢
          exact ⟨h1, fun e => h2 e.symm⟩
        case measure => simp [intOf]; omega
    · go_wp2
      go_ret
      exact ⟨ret_bool (by rw [HR.out, ← HA.out, List.take_of_length_le (by rw [HS.out]; omega)]), rfl⟩
/-- Is it a register? -/
def rgB (rg r : Int) : Bool := decide (0 ≤ r) && decide (r < rg)
theorem rreg95 (f : Fnh) (r : Int) (w : World) : Calls Tryz.prog 95 #[fnhV f, .int .i64 r] w fun e w' => e = .returned (.bool (rgB f.rg r)) ∧ G w w' := by
  unfold fnhV
  go_enter Tryz.func95, Tryz.ntmps95
  go_wp2
  all_goals go_ret
  all_goals exact ⟨ret_bool (by rw [Bool.eq_iff_iff]; simp [rgB]; omega), (G.refl _).alloc _⟩
theorem rend66 (c : Int) (w : World) : Calls Tryz.prog 66 #[.int .i64 c] w fun e w' => e = .returned (.bool (endB c)) ∧ w' = w := by
  go_enter Tryz.func66, Tryz.ntmps66
  go_wp2
  all_goals go_ret
  all_goals exact ⟨ret_bool (by rw [Bool.eq_iff_iff]; simp [endB]; omega), rfl⟩
/-- How many arguments a function of the runtime has; below 0: it is none. -/
def blN (l : List UInt8) : Int := match rtA l with
  | some n => n
  | none => -1
theorem rbuilt67 (s : ByteArray) (w : World) : Calls Tryz.prog 67 #[.string s] w fun e w' => e = .returned (.int .i64 (blN s.toList)) ∧ w' = w := by
  by_cases h0 : s.toList = [114, 116, 46, 114, 101, 97, 100]
  · have HV : blN s.toList = 0 := by rw [h0]; rfl
    rw [HV]
    clear HV
    obtain rfl := ba_of h0
    clear h0
    go_enter Tryz.func67, Tryz.ntmps67
    go_wp2
    go_ret
    exact ⟨rfl, rfl⟩
  by_cases h1 : s.toList = [114, 116, 46, 112, 114, 105, 110, 116]
  · have HV : blN s.toList = 1 := by rw [h1]; rfl
    rw [HV]
    clear HV
    obtain rfl := ba_of h1
    clear h1
    go_enter Tryz.func67, Tryz.ntmps67
    go_wp2
    go_ret
    exact ⟨rfl, rfl⟩
  by_cases h2 : s.toList = [114, 116, 46, 97, 108, 108, 111, 99]
  · have HV : blN s.toList = 1 := by rw [h2]; rfl
    rw [HV]
    clear HV
    obtain rfl := ba_of h2
    clear h2
    go_enter Tryz.func67, Tryz.ntmps67
    go_wp2
    go_ret
    exact ⟨rfl, rfl⟩
  by_cases h3 : s.toList = [114, 116, 46, 102, 114, 101, 101]
  · have HV : blN s.toList = 2 := by rw [h3]; rfl
    rw [HV]
    clear HV
    obtain rfl := ba_of h3
    clear h3
    go_enter Tryz.func67, Tryz.ntmps67
    go_wp2
    go_ret
    exact ⟨rfl, rfl⟩
  have HV : Hid (blN s.toList = -1) := by
    show _ = _
    unfold blN rtA
    rw [if_neg h0, if_neg h1, if_neg h2, if_neg h3]
  have q0 : (s.toList == [114, 116, 46, 114, 101, 97, 100]) = false := by simpa using h0
  have q1 : (s.toList == [114, 116, 46, 112, 114, 105, 110, 116]) = false := by simpa using h1
  have q2 : (s.toList == [114, 116, 46, 97, 108, 108, 111, 99]) = false := by simpa using h2
  have q3 : (s.toList == [114, 116, 46, 102, 114, 101, 101]) = false := by simpa using h3
  clear h0 h1 h2 h3
  generalize blN s.toList = R at *
  go_enter Tryz.func67, Tryz.ntmps67
  go_wp2
  go_ret
  exact ⟨ret_int HV.out.symm, rfl⟩
/-- Which fields an operation has. -/
def fmL (k : Int) : List UInt8 := if k = 1 then [68, 78] else if k = 2 then [68, 65] else if k = 3 then [68, 65, 66, 83] else if k = 4 then [68, 65, 78] else if k = 5 then [65, 66, 78] else if k = 6 then [68, 78] else if k = 7 then [100, 83, 82] else if k = 8 then [84] else if k = 9 then [65, 84, 69] else if k = 10 then [97] else if k = 11 then [78] else []
theorem rform92 (k : Int) (w : World) : Calls Tryz.prog 92 #[.int .i64 k] w fun e w' => e = .returned (.string ⟨(fmL k).toArray⟩) ∧ w' = w := by
  by_cases h : 1 ≤ k ∧ k ≤ 11
  · obtain rfl | rfl | rfl | rfl | rfl | rfl | rfl | rfl | rfl | rfl | rfl : k = 1 ∨ k = 2 ∨ k = 3 ∨ k = 4 ∨ k = 5 ∨ k = 6 ∨ k = 7 ∨ k = 8 ∨ k = 9 ∨ k = 10 ∨ k = 11 := by omega
    all_goals
      go_enter Tryz.func92, Tryz.ntmps92
      go_wp2
      go_ret
      exact ⟨rfl, rfl⟩
  · have HV : Hid (fmL k = []) := by
      show _ = _
      unfold fmL
      rw [if_neg (by omega), if_neg (by omega), if_neg (by omega), if_neg (by omega), if_neg (by omega), if_neg (by omega), if_neg (by omega), if_neg (by omega), if_neg (by omega), if_neg (by omega), if_neg (by omega)]
    have q1 : (k == 1) = false := by simp; omega
    have q2 : (k == 2) = false := by simp; omega
    have q3 : (k == 3) = false := by simp; omega
    have q4 : (k == 4) = false := by simp; omega
    have q5 : (k == 5) = false := by simp; omega
    have q6 : (k == 6) = false := by simp; omega
    have q7 : (k == 7) = false := by simp; omega
    have q8 : (k == 8) = false := by simp; omega
    have q9 : (k == 9) = false := by simp; omega
    have q10 : (k == 10) = false := by simp; omega
    have q11 : (k == 11) = false := by simp; omega
    clear h
    generalize fmL k = R at *
    go_enter Tryz.func92, Tryz.ntmps92
    go_wp2
    go_ret
    exact ⟨by rw [HV.out]; rfl, rfl⟩
end
section
open Go.RowKit Go.Shelf
set_option maxHeartbeats 4000000
theorem cls (n : Nat) : n = 95 ∨ (48 ≤ n ∧ n ≤ 57) ∨ (97 ≤ n ∧ n ≤ 122) ∨ (65 ≤ n ∧ n ≤ 90) ∨ (¬ n = 95 ∧ ¬ (48 ≤ n ∧ n ≤ 57) ∧ ¬ (97 ≤ n ∧ n ≤ 122) ∧ ¬ (65 ≤ n ∧ n ≤ 90)) := by omega
theorem rname62 (s : ByteArray) (w : World) (hs : s.size ≤ maxLen) : Calls Tryz.prog 62 #[.string s] w fun e w' => e = .returned (.bool (nmB s.data.toList)) ∧ w' = w := by
  unfold maxLen at hs
  have HS : Hid (s.data.toList.length = s.size) := by show _ = _; simp
  obtain ⟨R, hR⟩ : ∃ R, R = nmB s.data.toList := ⟨_, rfl⟩
  have HR : Hid (R = nmB s.data.toList) := hR
  rw [← hR]
  clear hR
  go_enter Tryz.func62, Tryz.ntmps62
  go_wp2
  go_loop [3, 4, 5] (fun i _ _ => ∃ k : Nat, k ≤ s.size ∧ i = .int .i64 k ∧ (s.data.toList.take k).all okc = true ∧ (0 < k → dgB (s.data.toList.getD 0 0).toNat = false)) (fun i _ _ => s.size - (intOf i).toNat)
  case atStart => exact ⟨0, Nat.zero_le _, rfl, rfl, fun h => absurd h (by omega)⟩
  case round =>
    obtain ⟨k, hk, rfl, ha⟩ := hrel
    have HA : Hid ((s.data.toList.take k).all okc = true ∧ (0 < k → dgB (s.data.toList.getD 0 0).toNat = false)) := ha
    clear ha
    by_cases hlt : k < s.size
    · have HT : Hid (s.data.toList.take (k + 1) = s.data.toList.take k ++ [s[k]]) := take_snoc s k hlt
      have HG : Hid (k = 0 → s.data.toList.getD 0 0 = s[k]) := fun h => by subst h; exact get_ba s 0 hlt
      have HM : Hid (s[k] ∈ s.data.toList) := Array.getElem_mem_toList _
      have hb := s[k].toNat_lt
      have HO : Hid (okc s[k] = (dgB s[k].toNat || (ltB s[k].toNat || decide (s[k].toNat = 95)))) := rfl
      have HOK : Hid (okc s[k] = true → (k = 0 → dgB s[k].toNat = false) → ((s.data.toList.take (k + 1)).all okc = true ∧ (0 < k + 1 → dgB (s.data.toList.getD 0 0).toNat = false))) := fun h1 h2 => by
        refine ⟨by rw [HT.out, List.all_append, HA.out.1]; simp [h1], fun _ => ?_⟩
        by_cases hz : k = 0
        · rw [HG.out hz]; exact h2 hz
        · exact HA.out.2 (by omega)
      have HNO : Hid ((okc s[k] = false ∨ (k = 0 ∧ dgB s[k].toNat = true)) → false = R) := fun h => by
        rw [HR.out]
        unfold nmB
        rcases h with h | ⟨h1, h2⟩
        · rw [show s.data.toList.all okc = false from List.all_eq_false.2 ⟨_, HM.out, by rw [h]; simp⟩]; simp
        · rw [HG.out h1, h2]; simp
      clear HM HG HT
      by_cases hz : k = 0
      · have HZ : Hid (k = 0) := hz
        have qz : ((k : Int) == 0) = true := by simp; omega
        clear hz
        rcases cls s[k].toNat with h | ⟨h1, h2⟩ | ⟨h1, h2⟩ | ⟨h1, h2⟩ | ⟨h1, h2, h3, h4⟩
        · have HK : Hid (okc s[k] = true) := by show _ = _; simp [okc, dgB, ltB]; omega
          have HD : Hid (dgB s[k].toNat = false) := by show _ = _; simp [dgB]; omega
          have q1 : decide ((48 : Int) ≤ (s[k].toNat : Int)) = true := by simp; omega
          have q2 : decide ((s[k].toNat : Int) ≤ 57) = false := by simp; omega
          have q3 : ((s[k].toNat : Int) != 95) = false := by simp; omega
          clear h
          go_wp2
          go_round
          case rel => exact ⟨k + 1, by omega, by go_num, HOK.out HK.out (fun h => by first | exact HD.out | exact absurd h HZ.out)⟩
          case measure => simp [intOf]; omega
        · have HK : Hid (okc s[k] = true) := by show _ = _; simp [okc, dgB, ltB]; omega
          have HD : Hid (dgB s[k].toNat = true) := by show _ = _; simp [dgB]; omega
          have q1 : decide ((48 : Int) ≤ (s[k].toNat : Int)) = true := by simp; omega
          have q2 : decide ((s[k].toNat : Int) ≤ 57) = true := by simp; omega
          have q3 : ((s[k].toNat : Int) != 95) = true := by simp; omega
          clear h1 h2
          go_wp2
          go_ret
          exact ⟨ret_bool (HNO.out (.inr ⟨HZ.out, HD.out⟩)), rfl⟩
        · have HK : Hid (okc s[k] = true) := by show _ = _; simp [okc, dgB, ltB]; omega
          have HD : Hid (dgB s[k].toNat = false) := by show _ = _; simp [dgB]; omega
          have q1 : decide ((48 : Int) ≤ (s[k].toNat : Int)) = true := by simp; omega
          have q2 : decide ((s[k].toNat : Int) ≤ 57) = false := by simp; omega
          have q3 : ((s[k].toNat : Int) != 95) = true := by simp; omega
          have q4 : decide ((s[k].toNat : Int) < 97) = false := by simp; omega
          have q5 : decide ((122 : Int) < (s[k].toNat : Int)) = false := by simp; omega
          clear h1 h2
          go_wp2
          go_round
          case rel => exact ⟨k + 1, by omega, by go_num, HOK.out HK.out (fun h => by first | exact HD.out | exact absurd h HZ.out)⟩
          case measure => simp [intOf]; omega
        · have HK : Hid (okc s[k] = true) := by show _ = _; simp [okc, dgB, ltB]; omega
          have HD : Hid (dgB s[k].toNat = false) := by show _ = _; simp [dgB]; omega
          have q1 : decide ((48 : Int) ≤ (s[k].toNat : Int)) = true := by simp; omega
          have q2 : decide ((s[k].toNat : Int) ≤ 57) = false := by simp; omega
          have q3 : ((s[k].toNat : Int) != 95) = true := by simp; omega
          have q4 : decide ((s[k].toNat : Int) < 97) = true := by simp; omega
          have q6 : decide ((s[k].toNat : Int) < 65) = false := by simp; omega
          have q7 : decide ((90 : Int) < (s[k].toNat : Int)) = false := by simp; omega
          clear h1 h2
          go_wp2
          go_round
          case rel => exact ⟨k + 1, by omega, by go_num, HOK.out HK.out (fun h => by first | exact HD.out | exact absurd h HZ.out)⟩
          case measure => simp [intOf]; omega
        · have HK : Hid (okc s[k] = false) := by show _ = _; simp [okc, dgB, ltB]; omega
          have HD : Hid (dgB s[k].toNat = false) := by show _ = _; simp [dgB]; omega
          go_wp2
          all_goals go_ret
          all_goals exact ⟨ret_bool (HNO.out (.inl HK.out)), rfl⟩
      · have qz : ((k : Int) == 0) = false := by simp; omega
        have HZ : Hid (¬ k = 0) := hz
        clear hz
        rcases cls s[k].toNat with h | ⟨h1, h2⟩ | ⟨h1, h2⟩ | ⟨h1, h2⟩ | ⟨h1, h2, h3, h4⟩
        · have HK : Hid (okc s[k] = true) := by show _ = _; simp [okc, dgB, ltB]; omega
          have HD : Hid (dgB s[k].toNat = false) := by show _ = _; simp [dgB]; omega
          have q1 : decide ((48 : Int) ≤ (s[k].toNat : Int)) = true := by simp; omega
          have q2 : decide ((s[k].toNat : Int) ≤ 57) = false := by simp; omega
          have q3 : ((s[k].toNat : Int) != 95) = false := by simp; omega
          clear h
          go_wp2
          go_round
          case rel => exact ⟨k + 1, by omega, by go_num, HOK.out HK.out (fun h => by first | exact HD.out | exact absurd h HZ.out)⟩
          case measure => simp [intOf]; omega
        · have HK : Hid (okc s[k] = true) := by show _ = _; simp [okc, dgB, ltB]; omega
          have HD : Hid (dgB s[k].toNat = true) := by show _ = _; simp [dgB]; omega
          have q1 : decide ((48 : Int) ≤ (s[k].toNat : Int)) = true := by simp; omega
          have q2 : decide ((s[k].toNat : Int) ≤ 57) = true := by simp; omega
          have q3 : ((s[k].toNat : Int) != 95) = true := by simp; omega
          clear h1 h2
          go_wp2
          go_round
          case rel => exact ⟨k + 1, by omega, by go_num, HOK.out HK.out (fun h => by first | exact HD.out | exact absurd h HZ.out)⟩
          case measure => simp [intOf]; omega
        · have HK : Hid (okc s[k] = true) := by show _ = _; simp [okc, dgB, ltB]; omega
          have HD : Hid (dgB s[k].toNat = false) := by show _ = _; simp [dgB]; omega
          have q1 : decide ((48 : Int) ≤ (s[k].toNat : Int)) = true := by simp; omega
          have q2 : decide ((s[k].toNat : Int) ≤ 57) = false := by simp; omega
          have q3 : ((s[k].toNat : Int) != 95) = true := by simp; omega
          have q4 : decide ((s[k].toNat : Int) < 97) = false := by simp; omega
          have q5 : decide ((122 : Int) < (s[k].toNat : Int)) = false := by simp; omega
          clear h1 h2
          go_wp2
          go_round
          case rel => exact ⟨k + 1, by omega, by go_num, HOK.out HK.out (fun h => by first | exact HD.out | exact absurd h HZ.out)⟩
          case measure => simp [intOf]; omega
        · have HK : Hid (okc s[k] = true) := by show _ = _; simp [okc, dgB, ltB]; omega
          have HD : Hid (dgB s[k].toNat = false) := by show _ = _; simp [dgB]; omega
          have q1 : decide ((48 : Int) ≤ (s[k].toNat : Int)) = true := by simp; omega
          have q2 : decide ((s[k].toNat : Int) ≤ 57) = false := by simp; omega
          have q3 : ((s[k].toNat : Int) != 95) = true := by simp; omega
          have q4 : decide ((s[k].toNat : Int) < 97) = true := by simp; omega
          have q6 : decide ((s[k].toNat : Int) < 65) = false := by simp; omega
          have q7 : decide ((90 : Int) < (s[k].toNat : Int)) = false := by simp; omega
          clear h1 h2
          go_wp2
          go_round
          case rel => exact ⟨k + 1, by omega, by go_num, HOK.out HK.out (fun h => by first | exact HD.out | exact absurd h HZ.out)⟩
          case measure => simp [intOf]; omega
        · have HK : Hid (okc s[k] = false) := by show _ = _; simp [okc, dgB, ltB]; omega
          have HD : Hid (dgB s[k].toNat = false) := by show _ = _; simp [dgB]; omega
          go_wp2
          all_goals go_ret
          all_goals exact ⟨ret_bool (HNO.out (.inl HK.out)), rfl⟩
    · obtain rfl : k = s.size := by omega
      have HE : Hid (R = (decide (0 < s.size) && decide (s.size ≤ 64))) := by
        show _ = _
        rw [HR.out]
        unfold nmB
        have h1 := HA.out.1
        rw [List.take_of_length_le (by rw [HS.out]; omega)] at h1
        rw [h1, HS.out]
        by_cases hz : 0 < s.size
        · rw [HA.out.2 hz]; simp [hz]; omega
        · have : s.size = 0 := by omega
          simp [this]
      go_wp2
      all_goals go_ret
      all_goals exact ⟨ret_bool (by rw [HE.out, Bool.eq_iff_iff]; simp; omega), rfl⟩
end
section
open Go.RowKit Go.Shelf
set_option maxHeartbeats 4000000
/-- Is a register's field right? -/
def flB (rg : Int) (l : List UInt8) (big small : UInt8) (r : Int) : Bool := if l.contains big then rgB rg r else if l.contains small then (r == -1 || rgB rg r) else r == 0
theorem rfield93 (f : Fnh) (s : ByteArray) (big small : UInt8) (r : Int) (w : World) (hs : s.size ≤ maxLen) : Calls Tryz.prog 93 #[fnhV f, .string s, .int .u8 (big.toNat : Int), .int .u8 (small.toNat : Int), .int .i64 r] w fun e w' => e = .returned (.bool (flB f.rg s.data.toList big small r)) ∧ G w w' := by
  have HB : Hid (∀ w, Calls Tryz.prog 94 #[.string s, .int .u8 (big.toNat : Int)] w fun e w' => e = .returned (.bool (s.data.toList.contains big)) ∧ w' = w) := fun w => rhas94 s big w hs
  have HM : Hid (∀ w, Calls Tryz.prog 94 #[.string s, .int .u8 (small.toNat : Int)] w fun e w' => e = .returned (.bool (s.data.toList.contains small)) ∧ w' = w) := fun w => rhas94 s small w hs
  have HR : Hid (∀ w, Calls Tryz.prog 95 #[fnhV f, .int .i64 r] w fun e w' => e = .returned (.bool (rgB f.rg r)) ∧ G w w') := fun w => rreg95 f r w
  have HV : Hid (flB f.rg s.data.toList big small r = if s.data.toList.contains big then rgB f.rg r else if s.data.toList.contains small then (r == -1 || rgB f.rg r) else r == 0) := rfl
  generalize flB f.rg s.data.toList big small r = R at *
  generalize s.data.toList.contains big = X at *
  generalize s.data.toList.contains small = Y at *
  generalize rgB f.rg r = Z at *
  generalize (big.toNat : Int) = bi at *
  generalize (small.toNat : Int) = si at *
  unfold fnhV at *
  clear hs
  cases X with
  | true =>
    have HE : Hid (Z = R) := by show _ = _; rw [HV.out]; rfl
    go_enter Tryz.func93, Tryz.ntmps93
    go_wp2_with (first | (go_at_call 94; (first | (with_reducible refine (HB.out _).mono ?_) | (with_reducible refine (HM.out _).mono ?_)); rintro e w' ⟨rfl, rfl⟩) | (go_at_call 95; refine (HR.out _).mono ?_; rintro e w' ⟨rfl, hg⟩))
    go_ret
    exact ⟨ret_bool HE.out, ((G.refl _).alloc _).trans hg⟩
  | false =>
    cases Y with
    | true =>
      by_cases hr : r = -1
      · have HE : Hid (true = R) := by show _ = _; rw [HV.out, hr]; rfl
        have q : (r == -1) = true := by simp [hr]
        clear hr
        go_enter Tryz.func93, Tryz.ntmps93
        go_wp2_with (first | (go_at_call 94; (first | (with_reducible refine (HB.out _).mono ?_) | (with_reducible refine (HM.out _).mono ?_)); rintro e w' ⟨rfl, rfl⟩) | (go_at_call 95; refine (HR.out _).mono ?_; rintro e w' ⟨rfl, hg⟩))
        go_ret
        exact ⟨ret_bool HE.out, (G.refl _).alloc _⟩
      · have q : (r == -1) = false := by simpa using hr
        have HE : Hid (Z = R) := by show _ = _; rw [HV.out, q]; rfl
        clear hr
        go_enter Tryz.func93, Tryz.ntmps93
        go_wp2_with (first | (go_at_call 94; (first | (with_reducible refine (HB.out _).mono ?_) | (with_reducible refine (HM.out _).mono ?_)); rintro e w' ⟨rfl, rfl⟩) | (go_at_call 95; refine (HR.out _).mono ?_; rintro e w' ⟨rfl, hg⟩))
        go_ret
        exact ⟨ret_bool HE.out, ((G.refl _).alloc _).trans hg⟩
    | false =>
      have HE : Hid ((r == 0) = R) := by show _ = _; rw [HV.out]; rfl
      go_enter Tryz.func93, Tryz.ntmps93
      go_wp2_with (first | (go_at_call 94; (first | (with_reducible refine (HB.out _).mono ?_) | (with_reducible refine (HM.out _).mono ?_)); rintro e w' ⟨rfl, rfl⟩) | (go_at_call 95; refine (HR.out _).mono ?_; rintro e w' ⟨rfl, hg⟩))
      go_ret
      exact ⟨ret_bool HE.out, (G.refl _).alloc _⟩
/-- What the document's own Bin tells of 1 and 1, by an operation's name. -/
theorem rbin_ok (s : ByteArray) : ∃ v, ∀ w, Calls Tryz.prog 96 #[.string s, .int .i64 1, .int .i64 1] w fun e w' => e = .returned (.tuple #[.int .i64 v, .bool (opB s.data.toList)]) ∧ w' = w := by
  by_cases h0 : s = ⟨#[97, 100, 100]⟩
  · subst h0; exact ⟨_, r_add 1 1⟩
  by_cases h1 : s = ⟨#[115, 117, 98]⟩
  · subst h1; exact ⟨_, r_sub 1 1⟩
  by_cases h2 : s = ⟨#[109, 117, 108]⟩
  · subst h2; exact ⟨_, r_mul 1 1⟩
  by_cases h3 : s = ⟨#[109, 117, 108, 104]⟩
  · subst h3; exact ⟨_, r_mulh 1 1⟩
  by_cases h4 : s = ⟨#[100, 105, 118]⟩
  · subst h4; exact ⟨_, r_div 1 1⟩
  by_cases h5 : s = ⟨#[114, 101, 109]⟩
  · subst h5; exact ⟨_, r_rem 1 1⟩
  by_cases h6 : s = ⟨#[97, 110, 100]⟩
  · subst h6; exact ⟨_, r_and 1 1⟩
  by_cases h7 : s = ⟨#[111, 114]⟩
  · subst h7; exact ⟨_, r_or 1 1⟩
  by_cases h8 : s = ⟨#[120, 111, 114]⟩
  · subst h8; exact ⟨_, r_xor 1 1⟩
  by_cases h9 : s = ⟨#[115, 108, 108]⟩
  · subst h9; exact ⟨_, r_sll 1 1⟩
  by_cases h10 : s = ⟨#[115, 114, 108]⟩
  · subst h10; exact ⟨_, r_srl 1 1⟩
  by_cases h11 : s = ⟨#[115, 114, 97]⟩
  · subst h11; exact ⟨_, r_sra 1 1⟩
  by_cases h12 : s = ⟨#[115, 108, 116]⟩
  · subst h12; exact ⟨_, r_slt 1 1⟩
  by_cases h13 : s = ⟨#[115, 108, 116, 117]⟩
  · subst h13; exact ⟨_, r_sltu 1 1⟩
  have k : ∀ l : List UInt8, s ≠ ⟨l.toArray⟩ → (s.toList == l) = false ∧ s.data.toList ≠ l := fun l h => ⟨by rw [ByteArray.toList_eq]; simpa using (ba_ne' h).2, (ba_ne' h).2⟩
  have hO : opB s.data.toList = false := by
    unfold opB
    simp [(k _ h0).2, (k _ h1).2, (k _ h2).2, (k _ h3).2, (k _ h4).2, (k _ h5).2, (k _ h6).2, (k _ h7).2, (k _ h8).2, (k _ h9).2, (k _ h10).2, (k _ h11).2, (k _ h12).2, (k _ h13).2]
  rw [hO]
  exact ⟨_, fun w => r_other s 1 1 w (k _ h0).1 (k _ h1).1 (k _ h2).1 (k _ h3).1 (k _ h4).1 (k _ h5).1 (k _ h6).1 (k _ h7).1 (k _ h8).1 (k _ h9).1 (k _ h10).1 (k _ h11).1 (k _ h12).1 (k _ h13).1⟩
end
section
open Go.RowKit Go.Shelf
set_option maxHeartbeats 4000000
/-- Is an instruction's number right, or its operation's name? -/
def nuR (fr op n : Int) (l : List UInt8) : Bool := if op = 3 then opB l else if op = 4 ∨ op = 5 then decide (-2147483648 ≤ n ∧ n < 2147483648 ∧ n % 8 = 0) else if op = 6 then decide (0 ≤ n ∧ n < fr) else if op = 11 then decide (0 ≤ n ∧ n ≤ 255) else true
theorem rnumbers64 (f : Fnh) (i : Ins) (w : World) : Calls Tryz.prog 64 #[fnhV f, inV i] w fun e w' => e = .returned (.bool (nuR f.fr i.op i.n i.nm.data.toList)) ∧ G w w' := by
  unfold fnhV inV
  generalize i.gs.length = al
  have h8 := tmod8 i.n
  by_cases h3 : i.op = 3
  · have HV : Hid (nuR f.fr i.op i.n i.nm.data.toList = opB i.nm.data.toList) := by show _ = _; unfold nuR; rw [if_pos h3]
    obtain ⟨v, hv⟩ := rbin_ok i.nm
    have HB : Hid (∀ w, Calls Tryz.prog 96 #[.string i.nm, .int .i64 1, .int .i64 1] w fun e w' => e = .returned (.tuple #[.int .i64 v, .bool (opB i.nm.data.toList)]) ∧ w' = w) := hv
    generalize nuR f.fr i.op i.n i.nm.data.toList = R at *
    generalize opB i.nm.data.toList = X at *
    rw [h3]
    clear h8 hv
    go_enter Tryz.func64, Tryz.ntmps64
    go_wp2_with (first | (go_at_call 96; refine (HB.out _).mono ?_; rintro e w' ⟨rfl, rfl⟩))
    go_ret
    exact ⟨ret_bool HV.out.symm, ((G.refl _).alloc _).alloc _⟩
  have e3 : (i.op == 3) = false := by simp; omega
  by_cases h4 : i.op = 4 ∨ i.op = 5
  · have HV : Hid (nuR f.fr i.op i.n i.nm.data.toList = decide (-2147483648 ≤ i.n ∧ i.n < 2147483648 ∧ i.n % 8 = 0)) := by show _ = _; unfold nuR; rw [if_neg h3, if_pos h4]
    have H8 : Hid ((i.n.tmod 8 = 0) ↔ (i.n % 8 = 0)) := h8
    generalize nuR f.fr i.op i.n i.nm.data.toList = R at *
    clear h8 e3
    rcases h4 with h4 | h4
    all_goals
      rw [h4]
      clear h3
      by_cases c1 : -2147483648 ≤ i.n
      · by_cases c2 : i.n < 2147483648
        · have HE : Hid ((i.n.tmod 8 == 0) = R) := by
            show _ = _
            rw [HV.out, Bool.eq_iff_iff]
            simp [c1, c2, H8.out]
          go_enter Tryz.func64, Tryz.ntmps64
          go_wp2
          go_ret
          exact ⟨ret_bool HE.out, ((G.refl _).alloc _).alloc _⟩
        · have HE : Hid (R = false) := by show _ = _; rw [HV.out]; simp; omega
          go_enter Tryz.func64, Tryz.ntmps64
          go_wp2
          go_ret
          exact ⟨ret_bool HE.out.symm, ((G.refl _).alloc _).alloc _⟩
      · have HE : Hid (R = false) := by show _ = _; rw [HV.out]; simp; omega
        go_enter Tryz.func64, Tryz.ntmps64
        go_wp2
        go_ret
        exact ⟨ret_bool HE.out.symm, ((G.refl _).alloc _).alloc _⟩
  have e4 : (i.op == 4) = false := by simp; omega
  have e5 : (i.op == 5) = false := by simp; omega
  clear h8
  by_cases h6 : i.op = 6
  · have HV : Hid (nuR f.fr i.op i.n i.nm.data.toList = decide (0 ≤ i.n ∧ i.n < f.fr)) := by show _ = _; unfold nuR; rw [if_neg h3, if_neg h4, if_pos h6]
    generalize nuR f.fr i.op i.n i.nm.data.toList = R at *
    clear h3 h4 e3 e4 e5
    rw [h6]
    by_cases c1 : 0 ≤ i.n
    · have HE : Hid (decide (i.n < f.fr) = R) := by show _ = _; rw [HV.out]; simp [c1]
      go_enter Tryz.func64, Tryz.ntmps64
      go_wp2
      go_ret
      exact ⟨ret_bool HE.out, ((G.refl _).alloc _).alloc _⟩
    · have HE : Hid (R = false) := by show _ = _; rw [HV.out]; simp; omega
      go_enter Tryz.func64, Tryz.ntmps64
      go_wp2
      go_ret
      exact ⟨ret_bool HE.out.symm, ((G.refl _).alloc _).alloc _⟩
  have e6 : (i.op == 6) = false := by simp; omega
  by_cases h11 : i.op = 11
  · have HV : Hid (nuR f.fr i.op i.n i.nm.data.toList = decide (0 ≤ i.n ∧ i.n ≤ 255)) := by show _ = _; unfold nuR; rw [if_neg h3, if_neg h4, if_neg h6, if_pos h11]
    generalize nuR f.fr i.op i.n i.nm.data.toList = R at *
    clear h3 h4 h6 e3 e4 e5 e6
    rw [h11]
    by_cases c1 : 0 ≤ i.n
    · have HE : Hid (decide (i.n ≤ 255) = R) := by show _ = _; rw [HV.out]; simp [c1]
      go_enter Tryz.func64, Tryz.ntmps64
      go_wp2
      go_ret
      exact ⟨ret_bool HE.out, ((G.refl _).alloc _).alloc _⟩
    · have HE : Hid (R = false) := by show _ = _; rw [HV.out]; simp; omega
      go_enter Tryz.func64, Tryz.ntmps64
      go_wp2
      go_ret
      exact ⟨ret_bool HE.out.symm, ((G.refl _).alloc _).alloc _⟩
  have e11 : (i.op == 11) = false := by simp; omega
  have HV : Hid (true = nuR f.fr i.op i.n i.nm.data.toList) := by show _ = _; unfold nuR; rw [if_neg h3, if_neg h4, if_neg h6, if_neg h11]
  generalize nuR f.fr i.op i.n i.nm.data.toList = R at *
  clear h3 h4 h6 h11
  go_enter Tryz.func64, Tryz.ntmps64
  go_wp2
  go_ret
  exact ⟨ret_bool HV.out, ((G.refl _).alloc _).alloc _⟩
theorem G.drewN {w w' : World} (h : G w w') (n : Nat) : G w (w'.drewN n) := by
  obtain ⟨q, os, rfl⟩ := h
  exact ⟨q + n, os, by show Go.Sort.grow ((w.drewN q).drewN n) os = _; rw [World.drewN_drewN]⟩
/-- Is a call right by itself? -/
def caR (op : Int) (l : List UInt8) (n : Nat) : Bool := if op = 7 then (match rtA l with | some k => decide ((n : Int) = k) | none => nmB l && decide (n ≤ 7)) else true
theorem rtA_pos {l : List UInt8} {k : Int} (h : rtA l = some k) : 0 ≤ k := by
  unfold rtA at h
  repeat' (split at h)
  all_goals (cases h; try omega)
theorem rcallee65 (i : Ins) (w : World) (hs : i.nm.size ≤ maxLen) : Calls Tryz.prog 65 #[inV i] w fun e w' => e = .returned (.bool (caR i.op i.nm.data.toList i.gs.length)) ∧ G w w' := by
  have HN : Hid (∀ w, Calls Tryz.prog 62 #[.string i.nm] w fun e w' => e = .returned (.bool (nmB i.nm.data.toList)) ∧ w' = w) := fun w => rname62 i.nm w hs
  have HB : Hid (∀ w, Calls Tryz.prog 67 #[.string i.nm] w fun e w' => e = .returned (.int .i64 (blN i.nm.data.toList)) ∧ w' = w) := fun w => by
    have t := rbuilt67 i.nm w
    rw [ByteArray.toList_eq] at t
    exact t
  clear hs
  unfold inV
  by_cases h7 : i.op = 7
  · have e7 : (i.op != 7) = false := by simp [h7]
    cases hr : rtA i.nm.data.toList with
    | some k =>
      have hk := rtA_pos hr
      have HV : Hid ((((i.gs.length : Nat) : Int) == k) = caR i.op i.nm.data.toList i.gs.length) := by show _ = _; unfold caR; rw [if_pos h7, hr, Bool.eq_iff_iff]; simp
      have hb : blN i.nm.data.toList = k := by unfold blN; rw [hr]
      rw [hb] at HB
      clear hb hr h7 HN
      generalize caR i.op i.nm.data.toList i.gs.length = R at *
      generalize i.gs.length = al at *
      go_enter Tryz.func65, Tryz.ntmps65
      go_wp2_with (first | (go_at_call 67; refine (HB.out _).mono ?_; rintro e w' ⟨rfl, rfl⟩))
      go_quiet (first | (go_at_call 67; refine Calls.quiet_of_same (HB.out _)))
      go_wp2
      go_ret
      exact ⟨ret_bool HV.out, ((G.refl _).alloc _).drewN nq⟩
    | none =>
      have hb : blN i.nm.data.toList = -1 := by unfold blN; rw [hr]
      rw [hb] at HB
      have HV : Hid (caR i.op i.nm.data.toList i.gs.length = (nmB i.nm.data.toList && decide (i.gs.length ≤ 7))) := by show _ = _; unfold caR; rw [if_pos h7, hr]
      clear hb hr h7
      generalize caR i.op i.nm.data.toList i.gs.length = R at *
      generalize nmB i.nm.data.toList = X at *
      generalize i.gs.length = al at *
      cases X with
      | false =>
        have HE : Hid (false = R) := by show _ = _; rw [HV.out]; rfl
        go_enter Tryz.func65, Tryz.ntmps65
        go_wp2_with (first | (go_at_call 67; refine (HB.out _).mono ?_; rintro e w' ⟨rfl, rfl⟩) | (go_at_call 62; refine (HN.out _).mono ?_; rintro e w' ⟨rfl, rfl⟩))
        go_ret
        exact ⟨ret_bool HE.out, (G.refl _).alloc _⟩
      | true =>
        have HE : Hid (decide ((al : Int) ≤ 7) = R) := by show _ = _; rw [HV.out, Bool.eq_iff_iff]; simp; omega
        go_enter Tryz.func65, Tryz.ntmps65
        go_wp2_with (first | (go_at_call 67; refine (HB.out _).mono ?_; rintro e w' ⟨rfl, rfl⟩) | (go_at_call 62; refine (HN.out _).mono ?_; rintro e w' ⟨rfl, rfl⟩))
        go_ret
        exact ⟨ret_bool HE.out, (G.refl _).alloc _⟩
  · have e7 : (i.op != 7) = true := by simpa using h7
    have HV : Hid (true = caR i.op i.nm.data.toList i.gs.length) := by show _ = _; unfold caR; rw [if_neg h7]
    clear h7 HN HB
    generalize caR i.op i.nm.data.toList i.gs.length = R at *
    generalize i.gs.length = al at *
    go_enter Tryz.func65, Tryz.ntmps65
    go_wp2
    go_ret
    exact ⟨ret_bool HV.out, (G.refl _).alloc _⟩
end
end Go.Proofs.YtdppoblbenbafaaGreatDoor
