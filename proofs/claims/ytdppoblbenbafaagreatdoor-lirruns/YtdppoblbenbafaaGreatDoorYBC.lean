/- The document's own look at a name. What the operations make of two numbers: the document's own. The document's own look at an instruction's parts. -/
import Derived.Test.YtdppoblbenbafaaGreatDoorYBB
import Derived.Test.YtdppoblbenbafaaGreatDoorYAM
import Derived.Test.YtdppoblbenbafaaGreatDoorYAE
namespace Go.Proofs.YtdppoblbenbafaaGreatDoor
section
open Go.RowKit Go.Shelf
set_option maxHeartbeats 4000000
theorem cls (n : Nat) : n = 95 ∨ (48 ≤ n ∧ n ≤ 57) ∨ (97 ≤ n ∧ n ≤ 122) ∨ (65 ≤ n ∧ n ≤ 90) ∨ (¬ n = 95 ∧ ¬ (48 ≤ n ∧ n ≤ 57) ∧ ¬ (97 ≤ n ∧ n ≤ 122) ∧ ¬ (65 ≤ n ∧ n ≤ 90)) := by omega
theorem rname62 (s : ByteArray) (w : World) (hs : s.size ≤ maxLen) : Calls Tryz.prog 62 #[.string s] w fun e w' => e = .returned (.bool (nmB s.data.toList)) ∧ w' = w := by
  unfold maxLen at hs
  have HS : Hid (s.data.toList.length = s.size) := by show _ = _; simp
  obtain ⟨R, hR⟩ : ∃ R, R = nmB s.data.toList := ⟨_, rfl⟩
  have HR : Hid (R = nmB s.data.toList) := hR
  rw [← hR]
  clear hR
  go_enter Tryz.func62, Tryz.ntmps62
  go_wp2
  go_loop [3, 4, 5] (fun i _ _ => ∃ k : Nat, k ≤ s.size ∧ i = .int .i64 k ∧ (s.data.toList.take k).all okc = true ∧ (0 < k → dgB (s.data.toList.getD 0 0).toNat = false)) (fun i _ _ => s.size - (intOf i).toNat)
  case atStart => exact ⟨0, Nat.zero_le _, rfl, rfl, fun h => absurd h (by omega)⟩
  case round =>
    obtain ⟨k, hk, rfl, ha⟩ := hrel
    have HA : Hid ((s.data.toList.take k).all okc = true ∧ (0 < k → dgB (s.data.toList.getD 0 0).toNat = false)) := ha
    clear ha
    by_cases hlt : k < s.size
    · have HT : Hid (s.data.toList.take (k + 1) = s.data.toList.take k ++ [s[k]]) := take_snoc s k hlt
      have HG : Hid (k = 0 → s.data.toList.getD 0 0 = s[k]) := fun h => by subst h; exact get_ba s 0 hlt
      have HM : Hid (s[k] ∈ s.data.toList) := Array.getElem_mem_toList _
      have hb := s[k].toNat_lt
      have HO : Hid (okc s[k] = (dgB s[k].toNat || (ltB s[k].toNat || decide (s[k].toNat = 95)))) := rfl
      have HOK : Hid (okc s[k] = true → (k = 0 → dgB s[k].toNat = false) → ((s.data.toList.take (k + 1)).all okc = true ∧ (0 < k + 1 → dgB (s.data.toList.getD 0 0).toNat = false))) := fun h1 h2 => by
        refine ⟨by rw [HT.out, List.all_append, HA.out.1]; simp [h1], fun _ => ?_⟩
        by_cases hz : k = 0
        · rw [HG.out hz]; exact h2 hz
        · exact HA.out.2 (by omega)
      have HNO : Hid ((okc s[k] = false ∨ (k = 0 ∧ dgB s[k].toNat = true)) → false = R) := fun h => by
        rw [HR.out]
        unfold nmB
        rcases h with h | ⟨h1, h2⟩
        · rw [show s.data.toList.all okc = false from List.all_eq_false.2 ⟨_, HM.out, by rw [h]; simp⟩]; simp
        · rw [HG.out h1, h2]; simp
      clear HM HG HT
      by_cases hz : k = 0
      · have HZ : Hid (k = 0) := hz
        have qz : ((k : Int) == 0) = true := by simp; omega
        clear hz
        rcases cls s[k].toNat with h | ⟨h1, h2⟩ | ⟨h1, h2⟩ | ⟨h1, h2⟩ | ⟨h1, h2, h3, h4⟩
        · have HK : Hid (okc s[k] = true) := by show _ = _; simp [okc, dgB, ltB]; omega
          have HD : Hid (dgB s[k].toNat = false) := by show _ = _; simp [dgB]; omega
          have q1 : decide ((48 : Int) ≤ (s[k].toNat : Int)) = true := by simp; omega
          have q2 : decide ((s[k].toNat : Int) ≤ 57) = false := by simp; omega
          have q3 : ((s[k].toNat : Int) != 95) = false := by simp; omega
          clear h
          go_wp2
          go_round
          case rel => exact ⟨k + 1, by omega, by go_num, HOK.out HK.out (fun h => by first | exact HD.out | exact absurd h HZ.out)⟩
          case measure => simp [intOf]; omega
        · have HK : Hid (okc s[k] = true) := by show _ = _; simp [okc, dgB, ltB]; omega
          have HD : Hid (dgB s[k].toNat = true) := by show _ = _; simp [dgB]; omega
          have q1 : decide ((48 : Int) ≤ (s[k].toNat : Int)) = true := by simp; omega
          have q2 : decide ((s[k].toNat : Int) ≤ 57) = true := by simp; omega
          have q3 : ((s[k].toNat : Int) != 95) = true := by simp; omega
          clear h1 h2
          go_wp2
          go_ret
          exact ⟨ret_bool (HNO.out (.inr ⟨HZ.out, HD.out⟩)), rfl⟩
        · have HK : Hid (okc s[k] = true) := by show _ = _; simp [okc, dgB, ltB]; omega
          have HD : Hid (dgB s[k].toNat = false) := by show _ = _; simp [dgB]; omega
          have q1 : decide ((48 : Int) ≤ (s[k].toNat : Int)) = true := by simp; omega
          have q2 : decide ((s[k].toNat : Int) ≤ 57) = false := by simp; omega
          have q3 : ((s[k].toNat : Int) != 95) = true := by simp; omega
          have q4 : decide ((s[k].toNat : Int) < 97) = false := by simp; omega
          have q5 : decide ((122 : Int) < (s[k].toNat : Int)) = false := by simp; omega
          clear h1 h2
          go_wp2
          go_round
          case rel => exact ⟨k + 1, by omega, by go_num, HOK.out HK.out (fun h => by first | exact HD.out | exact absurd h HZ.out)⟩
          case measure => simp [intOf]; omega
        · have HK : Hid (okc s[k] = true) := by show _ = _; simp [okc, dgB, ltB]; omega
          have HD : Hid (dgB s[k].toNat = false) := by show _ = _; simp [dgB]; omega
          have q1 : decide ((48 : Int) ≤ (s[k].toNat : Int)) = true := by simp; omega
          have q2 : decide ((s[k].toNat : Int) ≤ 57) = false := by simp; omega
          have q3 : ((s[k].toNat : Int) != 95) = true := by simp; omega
          have q4 : decide ((s[k].toNat : Int) < 97) = true := by simp; omega
          have q6 : decide ((s[k].toNat : Int) < 65) = false := by simp; omega
          have q7 : decide ((90 : Int) < (s[k].toNat : Int)) = false := by simp; omega
          clear h1 h2
          go_wp2
          go_round
          case rel => exact ⟨k + 1, by omega, by go_num, HOK.out HK.out (fun h => by first | exact HD.out | exact absurd h HZ.out)⟩
          case measure => simp [intOf]; omega
        · have HK : Hid (okc s[k] = false) := by show _ = _; simp [okc, dgB, ltB]; omega
          have HD : Hid (dgB s[k].toNat = false) := by show _ = _; simp [dgB]; omega
          go_wp2
          all_goals go_ret
          all_goals exact ⟨ret_bool (HNO.out (.inl HK.out)), rfl⟩
      · have qz : ((k : Int) == 0) = false := by simp; omega
        have HZ : Hid (¬ k = 0) := hz
        clear hz
        rcases cls s[k].toNat with h | ⟨h1, h2⟩ | ⟨h1, h2⟩ | ⟨h1, h2⟩ | ⟨h1, h2, h3, h4⟩
        · have HK : Hid (okc s[k] = true) := by show _ = _; simp [okc, dgB, ltB]; omega
          have HD : Hid (dgB s[k].toNat = false) := by show _ = _; simp [dgB]; omega
          have q1 : decide ((48 : Int) ≤ (s[k].toNat : Int)) = true := by simp; omega
          have q2 : decide ((s[k].toNat : Int) ≤ 57) = false := by simp; omega
          have q3 : ((s[k].toNat : Int) != 95) = false := by simp; omega
          clear h
          go_wp2
          go_round
          case rel => exact ⟨k + 1, by omega, by go_num, HOK.out HK.out (fun h => by first | exact HD.out | exact absurd h HZ.out)⟩
          case measure => simp [intOf]; omega
        · have HK : Hid (okc s[k] = true) := by show _ = _; simp [okc, dgB, ltB]; omega
          have HD : Hid (dgB s[k].toNat = true) := by show _ = _; simp [dgB]; omega
          have q1 : decide ((48 : Int) ≤ (s[k].toNat : Int)) = true := by simp; omega
          have q2 : decide ((s[k].toNat : Int) ≤ 57) = true := by simp; omega
          have q3 : ((s[k].toNat : Int) != 95) = true := by simp; omega
          clear h1 h2
          go_wp2
          go_round
          case rel => exact ⟨k + 1, by omega, by go_num, HOK.out HK.out (fun h => by first | exact HD.out | exact absurd h HZ.out)⟩
          case measure => simp [intOf]; omega
        · have HK : Hid (okc s[k] = true) := by show _ = _; simp [okc, dgB, ltB]; omega
          have HD : Hid (dgB s[k].toNat = false) := by show _ = _; simp [dgB]; omega
          have q1 : decide ((48 : Int) ≤ (s[k].toNat : Int)) = true := by simp; omega
          have q2 : decide ((s[k].toNat : Int) ≤ 57) = false := by simp; omega
          have q3 : ((s[k].toNat : Int) != 95) = true := by simp; omega
          have q4 : decide ((s[k].toNat : Int) < 97) = false := by simp; omega
          have q5 : decide ((122 : Int) < (s[k].toNat : Int)) = false := by simp; omega
          clear h1 h2
          go_wp2
          go_round
          case rel => exact ⟨k + 1, by omega, by go_num, HOK.out HK.out (fun h => by first | exact HD.out | exact absurd h HZ.out)⟩
          case measure => simp [intOf]; omega
        · have HK : Hid (okc s[k] = true) := by show _ = _; simp [okc, dgB, ltB]; omega
          have HD : Hid (dgB s[k].toNat = false) := by show _ = _; simp [dgB]; omega
          have q1 : decide ((48 : Int) ≤ (s[k].toNat : Int)) = true := by simp; omega
          have q2 : decide ((s[k].toNat : Int) ≤ 57) = false := by simp; omega
          have q3 : ((s[k].toNat : Int) != 95) = true := by simp; omega
          have q4 : decide ((s[k].toNat : Int) < 97) = true := by simp; omega
          have q6 : decide ((s[k].toNat : Int) < 65) = false := by simp; omega
          have q7 : decide ((90 : Int) < (s[k].toNat : Int)) = false := by simp; omega
          clear h1 h2
          go_wp2
          go_round
          case rel => exact ⟨k + 1, by omega, by go_num, HOK.out HK.out (fun h => by first | exact HD.out | exact absurd h HZ.out)⟩
          case measure => simp [intOf]; omega
        · have HK : Hid (okc s[k] = false) := by show _ = _; simp [okc, dgB, ltB]; omega
          have HD : Hid (dgB s[k].toNat = false) := by show _ = _; simp [dgB]; omega
          go_wp2
          all_goals go_ret
          all_goals exact ⟨ret_bool (HNO.out (.inl HK.out)), rfl⟩
    · obtain rfl : k = s.size := by omega
      have HE : Hid (R = (decide (0 < s.size) && decide (s.size ≤ 64))) := by
        show _ = _
        rw [HR.out]
        unfold nmB
        have h1 := HA.out.1
        rw [List.take_of_length_le (by rw [HS.out]; omega)] at h1
        rw [h1, HS.out]
        by_cases hz : 0 < s.size
        · rw [HA.out.2 hz]; simp [hz]; omega
        · have : s.size = 0 := by omega
          simp [this]
      go_wp2
      all_goals go_ret
      all_goals exact ⟨ret_bool (by rw [HE.out, Bool.eq_iff_iff]; simp; omega), rfl⟩
end
section
open Go.RowKit Go.Shelf
set_option maxHeartbeats 2000000
set_option maxRecDepth 20000
theorem mul_lt {x y : Int} (x0 : 0 ≤ x) (x1 : x < 4294967296) (y0 : 0 ≤ y) (y1 : y < 4294967296) : 0 ≤ x * y ∧ x * y ≤ 18446744065119617025 := by
  refine ⟨Int.mul_nonneg x0 y0, ?_⟩
  have t : x * y ≤ 4294967295 * 4294967295 := Int.mul_le_mul (by omega) (by omega) y0 (by omega)
  exact t
theorem hi_sum (p q r s : Int) : s + (q + p / 4294967296) / 4294967296 + ((q + p / 4294967296) % 4294967296 + r) / 4294967296 = (s * 18446744073709551616 + (q + r) * 4294967296 + p) / 18446744073709551616 := by omega
theorem hi_all (a b : Int) : (a / 4294967296) * (b / 4294967296) * 18446744073709551616 + ((a / 4294967296) * (b % 4294967296) + (a % 4294967296) * (b / 4294967296)) * 4294967296 + (a % 4294967296) * (b % 4294967296) = a * b := by
  have ea : a = 4294967296 * (a / 4294967296) + a % 4294967296 := by omega
  have eb : b = 4294967296 * (b / 4294967296) + b % 4294967296 := by omega
  generalize a / 4294967296 = x at *
  generalize a % 4294967296 = y at *
  generalize b / 4294967296 = u at *
  generalize b % 4294967296 = v at *
  subst ea eb
  have : (18446744073709551616 : Int) = 4294967296 * 4294967296 := rfl
  rw [this]
  simp only [Int.add_mul, Int.mul_add, Int.mul_assoc, Int.mul_left_comm, Int.mul_comm]
  omega
theorem hi_eq (H n1 n2 m1 m2 : Int) (h1 : (n1 - m1) % 18446744073709551616 = 0) (h2 : (n2 - m2) % 18446744073709551616 = 0) : wrap64 ((((H - m1) % 18446744073709551616) - m2) % 18446744073709551616) = wrap64 (wrap64 (wrap64 H - n1) - n2) := by
  unfold wrap64
  omega
theorem hi_eq1 (H n1 m1 : Int) (h1 : (n1 - m1) % 18446744073709551616 = 0) : wrap64 ((H - m1) % 18446744073709551616) = wrap64 (wrap64 (wrap64 H - n1) - 0) := by
  unfold wrap64
  omega
theorem hi_eq2 (H n2 m2 : Int) (h2 : (n2 - m2) % 18446744073709551616 = 0) : wrap64 ((H - m2) % 18446744073709551616) = wrap64 (wrap64 (wrap64 H - 0) - n2) := by
  unfold wrap64
  omega
theorem hi_eq0 (H : Int) : wrap64 H = wrap64 (wrap64 (wrap64 H - 0) - 0) := by
  unfold wrap64
  omega
theorem ret_two {a b : Int} {v : Value} (h : a = b) : Ending.returned (.tuple #[.int .i64 a, v]) = .returned (.tuple #[.int .i64 b, v]) := by rw [h]
theorem U_sub (a : Int) : (a - U a) % 18446744073709551616 = 0 := by unfold U; omega
theorem high8 (a b : Int) (w : World) : Calls Tryz.prog 129 #[.int .i64 a, .int .i64 b] w fun e w' => e = .returned (.int .i64 (hiV a b)) ∧ w' = w := by
  obtain ⟨x0, x1⟩ := U_bd a
  obtain ⟨y0, y1⟩ := U_bd b
  have hUa := wrap_U a
  have hUb := wrap_U b
  have wA : ∀ z, IntKind.u64.wrap z = z % 18446744073709551616 := wrapU
  have hA : bits .and .u64 (U a) 4294967295 = U a % 4294967296 := lo32 x0 x1
  have hB : bits .and .u64 (U b) 4294967295 = U b % 4294967296 := lo32 y0 y1
  have X := hi_all (U a) (U b)
  have P := mul_lt (x := U a % 4294967296) (y := U b % 4294967296) (by omega) (by omega) (by omega) (by omega)
  have Q := mul_lt (x := U a / 4294967296) (y := U b % 4294967296) (by omega) (by omega) (by omega) (by omega)
  have R := mul_lt (x := U a % 4294967296) (y := U b / 4294967296) (by omega) (by omega) (by omega) (by omega)
  have S := mul_lt (x := U a / 4294967296) (y := U b / 4294967296) (by omega) (by omega) (by omega) (by omega)
  have HV : Hid (hiV a b = wrap64 (wrap64 (wrap64 (U a * U b / 18446744073709551616) - ngV a b) - ngV b a)) := rfl
  have HSa : Hid ((a - U a) % 18446744073709551616 = 0) := U_sub a
  have HSb : Hid ((b - U b) % 18446744073709551616 = 0) := U_sub b
  generalize hiV a b = HI at *
  generalize hx : U a = A at *
  generalize hy : U b = B at *
  generalize hx0 : A % 4294967296 = x0 at *
  generalize hx1 : A / 4294967296 = x1 at *
  generalize hy0 : B % 4294967296 = y0 at *
  generalize hy1 : B / 4294967296 = y1 at *
  generalize hp : x0 * y0 = p at *
  generalize hq : x1 * y0 = q at *
  generalize hr : x0 * y1 = r at *
  generalize hs : x1 * y1 = s at *
  have T : bits .and .u64 (q + p / 4294967296) 4294967295 = (q + p / 4294967296) % 4294967296 := lo32 (by omega) (by omega)
  have HX : Hid (s * 18446744073709551616 + (q + r) * 4294967296 + p = A * B) := X
  clear X wA
  by_cases ha : a < 0
  · have e1 : ngV a b = b := if_pos ha
    by_cases hb : b < 0
    · have e2 : ngV b a = a := if_pos hb
      have HV' : Hid (HI = wrap64 (wrap64 (wrap64 (A * B / 18446744073709551616) - b) - a)) := by
        have t := HV.out
        rw [e1, e2] at t
        exact t
      clear e1 e2 HV
      go_enter Tryz.func129, Tryz.ntmps129
      go_wp2
      go_ret
      exact ⟨ret_int (by rw [hi_sum, HX.out, HV'.out, wrapU, wrapU]; exact hi_eq _ _ _ _ _ HSb.out HSa.out), rfl⟩
    · have e2 : ngV b a = 0 := if_neg hb
      have HV' : Hid (HI = wrap64 (wrap64 (wrap64 (A * B / 18446744073709551616) - b) - 0)) := by
        have t := HV.out
        rw [e1, e2] at t
        exact t
      clear e1 e2 HV
      go_enter Tryz.func129, Tryz.ntmps129
      go_wp2
      go_ret
      exact ⟨ret_int (by rw [hi_sum, HX.out, HV'.out, wrapU]; exact hi_eq1 _ _ _ HSb.out), rfl⟩
  · have e1 : ngV a b = 0 := if_neg ha
    by_cases hb : b < 0
    · have e2 : ngV b a = a := if_pos hb
      have HV' : Hid (HI = wrap64 (wrap64 (wrap64 (A * B / 18446744073709551616) - 0) - a)) := by
        have t := HV.out
        rw [e1, e2] at t
        exact t
      clear e1 e2 HV
      go_enter Tryz.func129, Tryz.ntmps129
      go_wp2
      go_ret
      exact ⟨ret_int (by rw [hi_sum, HX.out, HV'.out, wrapU]; exact hi_eq2 _ _ _ HSa.out), rfl⟩
    · have e2 : ngV b a = 0 := if_neg hb
      have HV' : Hid (HI = wrap64 (wrap64 (wrap64 (A * B / 18446744073709551616) - 0) - 0)) := by
        have t := HV.out
        rw [e1, e2] at t
        exact t
      clear e1 e2 HV
      go_enter Tryz.func129, Tryz.ntmps129
      go_wp2
      go_ret
      exact ⟨ret_int (by rw [hi_sum, HX.out, HV'.out]; exact hi_eq0 _), rfl⟩
/-- A number that is shifted up, without its sign first. -/
theorem sll_eq (a : Int) (p : Int) : wrap64 (U a * p % 18446744073709551616) = wrap64 (a * p) := by
  have e : U a * p % 18446744073709551616 = a * p % 18446744073709551616 := by
    rw [Int.mul_emod, show U a % 18446744073709551616 = a % 18446744073709551616 by unfold U; omega, ← Int.mul_emod]
  rw [e]
  unfold wrap64
  omega
theorem sh_eq (b : Int) : bits .and .u64 (U b) 63 = ((shN b : Nat) : Int) := by
  rw [lo6 (U_bd b).1 (U_bd b).2]
  unfold shN U
  omega
theorem quo_least : quoV (-9223372036854775808) (-1) = -9223372036854775808 := by
  unfold quoV wrap64
  decide
theorem rem_least : remV (-9223372036854775808) (-1) = 0 := by
  unfold remV
  decide
theorem r_add (a b : Int) (w : World) : Calls Tryz.prog 96 #[.string ⟨#[97, 100, 100]⟩, .int .i64 a, .int .i64 b] w fun e w' => e = .returned (.tuple #[.int .i64 (wrap64 (a + b)), .bool true]) ∧ w' = w := by
  go_enter Tryz.func96, Tryz.ntmps96
  go_wp2
  go_ret2
  exact ⟨rfl, rfl⟩
theorem r_sub (a b : Int) (w : World) : Calls Tryz.prog 96 #[.string ⟨#[115, 117, 98]⟩, .int .i64 a, .int .i64 b] w fun e w' => e = .returned (.tuple #[.int .i64 (wrap64 (a - b)), .bool true]) ∧ w' = w := by
  go_enter Tryz.func96, Tryz.ntmps96
  go_wp2
  go_ret2
  exact ⟨rfl, rfl⟩
theorem r_mul (a b : Int) (w : World) : Calls Tryz.prog 96 #[.string ⟨#[109, 117, 108]⟩, .int .i64 a, .int .i64 b] w fun e w' => e = .returned (.tuple #[.int .i64 (wrap64 (a * b)), .bool true]) ∧ w' = w := by
  go_enter Tryz.func96, Tryz.ntmps96
  go_wp2
  go_ret2
  exact ⟨rfl, rfl⟩
theorem r_and (a b : Int) (w : World) : Calls Tryz.prog 96 #[.string ⟨#[97, 110, 100]⟩, .int .i64 a, .int .i64 b] w fun e w' => e = .returned (.tuple #[.int .i64 (bits .and .i64 a b), .bool true]) ∧ w' = w := by
  go_enter Tryz.func96, Tryz.ntmps96
  go_wp2
  go_ret2
  exact ⟨rfl, rfl⟩
theorem r_or (a b : Int) (w : World) : Calls Tryz.prog 96 #[.string ⟨#[111, 114]⟩, .int .i64 a, .int .i64 b] w fun e w' => e = .returned (.tuple #[.int .i64 (bits .or .i64 a b), .bool true]) ∧ w' = w := by
  go_enter Tryz.func96, Tryz.ntmps96
  go_wp2
  go_ret2
  exact ⟨rfl, rfl⟩
theorem r_xor (a b : Int) (w : World) : Calls Tryz.prog 96 #[.string ⟨#[120, 111, 114]⟩, .int .i64 a, .int .i64 b] w fun e w' => e = .returned (.tuple #[.int .i64 (bits .xor .i64 a b), .bool true]) ∧ w' = w := by
  go_enter Tryz.func96, Tryz.ntmps96
  go_wp2
  go_ret2
  exact ⟨rfl, rfl⟩
theorem r_mulh (a b : Int) (w : World) : Calls Tryz.prog 96 #[.string ⟨#[109, 117, 108, 104]⟩, .int .i64 a, .int .i64 b] w fun e w' => e = .returned (.tuple #[.int .i64 (hiV a b), .bool true]) ∧ w' = w := by
  have hH := high8 a b
  go_enter Tryz.func96, Tryz.ntmps96
  go_wp2_with (first | (go_at_call 129; refine (hH _).mono ?_; rintro e w' ⟨rfl, rfl⟩))
  go_ret2
  exact ⟨rfl, rfl⟩
theorem r_div (a b : Int) (w : World) : Calls Tryz.prog 96 #[.string ⟨#[100, 105, 118]⟩, .int .i64 a, .int .i64 b] w fun e w' => e = .returned (.tuple #[.int .i64 (quoV a b), .bool true]) ∧ w' = w := by
  by_cases h : b = 0
  · subst h
    go_enter Tryz.func96, Tryz.ntmps96
    go_wp2
    go_ret2
    exact ⟨rfl, rfl⟩
  · by_cases hl : a = -9223372036854775808
    · by_cases hm : b = -1
      · subst hl hm
        rw [quo_least]
        go_enter Tryz.func96, Tryz.ntmps96
        go_wp2
        go_ret2
        exact ⟨rfl, rfl⟩
      · have HR : Hid (quoV a b = wrap64 (a.tdiv b)) := if_neg h
        generalize quoV a b = R at *
        have h1 : (b == 0) = false := by simp; omega
        have h2 : (a == -9223372036854775808) = true := by simp; omega
        have h3 : (b == -1) = false := by simp; omega
        clear hl
        go_enter Tryz.func96, Tryz.ntmps96
        go_wp2
        go_ret2
        exact ⟨ret_two HR.out.symm, rfl⟩
    · have HR : Hid (quoV a b = wrap64 (a.tdiv b)) := if_neg h
      generalize quoV a b = R at *
      have h1 : (b == 0) = false := by simp; omega
      have h2 : (a == -9223372036854775808) = false := by simp; omega
      go_enter Tryz.func96, Tryz.ntmps96
      go_wp2
      go_ret2
      exact ⟨ret_two HR.out.symm, rfl⟩
theorem r_rem (a b : Int) (w : World) : Calls Tryz.prog 96 #[.string ⟨#[114, 101, 109]⟩, .int .i64 a, .int .i64 b] w fun e w' => e = .returned (.tuple #[.int .i64 (remV a b), .bool true]) ∧ w' = w := by
  by_cases h : b = 0
  · subst h
    go_enter Tryz.func96, Tryz.ntmps96
    go_wp2
    go_ret2
    exact ⟨rfl, rfl⟩
  · by_cases hl : a = -9223372036854775808
    · by_cases hm : b = -1
      · subst hl hm
        rw [rem_least]
        go_enter Tryz.func96, Tryz.ntmps96
        go_wp2
        go_ret2
        exact ⟨rfl, rfl⟩
      · have HR : Hid (remV a b = a.tmod b) := if_neg h
        generalize remV a b = R at *
        have h1 : (b == 0) = false := by simp; omega
        have h2 : (a == -9223372036854775808) = true := by simp; omega
        have h3 : (b == -1) = false := by simp; omega
        clear hl
        go_enter Tryz.func96, Tryz.ntmps96
        go_wp2
        go_ret2
        exact ⟨ret_two HR.out.symm, rfl⟩
    · have HR : Hid (remV a b = a.tmod b) := if_neg h
      generalize remV a b = R at *
      have h1 : (b == 0) = false := by simp; omega
      have h2 : (a == -9223372036854775808) = false := by simp; omega
      go_enter Tryz.func96, Tryz.ntmps96
      go_wp2
      go_ret2
      exact ⟨ret_two HR.out.symm, rfl⟩
theorem r_sll (a b : Int) (w : World) : Calls Tryz.prog 96 #[.string ⟨#[115, 108, 108]⟩, .int .i64 a, .int .i64 b] w fun e w' => e = .returned (.tuple #[.int .i64 (sllV a b), .bool true]) ∧ w' = w := by
  have hA := wrap_U a
  have hB := wrap_U b
  have h6 := sh_eq b
  have hn := shN_lt b
  have hu := U_bd a
  have HV : Hid (sllV a b = wrap64 (a * 2 ^ shN b)) := rfl
  have HS : Hid (∀ p, wrap64 (U a * p % 18446744073709551616) = wrap64 (a * p)) := sll_eq a
  generalize sllV a b = R at *
  generalize shN b = n at *
  generalize U a = A at *
  go_enter Tryz.func96, Tryz.ntmps96
  go_wp2
  go_ret2
  exact ⟨ret_two (by rw [wrapU, HS.out, HV.out]), rfl⟩
theorem r_srl (a b : Int) (w : World) : Calls Tryz.prog 96 #[.string ⟨#[115, 114, 108]⟩, .int .i64 a, .int .i64 b] w fun e w' => e = .returned (.tuple #[.int .i64 (srlV a b), .bool true]) ∧ w' = w := by
  have hA := wrap_U a
  have hB := wrap_U b
  have h6 := sh_eq b
  have hn := shN_lt b
  have hu := U_bd a
  unfold srlV
  generalize shN b = n at *
  generalize U a = A at *
  go_enter Tryz.func96, Tryz.ntmps96
  go_wp2
  go_ret2
  exact ⟨rfl, rfl⟩
theorem r_sra (a b : Int) (w : World) : Calls Tryz.prog 96 #[.string ⟨#[115, 114, 97]⟩, .int .i64 a, .int .i64 b] w fun e w' => e = .returned (.tuple #[.int .i64 (sraV a b), .bool true]) ∧ w' = w := by
  have hB := wrap_U b
  have h6 := sh_eq b
  have hn := shN_lt b
  unfold sraV
  generalize shN b = n at *
  go_enter Tryz.func96, Tryz.ntmps96
  go_wp2
  go_ret2
  exact ⟨rfl, rfl⟩
theorem r_slt (a b : Int) (w : World) : Calls Tryz.prog 96 #[.string ⟨#[115, 108, 116]⟩, .int .i64 a, .int .i64 b] w fun e w' => e = .returned (.tuple #[.int .i64 (sltV a b), .bool true]) ∧ w' = w := by
  have hT := truth9
  have hA := wrap_U a
  have hB := wrap_U b
  have h6 := sh_eq b
  by_cases h : a < b
  · have HV : Hid ((1 : Int) = sltV a b) := (if_pos h).symm
    go_enter Tryz.func96, Tryz.ntmps96
    go_wp2_with (first | (go_at_call 130; refine (hT _ _).mono ?_; rintro e w' ⟨rfl, rfl⟩))
    go_ret2
    exact ⟨ret_two HV.out, rfl⟩
  · have HV : Hid ((0 : Int) = sltV a b) := (if_neg h).symm
    go_enter Tryz.func96, Tryz.ntmps96
    go_wp2_with (first | (go_at_call 130; refine (hT _ _).mono ?_; rintro e w' ⟨rfl, rfl⟩))
    go_ret2
    exact ⟨ret_two HV.out, rfl⟩
theorem r_sltu (a b : Int) (w : World) : Calls Tryz.prog 96 #[.string ⟨#[115, 108, 116, 117]⟩, .int .i64 a, .int .i64 b] w fun e w' => e = .returned (.tuple #[.int .i64 (sltuV a b), .bool true]) ∧ w' = w := by
  have hT := truth9
  have hA := wrap_U a
  have hB := wrap_U b
  have h6 := sh_eq b
  by_cases h : U a < U b
  · have HV : Hid ((1 : Int) = sltuV a b) := (if_pos h).symm
    go_enter Tryz.func96, Tryz.ntmps96
    go_wp2_with (first | (go_at_call 130; refine (hT _ _).mono ?_; rintro e w' ⟨rfl, rfl⟩))
    go_ret2
    exact ⟨ret_two HV.out, rfl⟩
  · have HV : Hid ((0 : Int) = sltuV a b) := (if_neg h).symm
    go_enter Tryz.func96, Tryz.ntmps96
    go_wp2_with (first | (go_at_call 130; refine (hT _ _).mono ?_; rintro e w' ⟨rfl, rfl⟩))
    go_ret2
    exact ⟨ret_two HV.out, rfl⟩
theorem r_other (s : ByteArray) (a b : Int) (w : World) (h0 : (s.toList == [97, 100, 100]) = false) (h1 : (s.toList == [115, 117, 98]) = false) (h2 : (s.toList == [109, 117, 108]) = false) (h3 : (s.toList == [109, 117, 108, 104]) = false) (h4 : (s.toList == [100, 105, 118]) = false) (h5 : (s.toList == [114, 101, 109]) = false) (h6 : (s.toList == [97, 110, 100]) = false) (h7 : (s.toList == [111, 114]) = false) (h8 : (s.toList == [120, 111, 114]) = false) (h9 : (s.toList == [115, 108, 108]) = false) (h10 : (s.toList == [115, 114, 108]) = false) (h11 : (s.toList == [115, 114, 97]) = false) (h12 : (s.toList == [115, 108, 116]) = false) (h13 : (s.toList == [115, 108, 116, 117]) = false) : Calls Tryz.prog 96 #[.string s, .int .i64 a, .int .i64 b] w fun e w' => e = .returned (.tuple #[.int .i64 0, .bool false]) ∧ w' = w := by
  go_enter Tryz.func96, Tryz.ntmps96
  go_wp2
  go_ret2
  exact ⟨rfl, rfl⟩
end
section
open Go.RowKit Go.Shelf
set_option maxHeartbeats 4000000
/-- Is a register's field right? -/
def flB (rg : Int) (l : List UInt8) (big small : UInt8) (r : Int) : Bool := if l.contains big then rgB rg r else if l.contains small then (r == -1 || rgB rg r) else r == 0
theorem rfield93 (f : Fnh) (s : ByteArray) (big small : UInt8) (r : Int) (w : World) (hs : s.size ≤ maxLen) : Calls Tryz.prog 93 #[fnhV f, .string s, .int .u8 (big.toNat : Int), .int .u8 (small.toNat : Int), .int .i64 r] w fun e w' => e = .returned (.bool (flB f.rg s.data.toList big small r)) ∧ G w w' := by
  have HB : Hid (∀ w, Calls Tryz.prog 94 #[.string s, .int .u8 (big.toNat : Int)] w fun e w' => e = .returned (.bool (s.data.toList.contains big)) ∧ w' = w) := fun w => rhas94 s big w hs
  have HM : Hid (∀ w, Calls Tryz.prog 94 #[.string s, .int .u8 (small.toNat : Int)] w fun e w' => e = .returned (.bool (s.data.toList.contains small)) ∧ w' = w) := fun w => rhas94 s small w hs
  have HR : Hid (∀ w, Calls Tryz.prog 95 #[fnhV f, .int .i64 r] w fun e w' => e = .returned (.bool (rgB f.rg r)) ∧ G w w') := fun w => rreg95 f r w
  have HV : Hid (flB f.rg s.data.toList big small r = if s.data.toList.contains big then rgB f.rg r else if s.data.toList.contains small then (r == -1 || rgB f.rg r) else r == 0) := rfl
  generalize flB f.rg s.data.toList big small r = R at *
  generalize s.data.toList.contains big = X at *
  generalize s.data.toList.contains small = Y at *
  generalize rgB f.rg r = Z at *
  generalize (big.toNat : Int) = bi at *
  generalize (small.toNat : Int) = si at *
  unfold fnhV at *
  clear hs
  cases X with
  | true =>
    have HE : Hid (Z = R) := by show _ = _; rw [HV.out]; rfl
    go_enter Tryz.func93, Tryz.ntmps93
    go_wp2_with (first | (go_at_call 94; (first | (with_reducible refine (HB.out _).mono ?_) | (with_reducible refine (HM.out _).mono ?_)); rintro e w' ⟨rfl, rfl⟩) | (go_at_call 95; refine (HR.out _).mono ?_; rintro e w' ⟨rfl, hg⟩))
    go_ret
    exact ⟨ret_bool HE.out, ((G.refl _).alloc _).trans hg⟩
  | false =>
    cases Y with
    | true =>
      by_cases hr : r = -1
      · have HE : Hid (true = R) := by show _ = _; rw [HV.out, hr]; rfl
        have q : (r == -1) = true := by simp [hr]
        clear hr
        go_enter Tryz.func93, Tryz.ntmps93
        go_wp2_with (first | (go_at_call 94; (first | (with_reducible refine (HB.out _).mono ?_) | (with_reducible refine (HM.out _).mono ?_)); rintro e w' ⟨rfl, rfl⟩) | (go_at_call 95; refine (HR.out _).mono ?_; rintro e w' ⟨rfl, hg⟩))
        go_ret
        exact ⟨ret_bool HE.out, (G.refl _).alloc _⟩
      · have q : (r == -1) = false := by simpa using hr
        have HE : Hid (Z = R) := by show _ = _; rw [HV.out, q]; rfl
        clear hr
        go_enter Tryz.func93, Tryz.ntmps93
        go_wp2_with (first | (go_at_call 94; (first | (with_reducible refine (HB.out _).mono ?_) | (with_reducible refine (HM.out _).mono ?_)); rintro e w' ⟨rfl, rfl⟩) | (go_at_call 95; refine (HR.out _).mono ?_; rintro e w' ⟨rfl, hg⟩))
        go_ret
        exact ⟨ret_bool HE.out, ((G.refl _).alloc _).trans hg⟩
    | false =>
      have HE : Hid ((r == 0) = R) := by show _ = _; rw [HV.out]; rfl
      go_enter Tryz.func93, Tryz.ntmps93
      go_wp2_with (first | (go_at_call 94; (first | (with_reducible refine (HB.out _).mono ?_) | (with_reducible refine (HM.out _).mono ?_)); rintro e w' ⟨rfl, rfl⟩) | (go_at_call 95; refine (HR.out _).mono ?_; rintro e w' ⟨rfl, hg⟩))
      go_ret
      exact ⟨ret_bool HE.out, (G.refl _).alloc _⟩
/-- What the document's own Bin tells of 1 and 1, by an operation's name. -/
theorem rbin_ok (s : ByteArray) : ∃ v, ∀ w, Calls Tryz.prog 96 #[.string s, .int .i64 1, .int .i64 1] w fun e w' => e = .returned (.tuple #[.int .i64 v, .bool (opB s.data.toList)]) ∧ w' = w := by
  by_cases h0 : s = ⟨#[97, 100, 100]⟩
  · subst h0; exact ⟨_, r_add 1 1⟩
  by_cases h1 : s = ⟨#[115, 117, 98]⟩
  · subst h1; exact ⟨_, r_sub 1 1⟩
  by_cases h2 : s = ⟨#[109, 117, 108]⟩
  · subst h2; exact ⟨_, r_mul 1 1⟩
  by_cases h3 : s = ⟨#[109, 117, 108, 104]⟩
  · subst h3; exact ⟨_, r_mulh 1 1⟩
  by_cases h4 : s = ⟨#[100, 105, 118]⟩
  · subst h4; exact ⟨_, r_div 1 1⟩
  by_cases h5 : s = ⟨#[114, 101, 109]⟩
  · subst h5; exact ⟨_, r_rem 1 1⟩
  by_cases h6 : s = ⟨#[97, 110, 100]⟩
  · subst h6; exact ⟨_, r_and 1 1⟩
  by_cases h7 : s = ⟨#[111, 114]⟩
  · subst h7; exact ⟨_, r_or 1 1⟩
  by_cases h8 : s = ⟨#[120, 111, 114]⟩
  · subst h8; exact ⟨_, r_xor 1 1⟩
  by_cases h9 : s = ⟨#[115, 108, 108]⟩
  · subst h9; exact ⟨_, r_sll 1 1⟩
  by_cases h10 : s = ⟨#[115, 114, 108]⟩
  · subst h10; exact ⟨_, r_srl 1 1⟩
  by_cases h11 : s = ⟨#[115, 114, 97]⟩
  · subst h11; exact ⟨_, r_sra 1 1⟩
  by_cases h12 : s = ⟨#[115, 108, 116]⟩
  · subst h12; exact ⟨_, r_slt 1 1⟩
  by_cases h13 : s = ⟨#[115, 108, 116, 117]⟩
  · subst h13; exact ⟨_, r_sltu 1 1⟩
  have k : ∀ l : List UInt8, s ≠ ⟨l.toArray⟩ → (s.toList == l) = false ∧ s.data.toList ≠ l := fun l h => ⟨by rw [ByteArray.toList_eq]; simpa using (ba_ne' h).2, (ba_ne' h).2⟩
  have hO : opB s.data.toList = false := by
    unfold opB
    simp [(k _ h0).2, (k _ h1).2, (k _ h2).2, (k _ h3).2, (k _ h4).2, (k _ h5).2, (k _ h6).2, (k _ h7).2, (k _ h8).2, (k _ h9).2, (k _ h10).2, (k _ h11).2, (k _ h12).2, (k _ h13).2]
  rw [hO]
  exact ⟨_, fun w => r_other s 1 1 w (k _ h0).1 (k _ h1).1 (k _ h2).1 (k _ h3).1 (k _ h4).1 (k _ h5).1 (k _ h6).1 (k _ h7).1 (k _ h8).1 (k _ h9).1 (k _ h10).1 (k _ h11).1 (k _ h12).1 (k _ h13).1⟩
end
end Go.Proofs.YtdppoblbenbafaaGreatDoor
