/- Of a memory: its pages in order (S4). Of a memory: its pages in order (S5). -/
import Derived.Test.YtnmpbihpoefeoaaDoorLA
namespace Go.Proofs.YtnmpbihpoefeoaaDoor
section
open Go.RowKit Go.Shelf Go.Sort
theorem up_go {p : Int → Bool} {d : Array Int} {j i : Nat} (h : i ≤ j) (hp : p d[i]! = true) : scanUp p d j i = scanUp p d j (i + 1) := by
  rw [scanUp, if_pos (by rw [hp, decide_eq_true h]; rfl)]
theorem up_stop {p : Int → Bool} {d : Array Int} {j i : Nat} (h : ¬ i ≤ j ∨ p d[i]! = false) : scanUp p d j i = i := by
  rw [scanUp, if_neg]
  rcases h with h | h
  · rw [decide_eq_false h]; simp
  · rw [h]; simp
theorem down_go {p : Int → Bool} {d : Array Int} {j i : Nat} (h : i ≤ j) (h1 : 1 ≤ j) (hp : p d[j]! = true) : scanDown p d i j = scanDown p d i (j - 1) := by
  obtain ⟨k, rfl⟩ : ∃ k, j = k + 1 := ⟨j - 1, by omega⟩
  rw [scanDown, if_pos (by rw [hp, decide_eq_true h]; rfl)]
  rfl
theorem down_stop {p : Int → Bool} {d : Array Int} {j i : Nat} (h : ¬ i ≤ j ∨ p d[j]! = false) : scanDown p d i j = j := by
  cases j with
  | zero => rfl
  | succ k =>
    rw [scanDown, if_neg]
    rcases h with h | h
    · rw [decide_eq_false h]; simp
    · rw [h]; simp
set_option maxHeartbeats 8000000 in
set_option maxRecDepth 100000 in
theorem partEq68 (blk off len cap a b pivot : Nat) (d : Array Int) (w : World) (hH : Rw w blk off d w) (hsz : d.size = len) (hs : len ≤ 65536) (hap : a ≤ pivot) (hpb : pivot < b) (hb : b ≤ len) :
    Calls Tryd.prog 93 #[.slice (some ⟨blk, off, none⟩) len cap, .int .i64 a, .int .i64 b, .int .i64 pivot] w fun e w' => e = .returned (.int .i64 (((Sort.partitionEqual ltInt d a b pivot).1 : Nat) : Int)) ∧ Rw w blk off (Sort.partitionEqual ltInt d a b pivot).2 w' := by
  obtain ⟨R, hR⟩ : ∃ R, Sort.partitionEqual ltInt d a b pivot = R := ⟨_, rfl⟩
  rw [hR]
  have HD : Hid (partEqLoop ltInt a (a + 1) (b - 1) (swp d a pivot) = R) := hR
  clear hR
  obtain ⟨G, hG, hcw, hfw⟩ := hH.fam
  rw [hsz] at hcw hfw
  have HW0 : Hid (Rw w blk off (swp d a pivot) ((w.setCell ⟨blk, off + a, none⟩ (.int .u64 (G pivot))).setCell ⟨blk, off + pivot, none⟩ (.int .u64 (G a)))) := (by rw [hG, hG]; exact hH.swap a pivot : Rw w blk off (swp d a pivot) ((w.setCell ⟨blk, off + a, none⟩ (.int .u64 (G pivot))).setCell ⟨blk, off + pivot, none⟩ (.int .u64 (G a))))
  have hsw : (swp d a pivot).size = len := by rw [size_swp]; exact hsz
  have hcase : a = pivot ∨ a < pivot := by omega
  clear hG hH
  rcases hcase with rfl | hlt
  · go_enter Tryd.func93, Tryd.ntmps93
    go_wp2
    go_region
    all_goals go_wp2
    clear hcw hfw
    go_loopw [9, 10] (fun vi vj wr => ∃ (i j : Nat) (dk : Array Int), vi = .int .i64 i ∧ vj = .int .i64 j ∧ a + 1 ≤ i ∧ j < b ∧ i ≤ j + 2 ∧ dk.size = len ∧ Rw w blk off dk wr ∧ partEqLoop ltInt a i j dk = R) (fun vi vj _ => (intOf vj - intOf vi + 3).toNat)
    case atStart => exact ⟨a + 1, b - 1, _, by go_num, by congr 1; omega, Nat.le_refl _, by omega, by omega, hsw, HW0.out.drew, HD.out⟩
    case round =>
      obtain ⟨i, j, dk, rfl, rfl, hi, hj, hij0, hsk, hR, hO⟩ := hrel
      have HR : Hid (Rw w blk off dk wr) := hR
      have HO : Hid (partEqLoop ltInt a i j dk = R) := hO
      clear hR hO
      go_wp2
      go_loopw [9] (fun vi wr2 => ∃ i2 : Nat, vi = .int .i64 i2 ∧ i ≤ i2 ∧ i2 ≤ b + 1 ∧ Rw w blk off dk wr2 ∧ scanUp (fun x => !ltInt dk[a]! x) dk j i2 = scanUp (fun x => !ltInt dk[a]! x) dk j i) (fun vi _ => b + 2 - (intOf vi).toNat)
      case atStart => exact ⟨i, rfl, Nat.le_refl _, by omega, HR.out, rfl⟩
      case round =>
        obtain ⟨i2, rfl, hi2, hi3, hR2, hU⟩ := hrel
        obtain ⟨G, hG, hcw, hfw⟩ := hR2.fam
        rw [hsk] at hcw hfw
        have HR2 : Hid (Rw w blk off dk wr) := hR2
        have HG : Hid (∀ t, G t = dk[t]!) := hG
        have HU : Hid (scanUp (fun x => !ltInt dk[a]! x) dk j i2 = scanUp (fun x => !ltInt dk[a]! x) dk j i) := hU
        clear hR2 hG hU
        by_cases hij : i2 ≤ j
        · cases hl : ltInt (G a) (G i2)
          · go_wp2
            go_quiet (first | (go_at_call 92; refine Calls.quiet_of_same (less67 _ _ _)))
            go_wp2
            go_roundw
            case rel => exact ⟨i2 + 1, by go_num, by omega, by omega, HR2.out.drewN _, by rw [← up_go hij (by have t := hl; rw [HG.out, HG.out] at t; show (!ltInt dk[a]! dk[i2]!) = _; rw [t] <;> rfl), HU.out]⟩
            case measure => simp [intOf]; omega
          · have HV : Hid (ltInt dk[a]! dk[i2]! = true) := (by rw [← HG.out, ← HG.out]; exact hl : ltInt dk[a]! dk[i2]! = true)
            have HX : Hid (scanUp (fun x => !ltInt dk[a]! x) dk j i = i2) := (by rw [← HU.out]; exact up_stop (.inr (by have t := hl; rw [HG.out, HG.out] at t; show (!ltInt dk[a]! dk[i2]!) = _; rw [t] <;> rfl)) : scanUp (fun x => !ltInt dk[a]! x) dk j i = i2)
            go_wp2
            go_quiet (first | (go_at_call 92; refine Calls.quiet_of_same (less67 _ _ _)))
            have HRq1 : Hid (Rw w blk off dk (wr.drewN nq)) := HR2.out.drewN _; have hcq1 : ∀ t, t < len → (wr.drewN nq).cell? ⟨blk, off + t, none⟩ = some (.int .u64 (G t)) := hcw; have hfq1 : ∀ t, t < len → (wr.drewN nq).frozen? ⟨blk, off + t, none⟩ = false := hfw; clear hcw hfw; generalize wr.drewN nq = wq1 at *
            go_wp2_with fail
            go_loopw [10] (fun vj wr3 => ∃ j2 : Nat, vj = .int .i64 j2 ∧ j2 ≤ j ∧ Rw w blk off dk wr3 ∧ scanDown (fun x => ltInt dk[a]! x) dk i2 j2 = scanDown (fun x => ltInt dk[a]! x) dk i2 j) (fun vj _ => (intOf vj).toNat)
            case atStart => exact ⟨j, rfl, Nat.le_refl _, HRq1.out, rfl⟩
            case round =>
              obtain ⟨j2, rfl, hj2, hR3, hD⟩ := hrel
              clear hcq1 hfq1
              obtain ⟨G, hG, hcw, hfw⟩ := hR3.fam
              rw [hsk] at hcw hfw
              have HR3 : Hid (Rw w blk off dk wr) := hR3
              have HG : Hid (∀ t, G t = dk[t]!) := hG
              have HD : Hid (scanDown (fun x => ltInt dk[a]! x) dk i2 j2 = scanDown (fun x => ltInt dk[a]! x) dk i2 j) := hD
              clear hR3 hG hD
              by_cases hij2 : i2 ≤ j2
              · cases hl2 : ltInt (G a) (G j2)
                · have HY : Hid (scanDown (fun x => ltInt dk[a]! x) dk i2 j = j2) := (by rw [← HD.out]; exact down_stop (.inr (by have t := hl2; rw [HG.out, HG.out] at t; show (ltInt dk[a]! dk[j2]!) = _; rw [t] <;> rfl)) : scanDown (fun x => ltInt dk[a]! x) dk i2 j = j2)
                  have hne : i2 < j2 := by
                    rcases Nat.lt_or_ge i2 j2 with h | h
                    · exact h
                    · obtain rfl : i2 = j2 := by omega
                      have t := HV.out
                      rw [← HG.out, ← HG.out, hl2] at t
                      cases t
                  have HN : Hid (partEqLoop ltInt a (i2 + 1) (j2 - 1) (swp dk i2 j2) = R) := (by have t := HO.out; rw [partEqLoop_eq, HX.out, HY.out, if_neg (by omega)] at t; exact t : partEqLoop ltInt a (i2 + 1) (j2 - 1) (swp dk i2 j2) = R)
                  go_wp2
                  go_quiet (first | (go_at_call 92; refine Calls.quiet_of_same (less67 _ _ _)))
                  have HRq2 : Hid (Rw w blk off dk (wr.drewN nq)) := HR3.out.drewN _; have hcq2 : ∀ t, t < len → (wr.drewN nq).cell? ⟨blk, off + t, none⟩ = some (.int .u64 (G t)) := hcw; have hfq2 : ∀ t, t < len → (wr.drewN nq).frozen? ⟨blk, off + t, none⟩ = false := hfw; clear hcw hfw; generalize wr.drewN nq = wq2 at *
                  have HW : Hid (Rw w blk off (swp dk i2 j2) ((wq2.setCell ⟨blk, off + i2, none⟩ (.int .u64 (G j2))).setCell ⟨blk, off + j2, none⟩ (.int .u64 (G i2)))) := (by rw [HG.out, HG.out]; exact HRq2.out.swap i2 j2 : Rw w blk off (swp dk i2 j2) ((wq2.setCell ⟨blk, off + i2, none⟩ (.int .u64 (G j2))).setCell ⟨blk, off + j2, none⟩ (.int .u64 (G i2))))
                  go_wp2
                  go_region
                  all_goals go_wp2
                  go_roundw
                  case rel => exact ⟨i2 + 1, j2 - 1, swp dk i2 j2, by go_num, by congr 1; omega, by omega, by omega, by omega, by rw [size_swp]; exact hsk, HW.out.drew, HN.out⟩
                  case measure => simp [intOf]; omega
                · go_wp2
                  go_quiet (first | (go_at_call 92; refine Calls.quiet_of_same (less67 _ _ _)))
                  go_wp2
                  go_roundw
                  case rel => exact ⟨j2 - 1, by congr 1; omega, by omega, HR3.out.drewN _, by rw [← down_go hij2 (by omega) (by have t := hl2; rw [HG.out, HG.out] at t; show (ltInt dk[a]! dk[j2]!) = _; rw [t] <;> rfl), HD.out]⟩
                  case measure => simp [intOf]; omega
              · have hd2 : decide ((i2 : Int) ≤ (j2 : Int)) = false := decide_eq_false (by omega)
                have HY : Hid (scanDown (fun x => ltInt dk[a]! x) dk i2 j = j2) := (by rw [← HD.out]; exact down_stop (.inl hij2) : scanDown (fun x => ltInt dk[a]! x) dk i2 j = j2)
                have HN : Hid ((i2, dk) = R) := (by have t := HO.out; rw [partEqLoop_eq, HX.out, HY.out, if_pos (by omega)] at t; exact t : (i2, dk) = R)
                go_wp2
                go_quiet (first | (go_at_call 92; refine Calls.quiet_of_same (less67 _ _ _)))
                have HRq2 : Hid (Rw w blk off dk (wr.drewN nq)) := HR3.out.drewN _; have hcq2 : ∀ t, t < len → (wr.drewN nq).cell? ⟨blk, off + t, none⟩ = some (.int .u64 (G t)) := hcw; have hfq2 : ∀ t, t < len → (wr.drewN nq).frozen? ⟨blk, off + t, none⟩ = false := hfw; clear hcw hfw; generalize wr.drewN nq = wq2 at *
                go_wp2
                go_ret
                obtain rfl := HN.out
                exact ⟨rfl, HRq2.out⟩
        · have hd : decide ((i2 : Int) ≤ (j : Int)) = false := decide_eq_false (by omega)
          have HX : Hid (scanUp (fun x => !ltInt dk[a]! x) dk j i = i2) := (by rw [← HU.out]; exact up_stop (.inl hij) : scanUp (fun x => !ltInt dk[a]! x) dk j i = i2)
          go_wp2
          go_quiet (first | (go_at_call 92; refine Calls.quiet_of_same (less67 _ _ _)))
          have HRq1 : Hid (Rw w blk off dk (wr.drewN nq)) := HR2.out.drewN _; have hcq1 : ∀ t, t < len → (wr.drewN nq).cell? ⟨blk, off + t, none⟩ = some (.int .u64 (G t)) := hcw; have hfq1 : ∀ t, t < len → (wr.drewN nq).frozen? ⟨blk, off + t, none⟩ = false := hfw; clear hcw hfw; generalize wr.drewN nq = wq1 at *
          go_wp2_with fail
          go_loopw [10] (fun vj wr3 => ∃ j2 : Nat, vj = .int .i64 j2 ∧ j2 ≤ j ∧ Rw w blk off dk wr3 ∧ scanDown (fun x => ltInt dk[a]! x) dk i2 j2 = scanDown (fun x => ltInt dk[a]! x) dk i2 j) (fun vj _ => (intOf vj).toNat)
          case atStart => exact ⟨j, rfl, Nat.le_refl _, HRq1.out, rfl⟩
          case round =>
            obtain ⟨j2, rfl, hj2, hR3, hD⟩ := hrel
            clear hcq1 hfq1
            obtain ⟨G, hG, hcw, hfw⟩ := hR3.fam
            rw [hsk] at hcw hfw
            have HR3 : Hid (Rw w blk off dk wr) := hR3
            have HG : Hid (∀ t, G t = dk[t]!) := hG
            have HD : Hid (scanDown (fun x => ltInt dk[a]! x) dk i2 j2 = scanDown (fun x => ltInt dk[a]! x) dk i2 j) := hD
            clear hR3 hG hD
            by_cases hij2 : i2 ≤ j2
            · cases hl2 : ltInt (G a) (G j2)
              · have HY : Hid (scanDown (fun x => ltInt dk[a]! x) dk i2 j = j2) := (by rw [← HD.out]; exact down_stop (.inr (by have t := hl2; rw [HG.out, HG.out] at t; show (ltInt dk[a]! dk[j2]!) = _; rw [t] <;> rfl)) : scanDown (fun x => ltInt dk[a]! x) dk i2 j = j2)
                exact absurd hij2 (by omega)
              · go_wp2
                go_quiet (first | (go_at_call 92; refine Calls.quiet_of_same (less67 _ _ _)))
                go_wp2
                go_roundw
                case rel => exact ⟨j2 - 1, by congr 1; omega, by omega, HR3.out.drewN _, by rw [← down_go hij2 (by omega) (by have t := hl2; rw [HG.out, HG.out] at t; show (ltInt dk[a]! dk[j2]!) = _; rw [t] <;> rfl), HD.out]⟩
                case measure => simp [intOf]; omega
            · have hd2 : decide ((i2 : Int) ≤ (j2 : Int)) = false := decide_eq_false (by omega)
              have HY : Hid (scanDown (fun x => ltInt dk[a]! x) dk i2 j = j2) := (by rw [← HD.out]; exact down_stop (.inl hij2) : scanDown (fun x => ltInt dk[a]! x) dk i2 j = j2)
              have HN : Hid ((i2, dk) = R) := (by have t := HO.out; rw [partEqLoop_eq, HX.out, HY.out, if_pos (by omega)] at t; exact t : (i2, dk) = R)
              go_wp2
              go_quiet (first | (go_at_call 92; refine Calls.quiet_of_same (less67 _ _ _)))
              have HRq2 : Hid (Rw w blk off dk (wr.drewN nq)) := HR3.out.drewN _; have hcq2 : ∀ t, t < len → (wr.drewN nq).cell? ⟨blk, off + t, none⟩ = some (.int .u64 (G t)) := hcw; have hfq2 : ∀ t, t < len → (wr.drewN nq).frozen? ⟨blk, off + t, none⟩ = false := hfw; clear hcw hfw; generalize wr.drewN nq = wq2 at *
              go_wp2
              go_ret
              obtain rfl := HN.out
              exact ⟨rfl, HRq2.out⟩
  · go_enter Tryd.func93, Tryd.ntmps93
    go_wp2
    go_region
    all_goals go_wp2
    clear hcw hfw
    go_loopw [9, 10] (fun vi vj wr => ∃ (i j : Nat) (dk : Array Int), vi = .int .i64 i ∧ vj = .int .i64 j ∧ a + 1 ≤ i ∧ j < b ∧ i ≤ j + 2 ∧ dk.size = len ∧ Rw w blk off dk wr ∧ partEqLoop ltInt a i j dk = R) (fun vi vj _ => (intOf vj - intOf vi + 3).toNat)
    case atStart => exact ⟨a + 1, b - 1, _, by go_num, by congr 1; omega, Nat.le_refl _, by omega, by omega, hsw, HW0.out.drew, HD.out⟩
    case round =>
      obtain ⟨i, j, dk, rfl, rfl, hi, hj, hij0, hsk, hR, hO⟩ := hrel
      have HR : Hid (Rw w blk off dk wr) := hR
      have HO : Hid (partEqLoop ltInt a i j dk = R) := hO
      clear hR hO
      go_wp2
      go_loopw [9] (fun vi wr2 => ∃ i2 : Nat, vi = .int .i64 i2 ∧ i ≤ i2 ∧ i2 ≤ b + 1 ∧ Rw w blk off dk wr2 ∧ scanUp (fun x => !ltInt dk[a]! x) dk j i2 = scanUp (fun x => !ltInt dk[a]! x) dk j i) (fun vi _ => b + 2 - (intOf vi).toNat)
      case atStart => exact ⟨i, rfl, Nat.le_refl _, by omega, HR.out, rfl⟩
      case round =>
        obtain ⟨i2, rfl, hi2, hi3, hR2, hU⟩ := hrel
        obtain ⟨G, hG, hcw, hfw⟩ := hR2.fam
        rw [hsk] at hcw hfw
        have HR2 : Hid (Rw w blk off dk wr) := hR2
        have HG : Hid (∀ t, G t = dk[t]!) := hG
        have HU : Hid (scanUp (fun x => !ltInt dk[a]! x) dk j i2 = scanUp (fun x => !ltInt dk[a]! x) dk j i) := hU
        clear hR2 hG hU
        by_cases hij : i2 ≤ j
        · cases hl : ltInt (G a) (G i2)
          · go_wp2
            go_quiet (first | (go_at_call 92; refine Calls.quiet_of_same (less67 _ _ _)))
            go_wp2
            go_roundw
            case rel => exact ⟨i2 + 1, by go_num, by omega, by omega, HR2.out.drewN _, by rw [← up_go hij (by have t := hl; rw [HG.out, HG.out] at t; show (!ltInt dk[a]! dk[i2]!) = _; rw [t] <;> rfl), HU.out]⟩
            case measure => simp [intOf]; omega
          · have HV : Hid (ltInt dk[a]! dk[i2]! = true) := (by rw [← HG.out, ← HG.out]; exact hl : ltInt dk[a]! dk[i2]! = true)
            have HX : Hid (scanUp (fun x => !ltInt dk[a]! x) dk j i = i2) := (by rw [← HU.out]; exact up_stop (.inr (by have t := hl; rw [HG.out, HG.out] at t; show (!ltInt dk[a]! dk[i2]!) = _; rw [t] <;> rfl)) : scanUp (fun x => !ltInt dk[a]! x) dk j i = i2)
            go_wp2
            go_quiet (first | (go_at_call 92; refine Calls.quiet_of_same (less67 _ _ _)))
            have HRq1 : Hid (Rw w blk off dk (wr.drewN nq)) := HR2.out.drewN _; have hcq1 : ∀ t, t < len → (wr.drewN nq).cell? ⟨blk, off + t, none⟩ = some (.int .u64 (G t)) := hcw; have hfq1 : ∀ t, t < len → (wr.drewN nq).frozen? ⟨blk, off + t, none⟩ = false := hfw; clear hcw hfw; generalize wr.drewN nq = wq1 at *
            go_wp2_with fail
            go_loopw [10] (fun vj wr3 => ∃ j2 : Nat, vj = .int .i64 j2 ∧ j2 ≤ j ∧ Rw w blk off dk wr3 ∧ scanDown (fun x => ltInt dk[a]! x) dk i2 j2 = scanDown (fun x => ltInt dk[a]! x) dk i2 j) (fun vj _ => (intOf vj).toNat)
            case atStart => exact ⟨j, rfl, Nat.le_refl _, HRq1.out, rfl⟩
            case round =>
              obtain ⟨j2, rfl, hj2, hR3, hD⟩ := hrel
              clear hcq1 hfq1
              obtain ⟨G, hG, hcw, hfw⟩ := hR3.fam
              rw [hsk] at hcw hfw
              have HR3 : Hid (Rw w blk off dk wr) := hR3
              have HG : Hid (∀ t, G t = dk[t]!) := hG
              have HD : Hid (scanDown (fun x => ltInt dk[a]! x) dk i2 j2 = scanDown (fun x => ltInt dk[a]! x) dk i2 j) := hD
              clear hR3 hG hD
              by_cases hij2 : i2 ≤ j2
              · cases hl2 : ltInt (G a) (G j2)
                · have HY : Hid (scanDown (fun x => ltInt dk[a]! x) dk i2 j = j2) := (by rw [← HD.out]; exact down_stop (.inr (by have t := hl2; rw [HG.out, HG.out] at t; show (ltInt dk[a]! dk[j2]!) = _; rw [t] <;> rfl)) : scanDown (fun x => ltInt dk[a]! x) dk i2 j = j2)
                  have hne : i2 < j2 := by
                    rcases Nat.lt_or_ge i2 j2 with h | h
                    · exact h
                    · obtain rfl : i2 = j2 := by omega
                      have t := HV.out
                      rw [← HG.out, ← HG.out, hl2] at t
                      cases t
                  have HN : Hid (partEqLoop ltInt a (i2 + 1) (j2 - 1) (swp dk i2 j2) = R) := (by have t := HO.out; rw [partEqLoop_eq, HX.out, HY.out, if_neg (by omega)] at t; exact t : partEqLoop ltInt a (i2 + 1) (j2 - 1) (swp dk i2 j2) = R)
                  go_wp2
                  go_quiet (first | (go_at_call 92; refine Calls.quiet_of_same (less67 _ _ _)))
                  have HRq2 : Hid (Rw w blk off dk (wr.drewN nq)) := HR3.out.drewN _; have hcq2 : ∀ t, t < len → (wr.drewN nq).cell? ⟨blk, off + t, none⟩ = some (.int .u64 (G t)) := hcw; have hfq2 : ∀ t, t < len → (wr.drewN nq).frozen? ⟨blk, off + t, none⟩ = false := hfw; clear hcw hfw; generalize wr.drewN nq = wq2 at *
                  have HW : Hid (Rw w blk off (swp dk i2 j2) ((wq2.setCell ⟨blk, off + i2, none⟩ (.int .u64 (G j2))).setCell ⟨blk, off + j2, none⟩ (.int .u64 (G i2)))) := (by rw [HG.out, HG.out]; exact HRq2.out.swap i2 j2 : Rw w blk off (swp dk i2 j2) ((wq2.setCell ⟨blk, off + i2, none⟩ (.int .u64 (G j2))).setCell ⟨blk, off + j2, none⟩ (.int .u64 (G i2))))
                  go_wp2
                  go_region
                  all_goals go_wp2
                  go_roundw
                  case rel => exact ⟨i2 + 1, j2 - 1, swp dk i2 j2, by go_num, by congr 1; omega, by omega, by omega, by omega, by rw [size_swp]; exact hsk, HW.out.drew, HN.out⟩
                  case measure => simp [intOf]; omega
                · go_wp2
                  go_quiet (first | (go_at_call 92; refine Calls.quiet_of_same (less67 _ _ _)))
                  go_wp2
                  go_roundw
                  case rel => exact ⟨j2 - 1, by congr 1; omega, by omega, HR3.out.drewN _, by rw [← down_go hij2 (by omega) (by have t := hl2; rw [HG.out, HG.out] at t; show (ltInt dk[a]! dk[j2]!) = _; rw [t] <;> rfl), HD.out]⟩
                  case measure => simp [intOf]; omega
              · have hd2 : decide ((i2 : Int) ≤ (j2 : Int)) = false := decide_eq_false (by omega)
                have HY : Hid (scanDown (fun x => ltInt dk[a]! x) dk i2 j = j2) := (by rw [← HD.out]; exact down_stop (.inl hij2) : scanDown (fun x => ltInt dk[a]! x) dk i2 j = j2)
                have HN : Hid ((i2, dk) = R) := (by have t := HO.out; rw [partEqLoop_eq, HX.out, HY.out, if_pos (by omega)] at t; exact t : (i2, dk) = R)
                go_wp2
                go_quiet (first | (go_at_call 92; refine Calls.quiet_of_same (less67 _ _ _)))
                have HRq2 : Hid (Rw w blk off dk (wr.drewN nq)) := HR3.out.drewN _; have hcq2 : ∀ t, t < len → (wr.drewN nq).cell? ⟨blk, off + t, none⟩ = some (.int .u64 (G t)) := hcw; have hfq2 : ∀ t, t < len → (wr.drewN nq).frozen? ⟨blk, off + t, none⟩ = false := hfw; clear hcw hfw; generalize wr.drewN nq = wq2 at *
                go_wp2
                go_ret
                obtain rfl := HN.out
                exact ⟨rfl, HRq2.out⟩
        · have hd : decide ((i2 : Int) ≤ (j : Int)) = false := decide_eq_false (by omega)
          have HX : Hid (scanUp (fun x => !ltInt dk[a]! x) dk j i = i2) := (by rw [← HU.out]; exact up_stop (.inl hij) : scanUp (fun x => !ltInt dk[a]! x) dk j i = i2)
          go_wp2
          go_quiet (first | (go_at_call 92; refine Calls.quiet_of_same (less67 _ _ _)))
          have HRq1 : Hid (Rw w blk off dk (wr.drewN nq)) := HR2.out.drewN _; have hcq1 : ∀ t, t < len → (wr.drewN nq).cell? ⟨blk, off + t, none⟩ = some (.int .u64 (G t)) := hcw; have hfq1 : ∀ t, t < len → (wr.drewN nq).frozen? ⟨blk, off + t, none⟩ = false := hfw; clear hcw hfw; generalize wr.drewN nq = wq1 at *
          go_wp2_with fail
          go_loopw [10] (fun vj wr3 => ∃ j2 : Nat, vj = .int .i64 j2 ∧ j2 ≤ j ∧ Rw w blk off dk wr3 ∧ scanDown (fun x => ltInt dk[a]! x) dk i2 j2 = scanDown (fun x => ltInt dk[a]! x) dk i2 j) (fun vj _ => (intOf vj).toNat)
          case atStart => exact ⟨j, rfl, Nat.le_refl _, HRq1.out, rfl⟩
          case round =>
            obtain ⟨j2, rfl, hj2, hR3, hD⟩ := hrel
            clear hcq1 hfq1
            obtain ⟨G, hG, hcw, hfw⟩ := hR3.fam
            rw [hsk] at hcw hfw
            have HR3 : Hid (Rw w blk off dk wr) := hR3
            have HG : Hid (∀ t, G t = dk[t]!) := hG
            have HD : Hid (scanDown (fun x => ltInt dk[a]! x) dk i2 j2 = scanDown (fun x => ltInt dk[a]! x) dk i2 j) := hD
            clear hR3 hG hD
            by_cases hij2 : i2 ≤ j2
            · cases hl2 : ltInt (G a) (G j2)
              · have HY : Hid (scanDown (fun x => ltInt dk[a]! x) dk i2 j = j2) := (by rw [← HD.out]; exact down_stop (.inr (by have t := hl2; rw [HG.out, HG.out] at t; show (ltInt dk[a]! dk[j2]!) = _; rw [t] <;> rfl)) : scanDown (fun x => ltInt dk[a]! x) dk i2 j = j2)
                exact absurd hij2 (by omega)
              · go_wp2
                go_quiet (first | (go_at_call 92; refine Calls.quiet_of_same (less67 _ _ _)))
                go_wp2
                go_roundw
                case rel => exact ⟨j2 - 1, by congr 1; omega, by omega, HR3.out.drewN _, by rw [← down_go hij2 (by omega) (by have t := hl2; rw [HG.out, HG.out] at t; show (ltInt dk[a]! dk[j2]!) = _; rw [t] <;> rfl), HD.out]⟩
                case measure => simp [intOf]; omega
            · have hd2 : decide ((i2 : Int) ≤ (j2 : Int)) = false := decide_eq_false (by omega)
              have HY : Hid (scanDown (fun x => ltInt dk[a]! x) dk i2 j = j2) := (by rw [← HD.out]; exact down_stop (.inl hij2) : scanDown (fun x => ltInt dk[a]! x) dk i2 j = j2)
              have HN : Hid ((i2, dk) = R) := (by have t := HO.out; rw [partEqLoop_eq, HX.out, HY.out, if_pos (by omega)] at t; exact t : (i2, dk) = R)
              go_wp2
              go_quiet (first | (go_at_call 92; refine Calls.quiet_of_same (less67 _ _ _)))
              have HRq2 : Hid (Rw w blk off dk (wr.drewN nq)) := HR3.out.drewN _; have hcq2 : ∀ t, t < len → (wr.drewN nq).cell? ⟨blk, off + t, none⟩ = some (.int .u64 (G t)) := hcw; have hfq2 : ∀ t, t < len → (wr.drewN nq).frozen? ⟨blk, off + t, none⟩ = false := hfw; clear hcw hfw; generalize wr.drewN nq = wq2 at *
              go_wp2
              go_ret
              obtain rfl := HN.out
              exact ⟨rfl, HRq2.out⟩
end
section
open Go.RowKit Go.Shelf Go.Sort
/-- What partition makes, behind its first exchange. -/
def partR (a i j : Nat) (dk : Array Int) : Nat × Bool × Array Int :=
  let i2 := scanUp (fun x => ltInt x dk[a]!) dk j i
  let j2 := scanDown (fun x => !ltInt x dk[a]!) dk i2 j
  if i2 > j2 then (j2, true, swp dk j2 a) else ((partLoop ltInt a (i2 + 1) (j2 - 1) (swp dk i2 j2)).1, false, swp (partLoop ltInt a (i2 + 1) (j2 - 1) (swp dk i2 j2)).2 (partLoop ltInt a (i2 + 1) (j2 - 1) (swp dk i2 j2)).1 a)
theorem partition_partR (d : Array Int) (a b pivot : Nat) : Sort.partition ltInt d a b pivot = partR a (a + 1) (b - 1) (swp d a pivot) := rfl
set_option maxHeartbeats 16000000 in
set_option maxRecDepth 100000 in
theorem part69 (blk off len cap a b pivot : Nat) (d : Array Int) (w : World) (hH : Rw w blk off d w) (hsz : d.size = len) (hs : len ≤ 65536) (hap : a ≤ pivot) (hpb : pivot < b) (hb : b ≤ len) :
    Calls Tryd.prog 94 #[.slice (some ⟨blk, off, none⟩) len cap, .int .i64 a, .int .i64 b, .int .i64 pivot] w fun e w' => e = .returned (.tuple #[.int .i64 (((Sort.partition ltInt d a b pivot).1 : Nat) : Int), .bool (Sort.partition ltInt d a b pivot).2.1]) ∧ Rw w blk off (Sort.partition ltInt d a b pivot).2.2 w' := by
  obtain ⟨R, hR⟩ : ∃ R, Sort.partition ltInt d a b pivot = R := ⟨_, rfl⟩
  rw [hR]
  rw [partition_partR] at hR
  obtain ⟨i, hi0⟩ : ∃ i : Nat, a + 1 = i := ⟨_, rfl⟩
  obtain ⟨j, hj0⟩ : ∃ j : Nat, b - 1 = j := ⟨_, rfl⟩
  obtain ⟨dk, hdk⟩ : ∃ dk, swp d a pivot = dk := ⟨_, rfl⟩
  rw [hi0, hj0, hdk] at hR
  have HO : Hid (partR a i j dk = R) := hR
  unfold partR at HO
  clear hR
  have y1 : (a : Int) + 1 = (i : Int) := by omega
  have y2 : (b : Int) - 1 = (j : Int) := by omega
  have hi : a + 1 ≤ i := by omega
  have hj : j < b := by omega
  have haj : a ≤ j := by omega
  obtain ⟨G, hG, hcw, hfw⟩ := hH.fam
  rw [hsz] at hcw hfw
  have HW0 : Hid (Rw w blk off dk ((w.setCell ⟨blk, off + a, none⟩ (.int .u64 (G pivot))).setCell ⟨blk, off + pivot, none⟩ (.int .u64 (G a)))) := (by rw [hG, hG, ← hdk]; exact hH.swap a pivot : Rw w blk off dk ((w.setCell ⟨blk, off + a, none⟩ (.int .u64 (G pivot))).setCell ⟨blk, off + pivot, none⟩ (.int .u64 (G a))))
  have hsk : dk.size = len := by rw [← hdk, size_swp]; exact hsz
  have hcase : a = pivot ∨ a < pivot := by omega
  clear hG hH hdk
  rcases hcase with rfl | hlt
  · go_enter Tryd.func94, Tryd.ntmps94
    go_wp2
    go_region
    all_goals go_wp2_with fail
    clear hcw hfw
    have HR : Hid (Rw w blk off dk ((w.setCell ⟨blk, off + a, none⟩ (.int .u64 (G a))).setCell ⟨blk, off + a, none⟩ (.int .u64 (G a))).drew) := HW0.out.drew
    generalize ((w.setCell ⟨blk, off + a, none⟩ (.int .u64 (G a))).setCell ⟨blk, off + a, none⟩ (.int .u64 (G a))).drew = wr at *
    go_loopw [10] (fun vi wr2 => ∃ i2 : Nat, vi = .int .i64 i2 ∧ i ≤ i2 ∧ i2 ≤ b + 1 ∧ Rw w blk off dk wr2 ∧ scanUp (fun x => ltInt x dk[a]!) dk j i2 = scanUp (fun x => ltInt x dk[a]!) dk j i) (fun vi _ => b + 2 - (intOf vi).toNat)
    case atStart => exact ⟨i, rfl, Nat.le_refl _, by omega, HR.out, rfl⟩
    case round =>
      obtain ⟨i2, rfl, hi2, hi3, hR2, hU⟩ := hrel
      obtain ⟨G, hG, hcw, hfw⟩ := hR2.fam
      rw [hsk] at hcw hfw
      have HR2 : Hid (Rw w blk off dk wr) := hR2
      have HG : Hid (∀ t, G t = dk[t]!) := hG
      have HU : Hid (scanUp (fun x => ltInt x dk[a]!) dk j i2 = scanUp (fun x => ltInt x dk[a]!) dk j i) := hU
      clear hR2 hG hU
      by_cases hij : i2 ≤ j
      · cases hl : ltInt (G i2) (G a)
        · have HV : Hid (ltInt dk[i2]! dk[a]! = false) := (by rw [← HG.out, ← HG.out]; exact hl : ltInt dk[i2]! dk[a]! = false)
          have HX : Hid (scanUp (fun x => ltInt x dk[a]!) dk j i = i2) := (by rw [← HU.out]; exact up_stop (.inr (by have t := hl; rw [HG.out, HG.out] at t; show (ltInt dk[i2]! dk[a]!) = _; rw [t] <;> rfl)) : scanUp (fun x => ltInt x dk[a]!) dk j i = i2)
          go_wp2
          go_quiet (first | (go_at_call 92; refine Calls.quiet_of_same (less67 _ _ _)))
          have HRq1 : Hid (Rw w blk off dk (wr.drewN nq)) := HR2.out.drewN _; have hcq1 : ∀ t, t < len → (wr.drewN nq).cell? ⟨blk, off + t, none⟩ = some (.int .u64 (G t)) := hcw; have hfq1 : ∀ t, t < len → (wr.drewN nq).frozen? ⟨blk, off + t, none⟩ = false := hfw; clear hcw hfw; generalize wr.drewN nq = wq1 at *
          go_wp2_with fail
          go_loopw [11] (fun vj wr3 => ∃ j2 : Nat, vj = .int .i64 j2 ∧ j2 ≤ j ∧ a ≤ j2 ∧ Rw w blk off dk wr3 ∧ scanDown (fun x => !ltInt x dk[a]!) dk i2 j2 = scanDown (fun x => !ltInt x dk[a]!) dk i2 j) (fun vj _ => (intOf vj).toNat)
          case atStart => exact ⟨j, rfl, Nat.le_refl _, by omega, HRq1.out, rfl⟩
          case round =>
            obtain ⟨j2, rfl, hj2, haj2, hR3, hD⟩ := hrel
            clear hcq1 hfq1
            obtain ⟨G, hG, hcw, hfw⟩ := hR3.fam
            rw [hsk] at hcw hfw
            have HR3 : Hid (Rw w blk off dk wr) := hR3
            have HG : Hid (∀ t, G t = dk[t]!) := hG
            have HD : Hid (scanDown (fun x => !ltInt x dk[a]!) dk i2 j2 = scanDown (fun x => !ltInt x dk[a]!) dk i2 j) := hD
            clear hR3 hG hD
            by_cases hij2 : i2 ≤ j2
            · cases hl2 : ltInt (G j2) (G a)
              · go_wp2
                go_quiet (first | (go_at_call 92; refine Calls.quiet_of_same (less67 _ _ _)))
                go_wp2
                go_roundw
                case rel => exact ⟨j2 - 1, by congr 1; omega, by omega, by omega, HR3.out.drewN _, by rw [← down_go hij2 (by omega) (by have t := hl2; rw [HG.out, HG.out] at t; show (!ltInt dk[j2]! dk[a]!) = _; rw [t] <;> rfl), HD.out]⟩
                case measure => simp [intOf]; omega
              · have HY : Hid (scanDown (fun x => !ltInt x dk[a]!) dk i2 j = j2) := (by rw [← HD.out]; exact down_stop (.inr (by have t := hl2; rw [HG.out, HG.out] at t; show (!ltInt dk[j2]! dk[a]!) = _; rw [t] <;> rfl)) : scanDown (fun x => !ltInt x dk[a]!) dk i2 j = j2)
                have hne : i2 < j2 := by
                  rcases Nat.lt_or_ge i2 j2 with h | h
                  · exact h
                  · obtain rfl : i2 = j2 := by omega
                    have t := HV.out
                    rw [← HG.out, ← HG.out, hl2] at t
                    cases t
                obtain ⟨T, hT⟩ : ∃ T, partLoop ltInt a (i2 + 1) (j2 - 1) (swp dk i2 j2) = T := ⟨_, rfl⟩
                have HN1 : Hid (partLoop ltInt a (i2 + 1) (j2 - 1) (swp dk i2 j2) = T) := hT
                have HT : Hid ((T.1, false, swp T.2 T.1 a) = R) := (by have t := HO.out; rw [HX.out, HY.out, if_neg (by omega), hT] at t; exact t : (T.1, false, swp T.2 T.1 a) = R)
                clear hT
                go_wp2
                go_quiet (first | (go_at_call 92; refine Calls.quiet_of_same (less67 _ _ _)))
                have HRq2 : Hid (Rw w blk off dk (wr.drewN nq)) := HR3.out.drewN _; have hcq2 : ∀ t, t < len → (wr.drewN nq).cell? ⟨blk, off + t, none⟩ = some (.int .u64 (G t)) := hcw; have hfq2 : ∀ t, t < len → (wr.drewN nq).frozen? ⟨blk, off + t, none⟩ = false := hfw; clear hcw hfw; generalize wr.drewN nq = wq2 at *
                have HW : Hid (Rw w blk off (swp dk i2 j2) ((wq2.setCell ⟨blk, off + i2, none⟩ (.int .u64 (G j2))).setCell ⟨blk, off + j2, none⟩ (.int .u64 (G i2)))) := (by rw [HG.out, HG.out]; exact HRq2.out.swap i2 j2 : Rw w blk off (swp dk i2 j2) ((wq2.setCell ⟨blk, off + i2, none⟩ (.int .u64 (G j2))).setCell ⟨blk, off + j2, none⟩ (.int .u64 (G i2))))
                go_wp2
                go_region
                all_goals go_wp2_with fail
                clear hcq2 hfq2
                go_loopw [10, 11] (fun vi vj wr => ∃ (i j : Nat) (dk : Array Int), vi = .int .i64 i ∧ vj = .int .i64 j ∧ a + 1 ≤ i ∧ a ≤ j ∧ j < b ∧ i ≤ j + 2 ∧ dk.size = len ∧ Rw w blk off dk wr ∧ partLoop ltInt a i j dk = T) (fun vi vj _ => (intOf vj - intOf vi + 3).toNat)
                case atStart => exact ⟨i2 + 1, j2 - 1, _, by go_num, by congr 1; omega, by omega, by omega, by omega, by omega, by rw [size_swp]; exact hsk, HW.out.drew, HN1.out⟩
                case round =>
                  obtain ⟨i, j, dk, rfl, rfl, hi, haj, hj, hij0, hsk, hR, hO⟩ := hrel
                  have HR : Hid (Rw w blk off dk wr) := hR
                  have HO : Hid (partLoop ltInt a i j dk = T) := hO
                  clear hR hO
                  go_wp2
                  go_loopw [10] (fun vi wr2 => ∃ i2 : Nat, vi = .int .i64 i2 ∧ i ≤ i2 ∧ i2 ≤ b + 1 ∧ Rw w blk off dk wr2 ∧ scanUp (fun x => ltInt x dk[a]!) dk j i2 = scanUp (fun x => ltInt x dk[a]!) dk j i) (fun vi _ => b + 2 - (intOf vi).toNat)
                  case atStart => exact ⟨i, rfl, Nat.le_refl _, by omega, HR.out, rfl⟩
                  case round =>
                    obtain ⟨i2, rfl, hi2, hi3, hR2, hU⟩ := hrel
                    obtain ⟨G, hG, hcw, hfw⟩ := hR2.fam
                    rw [hsk] at hcw hfw
                    have HR2 : Hid (Rw w blk off dk wr) := hR2
                    have HG : Hid (∀ t, G t = dk[t]!) := hG
                    have HU : Hid (scanUp (fun x => ltInt x dk[a]!) dk j i2 = scanUp (fun x => ltInt x dk[a]!) dk j i) := hU
                    clear hR2 hG hU
                    by_cases hij : i2 ≤ j
                    · cases hl : ltInt (G i2) (G a)
                      · have HV : Hid (ltInt dk[i2]! dk[a]! = false) := (by rw [← HG.out, ← HG.out]; exact hl : ltInt dk[i2]! dk[a]! = false)
                        have HX : Hid (scanUp (fun x => ltInt x dk[a]!) dk j i = i2) := (by rw [← HU.out]; exact up_stop (.inr (by have t := hl; rw [HG.out, HG.out] at t; show (ltInt dk[i2]! dk[a]!) = _; rw [t] <;> rfl)) : scanUp (fun x => ltInt x dk[a]!) dk j i = i2)
                        go_wp2
                        go_quiet (first | (go_at_call 92; refine Calls.quiet_of_same (less67 _ _ _)))
                        have HRq1 : Hid (Rw w blk off dk (wr.drewN nq)) := HR2.out.drewN _; have hcq1 : ∀ t, t < len → (wr.drewN nq).cell? ⟨blk, off + t, none⟩ = some (.int .u64 (G t)) := hcw; have hfq1 : ∀ t, t < len → (wr.drewN nq).frozen? ⟨blk, off + t, none⟩ = false := hfw; clear hcw hfw; generalize wr.drewN nq = wq1 at *
                        go_wp2_with fail
                        go_loopw [11] (fun vj wr3 => ∃ j2 : Nat, vj = .int .i64 j2 ∧ j2 ≤ j ∧ a ≤ j2 ∧ Rw w blk off dk wr3 ∧ scanDown (fun x => !ltInt x dk[a]!) dk i2 j2 = scanDown (fun x => !ltInt x dk[a]!) dk i2 j) (fun vj _ => (intOf vj).toNat)
                        case atStart => exact ⟨j, rfl, Nat.le_refl _, by omega, HRq1.out, rfl⟩
                        case round =>
                          obtain ⟨j2, rfl, hj2, haj2, hR3, hD⟩ := hrel
                          clear hcq1 hfq1
                          obtain ⟨G, hG, hcw, hfw⟩ := hR3.fam
                          rw [hsk] at hcw hfw
                          have HR3 : Hid (Rw w blk off dk wr) := hR3
                          have HG : Hid (∀ t, G t = dk[t]!) := hG
                          have HD : Hid (scanDown (fun x => !ltInt x dk[a]!) dk i2 j2 = scanDown (fun x => !ltInt x dk[a]!) dk i2 j) := hD
                          clear hR3 hG hD
                          by_cases hij2 : i2 ≤ j2
                          · cases hl2 : ltInt (G j2) (G a)
                            · go_wp2
                              go_quiet (first | (go_at_call 92; refine Calls.quiet_of_same (less67 _ _ _)))
                              go_wp2
                              go_roundw
                              case rel => exact ⟨j2 - 1, by congr 1; omega, by omega, by omega, HR3.out.drewN _, by rw [← down_go hij2 (by omega) (by have t := hl2; rw [HG.out, HG.out] at t; show (!ltInt dk[j2]! dk[a]!) = _; rw [t] <;> rfl), HD.out]⟩
                              case measure => simp [intOf]; omega
                            · have HY : Hid (scanDown (fun x => !ltInt x dk[a]!) dk i2 j = j2) := (by rw [← HD.out]; exact down_stop (.inr (by have t := hl2; rw [HG.out, HG.out] at t; show (!ltInt dk[j2]! dk[a]!) = _; rw [t] <;> rfl)) : scanDown (fun x => !ltInt x dk[a]!) dk i2 j = j2)
                              have hne : i2 < j2 := by
                                rcases Nat.lt_or_ge i2 j2 with h | h
                                · exact h
                                · obtain rfl : i2 = j2 := by omega
                                  have t := HV.out
                                  rw [← HG.out, ← HG.out, hl2] at t
                                  cases t
                              have HN : Hid (partLoop ltInt a (i2 + 1) (j2 - 1) (swp dk i2 j2) = T) := (by have t := HO.out; rw [partLoop_eq, HX.out, HY.out, if_neg (by omega)] at t; exact t : partLoop ltInt a (i2 + 1) (j2 - 1) (swp dk i2 j2) = T)
                              go_wp2
                              go_quiet (first | (go_at_call 92; refine Calls.quiet_of_same (less67 _ _ _)))
                              have HRq2 : Hid (Rw w blk off dk (wr.drewN nq)) := HR3.out.drewN _; have hcq2 : ∀ t, t < len → (wr.drewN nq).cell? ⟨blk, off + t, none⟩ = some (.int .u64 (G t)) := hcw; have hfq2 : ∀ t, t < len → (wr.drewN nq).frozen? ⟨blk, off + t, none⟩ = false := hfw; clear hcw hfw; generalize wr.drewN nq = wq2 at *
                              have HW : Hid (Rw w blk off (swp dk i2 j2) ((wq2.setCell ⟨blk, off + i2, none⟩ (.int .u64 (G j2))).setCell ⟨blk, off + j2, none⟩ (.int .u64 (G i2)))) := (by rw [HG.out, HG.out]; exact HRq2.out.swap i2 j2 : Rw w blk off (swp dk i2 j2) ((wq2.setCell ⟨blk, off + i2, none⟩ (.int .u64 (G j2))).setCell ⟨blk, off + j2, none⟩ (.int .u64 (G i2))))
                              go_wp2
                              go_region
                              all_goals go_wp2
                              go_roundw
                              case rel => exact ⟨i2 + 1, j2 - 1, swp dk i2 j2, by go_num, by congr 1; omega, by omega, by omega, by omega, by omega, by rw [size_swp]; exact hsk, HW.out.drew, HN.out⟩
                              case measure => simp [intOf]; omega
                          · have hd2 : decide ((i2 : Int) ≤ (j2 : Int)) = false := decide_eq_false (by omega)
                            have HY : Hid (scanDown (fun x => !ltInt x dk[a]!) dk i2 j = j2) := (by rw [← HD.out]; exact down_stop (.inl hij2) : scanDown (fun x => !ltInt x dk[a]!) dk i2 j = j2)
                            have HN : Hid ((j2, false, swp dk j2 a) = R) := (by have t := HO.out; rw [partLoop_eq, HX.out, HY.out, if_pos (by omega)] at t; rw [← HT.out, ← t] : (j2, false, swp dk j2 a) = R)
                            go_wp2
                            go_quiet (first | (go_at_call 92; refine Calls.quiet_of_same (less67 _ _ _)))
                            have HRq2 : Hid (Rw w blk off dk (wr.drewN nq)) := HR3.out.drewN _; have hcq2 : ∀ t, t < len → (wr.drewN nq).cell? ⟨blk, off + t, none⟩ = some (.int .u64 (G t)) := hcw; have hfq2 : ∀ t, t < len → (wr.drewN nq).frozen? ⟨blk, off + t, none⟩ = false := hfw; clear hcw hfw; generalize wr.drewN nq = wq2 at *
                            have HW : Hid (Rw w blk off (swp dk j2 a) ((wq2.setCell ⟨blk, off + j2, none⟩ (.int .u64 (G a))).setCell ⟨blk, off + a, none⟩ (.int .u64 (G j2)))) := (by rw [HG.out, HG.out]; exact HRq2.out.swap j2 a : Rw w blk off (swp dk j2 a) ((wq2.setCell ⟨blk, off + j2, none⟩ (.int .u64 (G a))).setCell ⟨blk, off + a, none⟩ (.int .u64 (G j2))))
                            rcases Nat.lt_or_ge a j2 with hlt2 | hge2
                            · go_wp2
                              go_region
                              all_goals go_wp2
                              go_ret2
                              obtain rfl := HN.out
                              exact ⟨rfl, HW.out.drew⟩
                            · obtain rfl : j2 = a := by omega
                              go_wp2
                              go_region
                              all_goals go_wp2
                              go_ret2
                              obtain rfl := HN.out
                              exact ⟨rfl, HW.out.drew⟩
                      · go_wp2
                        go_quiet (first | (go_at_call 92; refine Calls.quiet_of_same (less67 _ _ _)))
                        go_wp2
                        go_roundw
                        case rel => exact ⟨i2 + 1, by go_num, by omega, by omega, HR2.out.drewN _, by rw [← up_go hij (by have t := hl; rw [HG.out, HG.out] at t; show (ltInt dk[i2]! dk[a]!) = _; rw [t] <;> rfl), HU.out]⟩
                        case measure => simp [intOf]; omega
                    · have hd : decide ((i2 : Int) ≤ (j : Int)) = false := decide_eq_false (by omega)
                      have HX : Hid (scanUp (fun x => ltInt x dk[a]!) dk j i = i2) := (by rw [← HU.out]; exact up_stop (.inl hij) : scanUp (fun x => ltInt x dk[a]!) dk j i = i2)
                      go_wp2
                      go_quiet (first | (go_at_call 92; refine Calls.quiet_of_same (less67 _ _ _)))
                      have HRq1 : Hid (Rw w blk off dk (wr.drewN nq)) := HR2.out.drewN _; have hcq1 : ∀ t, t < len → (wr.drewN nq).cell? ⟨blk, off + t, none⟩ = some (.int .u64 (G t)) := hcw; have hfq1 : ∀ t, t < len → (wr.drewN nq).frozen? ⟨blk, off + t, none⟩ = false := hfw; clear hcw hfw; generalize wr.drewN nq = wq1 at *
                      go_wp2_with fail
                      go_loopw [11] (fun vj wr3 => ∃ j2 : Nat, vj = .int .i64 j2 ∧ j2 ≤ j ∧ a ≤ j2 ∧ Rw w blk off dk wr3 ∧ scanDown (fun x => !ltInt x dk[a]!) dk i2 j2 = scanDown (fun x => !ltInt x dk[a]!) dk i2 j) (fun vj _ => (intOf vj).toNat)
                      case atStart => exact ⟨j, rfl, Nat.le_refl _, by omega, HRq1.out, rfl⟩
                      case round =>
                        obtain ⟨j2, rfl, hj2, haj2, hR3, hD⟩ := hrel
                        clear hcq1 hfq1
                        obtain ⟨G, hG, hcw, hfw⟩ := hR3.fam
                        rw [hsk] at hcw hfw
                        have HR3 : Hid (Rw w blk off dk wr) := hR3
                        have HG : Hid (∀ t, G t = dk[t]!) := hG
                        have HD : Hid (scanDown (fun x => !ltInt x dk[a]!) dk i2 j2 = scanDown (fun x => !ltInt x dk[a]!) dk i2 j) := hD
                        clear hR3 hG hD
                        by_cases hij2 : i2 ≤ j2
                        · cases hl2 : ltInt (G j2) (G a)
                          · go_wp2
                            go_quiet (first | (go_at_call 92; refine Calls.quiet_of_same (less67 _ _ _)))
                            go_wp2
                            go_roundw
                            case rel => exact ⟨j2 - 1, by congr 1; omega, by omega, by omega, HR3.out.drewN _, by rw [← down_go hij2 (by omega) (by have t := hl2; rw [HG.out, HG.out] at t; show (!ltInt dk[j2]! dk[a]!) = _; rw [t] <;> rfl), HD.out]⟩
                            case measure => simp [intOf]; omega
                          · have HY : Hid (scanDown (fun x => !ltInt x dk[a]!) dk i2 j = j2) := (by rw [← HD.out]; exact down_stop (.inr (by have t := hl2; rw [HG.out, HG.out] at t; show (!ltInt dk[j2]! dk[a]!) = _; rw [t] <;> rfl)) : scanDown (fun x => !ltInt x dk[a]!) dk i2 j = j2)
                            exact absurd hij2 (by omega)
                        · have hd2 : decide ((i2 : Int) ≤ (j2 : Int)) = false := decide_eq_false (by omega)
                          have HY : Hid (scanDown (fun x => !ltInt x dk[a]!) dk i2 j = j2) := (by rw [← HD.out]; exact down_stop (.inl hij2) : scanDown (fun x => !ltInt x dk[a]!) dk i2 j = j2)
                          have HN : Hid ((j2, false, swp dk j2 a) = R) := (by have t := HO.out; rw [partLoop_eq, HX.out, HY.out, if_pos (by omega)] at t; rw [← HT.out, ← t] : (j2, false, swp dk j2 a) = R)
                          go_wp2
                          go_quiet (first | (go_at_call 92; refine Calls.quiet_of_same (less67 _ _ _)))
                          have HRq2 : Hid (Rw w blk off dk (wr.drewN nq)) := HR3.out.drewN _; have hcq2 : ∀ t, t < len → (wr.drewN nq).cell? ⟨blk, off + t, none⟩ = some (.int .u64 (G t)) := hcw; have hfq2 : ∀ t, t < len → (wr.drewN nq).frozen? ⟨blk, off + t, none⟩ = false := hfw; clear hcw hfw; generalize wr.drewN nq = wq2 at *
                          have HW : Hid (Rw w blk off (swp dk j2 a) ((wq2.setCell ⟨blk, off + j2, none⟩ (.int .u64 (G a))).setCell ⟨blk, off + a, none⟩ (.int .u64 (G j2)))) := (by rw [HG.out, HG.out]; exact HRq2.out.swap j2 a : Rw w blk off (swp dk j2 a) ((wq2.setCell ⟨blk, off + j2, none⟩ (.int .u64 (G a))).setCell ⟨blk, off + a, none⟩ (.int .u64 (G j2))))
                          rcases Nat.lt_or_ge a j2 with hlt2 | hge2
                          · go_wp2
                            go_region
                            all_goals go_wp2
                            go_ret2
                            obtain rfl := HN.out
                            exact ⟨rfl, HW.out.drew⟩
                          · obtain rfl : j2 = a := by omega
                            go_wp2
                            go_region
                            all_goals go_wp2
                            go_ret2
                            obtain rfl := HN.out
                            exact ⟨rfl, HW.out.drew⟩
            · have hd2 : decide ((i2 : Int) ≤ (j2 : Int)) = false := decide_eq_false (by omega)
              have HY : Hid (scanDown (fun x => !ltInt x dk[a]!) dk i2 j = j2) := (by rw [← HD.out]; exact down_stop (.inl hij2) : scanDown (fun x => !ltInt x dk[a]!) dk i2 j = j2)
              have HN : Hid ((j2, true, swp dk j2 a) = R) := (by have t := HO.out; rw [HX.out, HY.out, if_pos (by omega)] at t; exact t : (j2, true, swp dk j2 a) = R)
              go_wp2
              go_quiet (first | (go_at_call 92; refine Calls.quiet_of_same (less67 _ _ _)))
              have HRq2 : Hid (Rw w blk off dk (wr.drewN nq)) := HR3.out.drewN _; have hcq2 : ∀ t, t < len → (wr.drewN nq).cell? ⟨blk, off + t, none⟩ = some (.int .u64 (G t)) := hcw; have hfq2 : ∀ t, t < len → (wr.drewN nq).frozen? ⟨blk, off + t, none⟩ = false := hfw; clear hcw hfw; generalize wr.drewN nq = wq2 at *
              have HW : Hid (Rw w blk off (swp dk j2 a) ((wq2.setCell ⟨blk, off + j2, none⟩ (.int .u64 (G a))).setCell ⟨blk, off + a, none⟩ (.int .u64 (G j2)))) := (by rw [HG.out, HG.out]; exact HRq2.out.swap j2 a : Rw w blk off (swp dk j2 a) ((wq2.setCell ⟨blk, off + j2, none⟩ (.int .u64 (G a))).setCell ⟨blk, off + a, none⟩ (.int .u64 (G j2))))
              rcases Nat.lt_or_ge a j2 with hlt2 | hge2
              · go_wp2
                go_region
                all_goals go_wp2
                go_ret2
                obtain rfl := HN.out
                exact ⟨rfl, HW.out.drew⟩
              · obtain rfl : j2 = a := by omega
                go_wp2
                go_region
                all_goals go_wp2
                go_ret2
                obtain rfl := HN.out
                exact ⟨rfl, HW.out.drew⟩
        · go_wp2
          go_quiet (first | (go_at_call 92; refine Calls.quiet_of_same (less67 _ _ _)))
          go_wp2
          go_roundw
          case rel => exact ⟨i2 + 1, by go_num, by omega, by omega, HR2.out.drewN _, by rw [← up_go hij (by have t := hl; rw [HG.out, HG.out] at t; show (ltInt dk[i2]! dk[a]!) = _; rw [t] <;> rfl), HU.out]⟩
          case measure => simp [intOf]; omega
      · have hd : decide ((i2 : Int) ≤ (j : Int)) = false := decide_eq_false (by omega)
        have HX : Hid (scanUp (fun x => ltInt x dk[a]!) dk j i = i2) := (by rw [← HU.out]; exact up_stop (.inl hij) : scanUp (fun x => ltInt x dk[a]!) dk j i = i2)
        go_wp2
        go_quiet (first | (go_at_call 92; refine Calls.quiet_of_same (less67 _ _ _)))
        have HRq1 : Hid (Rw w blk off dk (wr.drewN nq)) := HR2.out.drewN _; have hcq1 : ∀ t, t < len → (wr.drewN nq).cell? ⟨blk, off + t, none⟩ = some (.int .u64 (G t)) := hcw; have hfq1 : ∀ t, t < len → (wr.drewN nq).frozen? ⟨blk, off + t, none⟩ = false := hfw; clear hcw hfw; generalize wr.drewN nq = wq1 at *
        go_wp2_with fail
        go_loopw [11] (fun vj wr3 => ∃ j2 : Nat, vj = .int .i64 j2 ∧ j2 ≤ j ∧ a ≤ j2 ∧ Rw w blk off dk wr3 ∧ scanDown (fun x => !ltInt x dk[a]!) dk i2 j2 = scanDown (fun x => !ltInt x dk[a]!) dk i2 j) (fun vj _ => (intOf vj).toNat)
        case atStart => exact ⟨j, rfl, Nat.le_refl _, by omega, HRq1.out, rfl⟩
        case round =>
          obtain ⟨j2, rfl, hj2, haj2, hR3, hD⟩ := hrel
          clear hcq1 hfq1
          obtain ⟨G, hG, hcw, hfw⟩ := hR3.fam
          rw [hsk] at hcw hfw
          have HR3 : Hid (Rw w blk off dk wr) := hR3
          have HG : Hid (∀ t, G t = dk[t]!) := hG
          have HD : Hid (scanDown (fun x => !ltInt x dk[a]!) dk i2 j2 = scanDown (fun x => !ltInt x dk[a]!) dk i2 j) := hD
          clear hR3 hG hD
          by_cases hij2 : i2 ≤ j2
          · cases hl2 : ltInt (G j2) (G a)
            · go_wp2
              go_quiet (first | (go_at_call 92; refine Calls.quiet_of_same (less67 _ _ _)))
              go_wp2
              go_roundw
              case rel => exact ⟨j2 - 1, by congr 1; omega, by omega, by omega, HR3.out.drewN _, by rw [← down_go hij2 (by omega) (by have t := hl2; rw [HG.out, HG.out] at t; show (!ltInt dk[j2]! dk[a]!) = _; rw [t] <;> rfl), HD.out]⟩
              case measure => simp [intOf]; omega
            · have HY : Hid (scanDown (fun x => !ltInt x dk[a]!) dk i2 j = j2) := (by rw [← HD.out]; exact down_stop (.inr (by have t := hl2; rw [HG.out, HG.out] at t; show (!ltInt dk[j2]! dk[a]!) = _; rw [t] <;> rfl)) : scanDown (fun x => !ltInt x dk[a]!) dk i2 j = j2)
              exact absurd hij2 (by omega)
          · have hd2 : decide ((i2 : Int) ≤ (j2 : Int)) = false := decide_eq_false (by omega)
            have HY : Hid (scanDown (fun x => !ltInt x dk[a]!) dk i2 j = j2) := (by rw [← HD.out]; exact down_stop (.inl hij2) : scanDown (fun x => !ltInt x dk[a]!) dk i2 j = j2)
            have HN : Hid ((j2, true, swp dk j2 a) = R) := (by have t := HO.out; rw [HX.out, HY.out, if_pos (by omega)] at t; exact t : (j2, true, swp dk j2 a) = R)
            go_wp2
            go_quiet (first | (go_at_call 92; refine Calls.quiet_of_same (less67 _ _ _)))
            have HRq2 : Hid (Rw w blk off dk (wr.drewN nq)) := HR3.out.drewN _; have hcq2 : ∀ t, t < len → (wr.drewN nq).cell? ⟨blk, off + t, none⟩ = some (.int .u64 (G t)) := hcw; have hfq2 : ∀ t, t < len → (wr.drewN nq).frozen? ⟨blk, off + t, none⟩ = false := hfw; clear hcw hfw; generalize wr.drewN nq = wq2 at *
            have HW : Hid (Rw w blk off (swp dk j2 a) ((wq2.setCell ⟨blk, off + j2, none⟩ (.int .u64 (G a))).setCell ⟨blk, off + a, none⟩ (.int .u64 (G j2)))) := (by rw [HG.out, HG.out]; exact HRq2.out.swap j2 a : Rw w blk off (swp dk j2 a) ((wq2.setCell ⟨blk, off + j2, none⟩ (.int .u64 (G a))).setCell ⟨blk, off + a, none⟩ (.int .u64 (G j2))))
            rcases Nat.lt_or_ge a j2 with hlt2 | hge2
            · go_wp2
              go_region
              all_goals go_wp2
              go_ret2
              obtain rfl := HN.out
              exact ⟨rfl, HW.out.drew⟩
            · obtain rfl : j2 = a := by omega
              go_wp2
              go_region
              all_goals go_wp2
              go_ret2
              obtain rfl := HN.out
              exact ⟨rfl, HW.out.drew⟩
  · go_enter Tryd.func94, Tryd.ntmps94
    go_wp2
    go_region
    all_goals go_wp2_with fail
    clear hcw hfw
    have HR : Hid (Rw w blk off dk ((w.setCell ⟨blk, off + a, none⟩ (.int .u64 (G pivot))).setCell ⟨blk, off + pivot, none⟩ (.int .u64 (G a))).drew) := HW0.out.drew
    generalize ((w.setCell ⟨blk, off + a, none⟩ (.int .u64 (G pivot))).setCell ⟨blk, off + pivot, none⟩ (.int .u64 (G a))).drew = wr at *
    go_loopw [10] (fun vi wr2 => ∃ i2 : Nat, vi = .int .i64 i2 ∧ i ≤ i2 ∧ i2 ≤ b + 1 ∧ Rw w blk off dk wr2 ∧ scanUp (fun x => ltInt x dk[a]!) dk j i2 = scanUp (fun x => ltInt x dk[a]!) dk j i) (fun vi _ => b + 2 - (intOf vi).toNat)
    case atStart => exact ⟨i, rfl, Nat.le_refl _, by omega, HR.out, rfl⟩
    case round =>
      obtain ⟨i2, rfl, hi2, hi3, hR2, hU⟩ := hrel
      obtain ⟨G, hG, hcw, hfw⟩ := hR2.fam
      rw [hsk] at hcw hfw
      have HR2 : Hid (Rw w blk off dk wr) := hR2
      have HG : Hid (∀ t, G t = dk[t]!) := hG
      have HU : Hid (scanUp (fun x => ltInt x dk[a]!) dk j i2 = scanUp (fun x => ltInt x dk[a]!) dk j i) := hU
      clear hR2 hG hU
      by_cases hij : i2 ≤ j
      · cases hl : ltInt (G i2) (G a)
        · have HV : Hid (ltInt dk[i2]! dk[a]! = false) := (by rw [← HG.out, ← HG.out]; exact hl : ltInt dk[i2]! dk[a]! = false)
          have HX : Hid (scanUp (fun x => ltInt x dk[a]!) dk j i = i2) := (by rw [← HU.out]; exact up_stop (.inr (by have t := hl; rw [HG.out, HG.out] at t; show (ltInt dk[i2]! dk[a]!) = _; rw [t] <;> rfl)) : scanUp (fun x => ltInt x dk[a]!) dk j i = i2)
          go_wp2
          go_quiet (first | (go_at_call 92; refine Calls.quiet_of_same (less67 _ _ _)))
          have HRq1 : Hid (Rw w blk off dk (wr.drewN nq)) := HR2.out.drewN _; have hcq1 : ∀ t, t < len → (wr.drewN nq).cell? ⟨blk, off + t, none⟩ = some (.int .u64 (G t)) := hcw; have hfq1 : ∀ t, t < len → (wr.drewN nq).frozen? ⟨blk, off + t, none⟩ = false := hfw; clear hcw hfw; generalize wr.drewN nq = wq1 at *
          go_wp2_with fail
          go_loopw [11] (fun vj wr3 => ∃ j2 : Nat, vj = .int .i64 j2 ∧ j2 ≤ j ∧ a ≤ j2 ∧ Rw w blk off dk wr3 ∧ scanDown (fun x => !ltInt x dk[a]!) dk i2 j2 = scanDown (fun x => !ltInt x dk[a]!) dk i2 j) (fun vj _ => (intOf vj).toNat)
          case atStart => exact ⟨j, rfl, Nat.le_refl _, by omega, HRq1.out, rfl⟩
          case round =>
            obtain ⟨j2, rfl, hj2, haj2, hR3, hD⟩ := hrel
            clear hcq1 hfq1
            obtain ⟨G, hG, hcw, hfw⟩ := hR3.fam
            rw [hsk] at hcw hfw
            have HR3 : Hid (Rw w blk off dk wr) := hR3
            have HG : Hid (∀ t, G t = dk[t]!) := hG
            have HD : Hid (scanDown (fun x => !ltInt x dk[a]!) dk i2 j2 = scanDown (fun x => !ltInt x dk[a]!) dk i2 j) := hD
            clear hR3 hG hD
            by_cases hij2 : i2 ≤ j2
            · cases hl2 : ltInt (G j2) (G a)
              · go_wp2
                go_quiet (first | (go_at_call 92; refine Calls.quiet_of_same (less67 _ _ _)))
                go_wp2
                go_roundw
                case rel => exact ⟨j2 - 1, by congr 1; omega, by omega, by omega, HR3.out.drewN _, by rw [← down_go hij2 (by omega) (by have t := hl2; rw [HG.out, HG.out] at t; show (!ltInt dk[j2]! dk[a]!) = _; rw [t] <;> rfl), HD.out]⟩
                case measure => simp [intOf]; omega
              · have HY : Hid (scanDown (fun x => !ltInt x dk[a]!) dk i2 j = j2) := (by rw [← HD.out]; exact down_stop (.inr (by have t := hl2; rw [HG.out, HG.out] at t; show (!ltInt dk[j2]! dk[a]!) = _; rw [t] <;> rfl)) : scanDown (fun x => !ltInt x dk[a]!) dk i2 j = j2)
                have hne : i2 < j2 := by
                  rcases Nat.lt_or_ge i2 j2 with h | h
                  · exact h
                  · obtain rfl : i2 = j2 := by omega
                    have t := HV.out
                    rw [← HG.out, ← HG.out, hl2] at t
                    cases t
                obtain ⟨T, hT⟩ : ∃ T, partLoop ltInt a (i2 + 1) (j2 - 1) (swp dk i2 j2) = T := ⟨_, rfl⟩
                have HN1 : Hid (partLoop ltInt a (i2 + 1) (j2 - 1) (swp dk i2 j2) = T) := hT
                have HT : Hid ((T.1, false, swp T.2 T.1 a) = R) := (by have t := HO.out; rw [HX.out, HY.out, if_neg (by omega), hT] at t; exact t : (T.1, false, swp T.2 T.1 a) = R)
                clear hT
                go_wp2
                go_quiet (first | (go_at_call 92; refine Calls.quiet_of_same (less67 _ _ _)))
                have HRq2 : Hid (Rw w blk off dk (wr.drewN nq)) := HR3.out.drewN _; have hcq2 : ∀ t, t < len → (wr.drewN nq).cell? ⟨blk, off + t, none⟩ = some (.int .u64 (G t)) := hcw; have hfq2 : ∀ t, t < len → (wr.drewN nq).frozen? ⟨blk, off + t, none⟩ = false := hfw; clear hcw hfw; generalize wr.drewN nq = wq2 at *
                have HW : Hid (Rw w blk off (swp dk i2 j2) ((wq2.setCell ⟨blk, off + i2, none⟩ (.int .u64 (G j2))).setCell ⟨blk, off + j2, none⟩ (.int .u64 (G i2)))) := (by rw [HG.out, HG.out]; exact HRq2.out.swap i2 j2 : Rw w blk off (swp dk i2 j2) ((wq2.setCell ⟨blk, off + i2, none⟩ (.int .u64 (G j2))).setCell ⟨blk, off + j2, none⟩ (.int .u64 (G i2))))
                go_wp2
                go_region
                all_goals go_wp2_with fail
                clear hcq2 hfq2
                go_loopw [10, 11] (fun vi vj wr => ∃ (i j : Nat) (dk : Array Int), vi = .int .i64 i ∧ vj = .int .i64 j ∧ a + 1 ≤ i ∧ a ≤ j ∧ j < b ∧ i ≤ j + 2 ∧ dk.size = len ∧ Rw w blk off dk wr ∧ partLoop ltInt a i j dk = T) (fun vi vj _ => (intOf vj - intOf vi + 3).toNat)
                case atStart => exact ⟨i2 + 1, j2 - 1, _, by go_num, by congr 1; omega, by omega, by omega, by omega, by omega, by rw [size_swp]; exact hsk, HW.out.drew, HN1.out⟩
                case round =>
                  obtain ⟨i, j, dk, rfl, rfl, hi, haj, hj, hij0, hsk, hR, hO⟩ := hrel
                  have HR : Hid (Rw w blk off dk wr) := hR
                  have HO : Hid (partLoop ltInt a i j dk = T) := hO
                  clear hR hO
                  go_wp2
                  go_loopw [10] (fun vi wr2 => ∃ i2 : Nat, vi = .int .i64 i2 ∧ i ≤ i2 ∧ i2 ≤ b + 1 ∧ Rw w blk off dk wr2 ∧ scanUp (fun x => ltInt x dk[a]!) dk j i2 = scanUp (fun x => ltInt x dk[a]!) dk j i) (fun vi _ => b + 2 - (intOf vi).toNat)
                  case atStart => exact ⟨i, rfl, Nat.le_refl _, by omega, HR.out, rfl⟩
                  case round =>
                    obtain ⟨i2, rfl, hi2, hi3, hR2, hU⟩ := hrel
                    obtain ⟨G, hG, hcw, hfw⟩ := hR2.fam
                    rw [hsk] at hcw hfw
                    have HR2 : Hid (Rw w blk off dk wr) := hR2
                    have HG : Hid (∀ t, G t = dk[t]!) := hG
                    have HU : Hid (scanUp (fun x => ltInt x dk[a]!) dk j i2 = scanUp (fun x => ltInt x dk[a]!) dk j i) := hU
                    clear hR2 hG hU
                    by_cases hij : i2 ≤ j
                    · cases hl : ltInt (G i2) (G a)
                      · have HV : Hid (ltInt dk[i2]! dk[a]! = false) := (by rw [← HG.out, ← HG.out]; exact hl : ltInt dk[i2]! dk[a]! = false)
                        have HX : Hid (scanUp (fun x => ltInt x dk[a]!) dk j i = i2) := (by rw [← HU.out]; exact up_stop (.inr (by have t := hl; rw [HG.out, HG.out] at t; show (ltInt dk[i2]! dk[a]!) = _; rw [t] <;> rfl)) : scanUp (fun x => ltInt x dk[a]!) dk j i = i2)
                        go_wp2
                        go_quiet (first | (go_at_call 92; refine Calls.quiet_of_same (less67 _ _ _)))
                        have HRq1 : Hid (Rw w blk off dk (wr.drewN nq)) := HR2.out.drewN _; have hcq1 : ∀ t, t < len → (wr.drewN nq).cell? ⟨blk, off + t, none⟩ = some (.int .u64 (G t)) := hcw; have hfq1 : ∀ t, t < len → (wr.drewN nq).frozen? ⟨blk, off + t, none⟩ = false := hfw; clear hcw hfw; generalize wr.drewN nq = wq1 at *
                        go_wp2_with fail
                        go_loopw [11] (fun vj wr3 => ∃ j2 : Nat, vj = .int .i64 j2 ∧ j2 ≤ j ∧ a ≤ j2 ∧ Rw w blk off dk wr3 ∧ scanDown (fun x => !ltInt x dk[a]!) dk i2 j2 = scanDown (fun x => !ltInt x dk[a]!) dk i2 j) (fun vj _ => (intOf vj).toNat)
                        case atStart => exact ⟨j, rfl, Nat.le_refl _, by omega, HRq1.out, rfl⟩
                        case round =>
                          obtain ⟨j2, rfl, hj2, haj2, hR3, hD⟩ := hrel
                          clear hcq1 hfq1
                          obtain ⟨G, hG, hcw, hfw⟩ := hR3.fam
                          rw [hsk] at hcw hfw
                          have HR3 : Hid (Rw w blk off dk wr) := hR3
                          have HG : Hid (∀ t, G t = dk[t]!) := hG
                          have HD : Hid (scanDown (fun x => !ltInt x dk[a]!) dk i2 j2 = scanDown (fun x => !ltInt x dk[a]!) dk i2 j) := hD
                          clear hR3 hG hD
                          by_cases hij2 : i2 ≤ j2
                          · cases hl2 : ltInt (G j2) (G a)
                            · go_wp2
                              go_quiet (first | (go_at_call 92; refine Calls.quiet_of_same (less67 _ _ _)))
                              go_wp2
                              go_roundw
                              case rel => exact ⟨j2 - 1, by congr 1; omega, by omega, by omega, HR3.out.drewN _, by rw [← down_go hij2 (by omega) (by have t := hl2; rw [HG.out, HG.out] at t; show (!ltInt dk[j2]! dk[a]!) = _; rw [t] <;> rfl), HD.out]⟩
                              case measure => simp [intOf]; omega
                            · have HY : Hid (scanDown (fun x => !ltInt x dk[a]!) dk i2 j = j2) := (by rw [← HD.out]; exact down_stop (.inr (by have t := hl2; rw [HG.out, HG.out] at t; show (!ltInt dk[j2]! dk[a]!) = _; rw [t] <;> rfl)) : scanDown (fun x => !ltInt x dk[a]!) dk i2 j = j2)
                              have hne : i2 < j2 := by
                                rcases Nat.lt_or_ge i2 j2 with h | h
                                · exact h
                                · obtain rfl : i2 = j2 := by omega
                                  have t := HV.out
                                  rw [← HG.out, ← HG.out, hl2] at t
                                  cases t
                              have HN : Hid (partLoop ltInt a (i2 + 1) (j2 - 1) (swp dk i2 j2) = T) := (by have t := HO.out; rw [partLoop_eq, HX.out, HY.out, if_neg (by omega)] at t; exact t : partLoop ltInt a (i2 + 1) (j2 - 1) (swp dk i2 j2) = T)
                              go_wp2
                              go_quiet (first | (go_at_call 92; refine Calls.quiet_of_same (less67 _ _ _)))
                              have HRq2 : Hid (Rw w blk off dk (wr.drewN nq)) := HR3.out.drewN _; have hcq2 : ∀ t, t < len → (wr.drewN nq).cell? ⟨blk, off + t, none⟩ = some (.int .u64 (G t)) := hcw; have hfq2 : ∀ t, t < len → (wr.drewN nq).frozen? ⟨blk, off + t, none⟩ = false := hfw; clear hcw hfw; generalize wr.drewN nq = wq2 at *
                              have HW : Hid (Rw w blk off (swp dk i2 j2) ((wq2.setCell ⟨blk, off + i2, none⟩ (.int .u64 (G j2))).setCell ⟨blk, off + j2, none⟩ (.int .u64 (G i2)))) := (by rw [HG.out, HG.out]; exact HRq2.out.swap i2 j2 : Rw w blk off (swp dk i2 j2) ((wq2.setCell ⟨blk, off + i2, none⟩ (.int .u64 (G j2))).setCell ⟨blk, off + j2, none⟩ (.int .u64 (G i2))))
                              go_wp2
                              go_region
                              all_goals go_wp2
                              go_roundw
                              case rel => exact ⟨i2 + 1, j2 - 1, swp dk i2 j2, by go_num, by congr 1; omega, by omega, by omega, by omega, by omega, by rw [size_swp]; exact hsk, HW.out.drew, HN.out⟩
                              case measure => simp [intOf]; omega
                          · have hd2 : decide ((i2 : Int) ≤ (j2 : Int)) = false := decide_eq_false (by omega)
                            have HY : Hid (scanDown (fun x => !ltInt x dk[a]!) dk i2 j = j2) := (by rw [← HD.out]; exact down_stop (.inl hij2) : scanDown (fun x => !ltInt x dk[a]!) dk i2 j = j2)
                            have HN : Hid ((j2, false, swp dk j2 a) = R) := (by have t := HO.out; rw [partLoop_eq, HX.out, HY.out, if_pos (by omega)] at t; rw [← HT.out, ← t] : (j2, false, swp dk j2 a) = R)
                            go_wp2
                            go_quiet (first | (go_at_call 92; refine Calls.quiet_of_same (less67 _ _ _)))
                            have HRq2 : Hid (Rw w blk off dk (wr.drewN nq)) := HR3.out.drewN _; have hcq2 : ∀ t, t < len → (wr.drewN nq).cell? ⟨blk, off + t, none⟩ = some (.int .u64 (G t)) := hcw; have hfq2 : ∀ t, t < len → (wr.drewN nq).frozen? ⟨blk, off + t, none⟩ = false := hfw; clear hcw hfw; generalize wr.drewN nq = wq2 at *
                            have HW : Hid (Rw w blk off (swp dk j2 a) ((wq2.setCell ⟨blk, off + j2, none⟩ (.int .u64 (G a))).setCell ⟨blk, off + a, none⟩ (.int .u64 (G j2)))) := (by rw [HG.out, HG.out]; exact HRq2.out.swap j2 a : Rw w blk off (swp dk j2 a) ((wq2.setCell ⟨blk, off + j2, none⟩ (.int .u64 (G a))).setCell ⟨blk, off + a, none⟩ (.int .u64 (G j2))))
                            rcases Nat.lt_or_ge a j2 with hlt2 | hge2
                            · go_wp2
                              go_region
                              all_goals go_wp2
                              go_ret2
                              obtain rfl := HN.out
                              exact ⟨rfl, HW.out.drew⟩
                            · obtain rfl : j2 = a := by omega
                              go_wp2
                              go_region
                              all_goals go_wp2
                              go_ret2
                              obtain rfl := HN.out
                              exact ⟨rfl, HW.out.drew⟩
                      · go_wp2
                        go_quiet (first | (go_at_call 92; refine Calls.quiet_of_same (less67 _ _ _)))
                        go_wp2
                        go_roundw
                        case rel => exact ⟨i2 + 1, by go_num, by omega, by omega, HR2.out.drewN _, by rw [← up_go hij (by have t := hl; rw [HG.out, HG.out] at t; show (ltInt dk[i2]! dk[a]!) = _; rw [t] <;> rfl), HU.out]⟩
                        case measure => simp [intOf]; omega
                    · have hd : decide ((i2 : Int) ≤ (j : Int)) = false := decide_eq_false (by omega)
                      have HX : Hid (scanUp (fun x => ltInt x dk[a]!) dk j i = i2) := (by rw [← HU.out]; exact up_stop (.inl hij) : scanUp (fun x => ltInt x dk[a]!) dk j i = i2)
                      go_wp2
                      go_quiet (first | (go_at_call 92; refine Calls.quiet_of_same (less67 _ _ _)))
                      have HRq1 : Hid (Rw w blk off dk (wr.drewN nq)) := HR2.out.drewN _; have hcq1 : ∀ t, t < len → (wr.drewN nq).cell? ⟨blk, off + t, none⟩ = some (.int .u64 (G t)) := hcw; have hfq1 : ∀ t, t < len → (wr.drewN nq).frozen? ⟨blk, off + t, none⟩ = false := hfw; clear hcw hfw; generalize wr.drewN nq = wq1 at *
                      go_wp2_with fail
                      go_loopw [11] (fun vj wr3 => ∃ j2 : Nat, vj = .int .i64 j2 ∧ j2 ≤ j ∧ a ≤ j2 ∧ Rw w blk off dk wr3 ∧ scanDown (fun x => !ltInt x dk[a]!) dk i2 j2 = scanDown (fun x => !ltInt x dk[a]!) dk i2 j) (fun vj _ => (intOf vj).toNat)
                      case atStart => exact ⟨j, rfl, Nat.le_refl _, by omega, HRq1.out, rfl⟩
                      case round =>
                        obtain ⟨j2, rfl, hj2, haj2, hR3, hD⟩ := hrel
                        clear hcq1 hfq1
                        obtain ⟨G, hG, hcw, hfw⟩ := hR3.fam
                        rw [hsk] at hcw hfw
                        have HR3 : Hid (Rw w blk off dk wr) := hR3
                        have HG : Hid (∀ t, G t = dk[t]!) := hG
                        have HD : Hid (scanDown (fun x => !ltInt x dk[a]!) dk i2 j2 = scanDown (fun x => !ltInt x dk[a]!) dk i2 j) := hD
                        clear hR3 hG hD
                        by_cases hij2 : i2 ≤ j2
                        · cases hl2 : ltInt (G j2) (G a)
                          · go_wp2
                            go_quiet (first | (go_at_call 92; refine Calls.quiet_of_same (less67 _ _ _)))
                            go_wp2
                            go_roundw
                            case rel => exact ⟨j2 - 1, by congr 1; omega, by omega, by omega, HR3.out.drewN _, by rw [← down_go hij2 (by omega) (by have t := hl2; rw [HG.out, HG.out] at t; show (!ltInt dk[j2]! dk[a]!) = _; rw [t] <;> rfl), HD.out]⟩
                            case measure => simp [intOf]; omega
                          · have HY : Hid (scanDown (fun x => !ltInt x dk[a]!) dk i2 j = j2) := (by rw [← HD.out]; exact down_stop (.inr (by have t := hl2; rw [HG.out, HG.out] at t; show (!ltInt dk[j2]! dk[a]!) = _; rw [t] <;> rfl)) : scanDown (fun x => !ltInt x dk[a]!) dk i2 j = j2)
                            exact absurd hij2 (by omega)
                        · have hd2 : decide ((i2 : Int) ≤ (j2 : Int)) = false := decide_eq_false (by omega)
                          have HY : Hid (scanDown (fun x => !ltInt x dk[a]!) dk i2 j = j2) := (by rw [← HD.out]; exact down_stop (.inl hij2) : scanDown (fun x => !ltInt x dk[a]!) dk i2 j = j2)
                          have HN : Hid ((j2, false, swp dk j2 a) = R) := (by have t := HO.out; rw [partLoop_eq, HX.out, HY.out, if_pos (by omega)] at t; rw [← HT.out, ← t] : (j2, false, swp dk j2 a) = R)
                          go_wp2
                          go_quiet (first | (go_at_call 92; refine Calls.quiet_of_same (less67 _ _ _)))
                          have HRq2 : Hid (Rw w blk off dk (wr.drewN nq)) := HR3.out.drewN _; have hcq2 : ∀ t, t < len → (wr.drewN nq).cell? ⟨blk, off + t, none⟩ = some (.int .u64 (G t)) := hcw; have hfq2 : ∀ t, t < len → (wr.drewN nq).frozen? ⟨blk, off + t, none⟩ = false := hfw; clear hcw hfw; generalize wr.drewN nq = wq2 at *
                          have HW : Hid (Rw w blk off (swp dk j2 a) ((wq2.setCell ⟨blk, off + j2, none⟩ (.int .u64 (G a))).setCell ⟨blk, off + a, none⟩ (.int .u64 (G j2)))) := (by rw [HG.out, HG.out]; exact HRq2.out.swap j2 a : Rw w blk off (swp dk j2 a) ((wq2.setCell ⟨blk, off + j2, none⟩ (.int .u64 (G a))).setCell ⟨blk, off + a, none⟩ (.int .u64 (G j2))))
                          rcases Nat.lt_or_ge a j2 with hlt2 | hge2
                          · go_wp2
                            go_region
                            all_goals go_wp2
                            go_ret2
                            obtain rfl := HN.out
                            exact ⟨rfl, HW.out.drew⟩
                          · obtain rfl : j2 = a := by omega
                            go_wp2
                            go_region
                            all_goals go_wp2
                            go_ret2
                            obtain rfl := HN.out
                            exact ⟨rfl, HW.out.drew⟩
            · have hd2 : decide ((i2 : Int) ≤ (j2 : Int)) = false := decide_eq_false (by omega)
              have HY : Hid (scanDown (fun x => !ltInt x dk[a]!) dk i2 j = j2) := (by rw [← HD.out]; exact down_stop (.inl hij2) : scanDown (fun x => !ltInt x dk[a]!) dk i2 j = j2)
              have HN : Hid ((j2, true, swp dk j2 a) = R) := (by have t := HO.out; rw [HX.out, HY.out, if_pos (by omega)] at t; exact t : (j2, true, swp dk j2 a) = R)
              go_wp2
              go_quiet (first | (go_at_call 92; refine Calls.quiet_of_same (less67 _ _ _)))
              have HRq2 : Hid (Rw w blk off dk (wr.drewN nq)) := HR3.out.drewN _; have hcq2 : ∀ t, t < len → (wr.drewN nq).cell? ⟨blk, off + t, none⟩ = some (.int .u64 (G t)) := hcw; have hfq2 : ∀ t, t < len → (wr.drewN nq).frozen? ⟨blk, off + t, none⟩ = false := hfw; clear hcw hfw; generalize wr.drewN nq = wq2 at *
              have HW : Hid (Rw w blk off (swp dk j2 a) ((wq2.setCell ⟨blk, off + j2, none⟩ (.int .u64 (G a))).setCell ⟨blk, off + a, none⟩ (.int .u64 (G j2)))) := (by rw [HG.out, HG.out]; exact HRq2.out.swap j2 a : Rw w blk off (swp dk j2 a) ((wq2.setCell ⟨blk, off + j2, none⟩ (.int .u64 (G a))).setCell ⟨blk, off + a, none⟩ (.int .u64 (G j2))))
              rcases Nat.lt_or_ge a j2 with hlt2 | hge2
              · go_wp2
                go_region
                all_goals go_wp2
                go_ret2
                obtain rfl := HN.out
                exact ⟨rfl, HW.out.drew⟩
              · obtain rfl : j2 = a := by omega
                go_wp2
                go_region
                all_goals go_wp2
                go_ret2
                obtain rfl := HN.out
                exact ⟨rfl, HW.out.drew⟩
        · go_wp2
          go_quiet (first | (go_at_call 92; refine Calls.quiet_of_same (less67 _ _ _)))
          go_wp2
          go_roundw
          case rel => exact ⟨i2 + 1, by go_num, by omega, by omega, HR2.out.drewN _, by rw [← up_go hij (by have t := hl; rw [HG.out, HG.out] at t; show (ltInt dk[i2]! dk[a]!) = _; rw [t] <;> rfl), HU.out]⟩
          case measure => simp [intOf]; omega
      · have hd : decide ((i2 : Int) ≤ (j : Int)) = false := decide_eq_false (by omega)
        have HX : Hid (scanUp (fun x => ltInt x dk[a]!) dk j i = i2) := (by rw [← HU.out]; exact up_stop (.inl hij) : scanUp (fun x => ltInt x dk[a]!) dk j i = i2)
        go_wp2
        go_quiet (first | (go_at_call 92; refine Calls.quiet_of_same (less67 _ _ _)))
        have HRq1 : Hid (Rw w blk off dk (wr.drewN nq)) := HR2.out.drewN _; have hcq1 : ∀ t, t < len → (wr.drewN nq).cell? ⟨blk, off + t, none⟩ = some (.int .u64 (G t)) := hcw; have hfq1 : ∀ t, t < len → (wr.drewN nq).frozen? ⟨blk, off + t, none⟩ = false := hfw; clear hcw hfw; generalize wr.drewN nq = wq1 at *
        go_wp2_with fail
        go_loopw [11] (fun vj wr3 => ∃ j2 : Nat, vj = .int .i64 j2 ∧ j2 ≤ j ∧ a ≤ j2 ∧ Rw w blk off dk wr3 ∧ scanDown (fun x => !ltInt x dk[a]!) dk i2 j2 = scanDown (fun x => !ltInt x dk[a]!) dk i2 j) (fun vj _ => (intOf vj).toNat)
        case atStart => exact ⟨j, rfl, Nat.le_refl _, by omega, HRq1.out, rfl⟩
        case round =>
          obtain ⟨j2, rfl, hj2, haj2, hR3, hD⟩ := hrel
          clear hcq1 hfq1
          obtain ⟨G, hG, hcw, hfw⟩ := hR3.fam
          rw [hsk] at hcw hfw
          have HR3 : Hid (Rw w blk off dk wr) := hR3
          have HG : Hid (∀ t, G t = dk[t]!) := hG
          have HD : Hid (scanDown (fun x => !ltInt x dk[a]!) dk i2 j2 = scanDown (fun x => !ltInt x dk[a]!) dk i2 j) := hD
          clear hR3 hG hD
          by_cases hij2 : i2 ≤ j2
          · cases hl2 : ltInt (G j2) (G a)
            · go_wp2
              go_quiet (first | (go_at_call 92; refine Calls.quiet_of_same (less67 _ _ _)))
              go_wp2
              go_roundw
              case rel => exact ⟨j2 - 1, by congr 1; omega, by omega, by omega, HR3.out.drewN _, by rw [← down_go hij2 (by omega) (by have t := hl2; rw [HG.out, HG.out] at t; show (!ltInt dk[j2]! dk[a]!) = _; rw [t] <;> rfl), HD.out]⟩
              case measure => simp [intOf]; omega
            · have HY : Hid (scanDown (fun x => !ltInt x dk[a]!) dk i2 j = j2) := (by rw [← HD.out]; exact down_stop (.inr (by have t := hl2; rw [HG.out, HG.out] at t; show (!ltInt dk[j2]! dk[a]!) = _; rw [t] <;> rfl)) : scanDown (fun x => !ltInt x dk[a]!) dk i2 j = j2)
              exact absurd hij2 (by omega)
          · have hd2 : decide ((i2 : Int) ≤ (j2 : Int)) = false := decide_eq_false (by omega)
            have HY : Hid (scanDown (fun x => !ltInt x dk[a]!) dk i2 j = j2) := (by rw [← HD.out]; exact down_stop (.inl hij2) : scanDown (fun x => !ltInt x dk[a]!) dk i2 j = j2)
            have HN : Hid ((j2, true, swp dk j2 a) = R) := (by have t := HO.out; rw [HX.out, HY.out, if_pos (by omega)] at t; exact t : (j2, true, swp dk j2 a) = R)
            go_wp2
            go_quiet (first | (go_at_call 92; refine Calls.quiet_of_same (less67 _ _ _)))
            have HRq2 : Hid (Rw w blk off dk (wr.drewN nq)) := HR3.out.drewN _; have hcq2 : ∀ t, t < len → (wr.drewN nq).cell? ⟨blk, off + t, none⟩ = some (.int .u64 (G t)) := hcw; have hfq2 : ∀ t, t < len → (wr.drewN nq).frozen? ⟨blk, off + t, none⟩ = false := hfw; clear hcw hfw; generalize wr.drewN nq = wq2 at *
            have HW : Hid (Rw w blk off (swp dk j2 a) ((wq2.setCell ⟨blk, off + j2, none⟩ (.int .u64 (G a))).setCell ⟨blk, off + a, none⟩ (.int .u64 (G j2)))) := (by rw [HG.out, HG.out]; exact HRq2.out.swap j2 a : Rw w blk off (swp dk j2 a) ((wq2.setCell ⟨blk, off + j2, none⟩ (.int .u64 (G a))).setCell ⟨blk, off + a, none⟩ (.int .u64 (G j2))))
            rcases Nat.lt_or_ge a j2 with hlt2 | hge2
            · go_wp2
              go_region
              all_goals go_wp2
              go_ret2
              obtain rfl := HN.out
              exact ⟨rfl, HW.out.drew⟩
            · obtain rfl : j2 = a := by omega
              go_wp2
              go_region
              all_goals go_wp2
              go_ret2
              obtain rfl := HN.out
              exact ⟨rfl, HW.out.drew⟩
end
end Go.Proofs.YtnmpbihpoefeoaaDoor
