/- Names of nodes: the document's own. Kinds that are known: the document's own. -/
import Derived.Test.YtkkmeogehapjoaaGreatDoorTA
import Derived.Test.YtkkmeogehapjoaaGreatDoorSA
import Derived.Lib.CutLaws
import Derived.Lib.RabinKarpLaws
import Derived.Test.YtkkmeogehapjoaaGreatDoorR1
namespace Go.Proofs.YtkkmeogehapjoaaGreatDoor
section
open Go.RowKit Go.Shelf
def pkB (l : List UInt8) : Bool := (Lib.cut l [58, 58]).2.2 && (nameB (Lib.cut l [58, 58]).1 && nameB (Lib.cut l [58, 58]).2.1)
set_option maxRecDepth 100000 in
set_option maxHeartbeats 4000000 in
theorem picked100 (s : ByteArray) (w : World) (hs : s.size ≤ 4294967280) : Calls Tryz.prog 100 #[.string s] w fun e w' => e = .returned (.bool (pkB s.data.toList)) ∧ Below w.heap.size w w' := by
  have HN : Hid (∀ W t, t.size ≤ s.size → Calls Tryz.prog 99 #[.string t] W fun e w' => e = .returned (.bool (nameB t.data.toList)) ∧ Below W.heap.size W w') := fun W t ht => name16 t W (by unfold maxLen; omega)
  obtain ⟨R, hR⟩ : ∃ R, R = pkB s.data.toList := ⟨_, rfl⟩
  rw [← hR]
  have HR : Hid (R = pkB s.data.toList) := hR
  clear hR
  have hL := len_of s
  have HL : Hid (s.data.toList.length = s.size) := hL
  clear hL
  go_enter Tryz.func100, Tryz.ntmps100
  go_wp2
  go_loop [3] (fun i => ∃ k : Nat, i = .int .i64 k ∧ k ≤ s.size ∧ Lib.NoOcc s.data.toList [58, 58] k) (fun i => s.size - (intOf i).toNat)
  case atStart => exact ⟨0, rfl, Nat.zero_le _, Lib.NoOcc.zero _ _⟩
  case round =>
    obtain ⟨k, rfl, hk, hN⟩ := hrel
    have HNo : Hid (Lib.NoOcc s.data.toList [58, 58] k) := hN
    clear hN
    by_cases hlt : k + 1 < s.size
    · have hli : (k : Int) + 1 < (s.size : Int) := by omega
      have b1 : (0 : Int) ≤ (k : Int) := by omega
      have b2 : (k : Int) ≤ (k : Int) + 2 := by omega
      have b3 : (k : Int) + 2 ≤ (s.size : Int) := by omega
      have b4 : (k : Int) ≤ (s.size : Int) := by omega
      have b5 : (0 : Int) ≤ (k : Int) + 2 := by omega
      cases hc : ((s.extract k (k + 2)).toList == [58, 58]) with
      | true =>
        have ho := occ_yes s ⟨#[58, 58]⟩ k (by show k + 2 ≤ s.size; omega) (by rw [show (⟨#[58, 58]⟩ : ByteArray).toList = [58, 58] from ByteArray.toList_eq _]; exact hc)
        have hix : Lib.indexB s ⟨#[58, 58]⟩ = k := Lib.index_hit HNo.out (by rw [HL.out]; omega) ho
        obtain ⟨c1, c2, c3⟩ := Lib.cutB_hit s ⟨#[58, 58]⟩ k hix
        have HRR : Hid (R = (nameB (s.extract 0 k).data.toList && nameB (s.extract (k + 2) s.size).data.toList)) := by
          show R = _
          rw [HR.out]
          unfold pkB
          have d1 : (Lib.cut s.data.toList [58, 58]).1 = (s.extract 0 k).data.toList := by rw [← c1]
          have d2 : (Lib.cut s.data.toList [58, 58]).2.1 = (s.extract (k + 2) s.size).data.toList := by
            have t := congrArg (fun z : ByteArray => z.data.toList) c2
            exact t
          have d3 : (Lib.cut s.data.toList [58, 58]).2.2 = true := c3
          rw [d1, d2, d3, Bool.true_and]
        have HA : Hid (∀ W, Calls Tryz.prog 99 #[.string (s.extract 0 k)] W fun e w' => e = .returned (.bool (nameB (s.extract 0 k).data.toList)) ∧ Below W.heap.size W w') := fun W => HN.out W _ (by rw [ByteArray.size_extract]; omega)
        have HC : Hid (∀ W, Calls Tryz.prog 99 #[.string (s.extract (k + 2) s.size)] W fun e w' => e = .returned (.bool (nameB (s.extract (k + 2) s.size).data.toList)) ∧ Below W.heap.size W w') := fun W => HN.out W _ (by rw [ByteArray.size_extract]; omega)
        generalize nameB (s.extract 0 k).data.toList = n1 at *
        generalize nameB (s.extract (k + 2) s.size).data.toList = n2 at *
        clear ho hix c1 c2 c3 HN HR
        cases n1
        · obtain rfl : R = false := HRR.out
          go_wp2_with fail
          refine (HA.out _).mono ?_
          rintro e w1 ⟨rfl, hb⟩
          have HB1 : Hid (Below w.heap.size w w1) := hb
          clear hb
          go_wp2
          go_ret
          exact ⟨rfl, HB1.out⟩
        · obtain rfl : R = n2 := HRR.out
          go_wp2_with fail
          refine (HA.out _).mono ?_
          rintro e w1 ⟨rfl, hb⟩
          have HB1 : Hid (Below w.heap.size w w1) := hb
          clear hb
          go_wp2_with fail
          refine (HC.out _).mono ?_
          rintro e w2 ⟨rfl, hb⟩
          have HB2 : Hid (Below w.heap.size w w2) := HB1.out.trans (hb.mono HB1.out.size)
          clear hb
          go_wp2
          go_ret
          exact ⟨rfl, HB2.out⟩
      | false =>
        have ho := occ_no s ⟨#[58, 58]⟩ k (by show k + 2 ≤ s.size; omega) (by rw [show (⟨#[58, 58]⟩ : ByteArray).toList = [58, 58] from ByteArray.toList_eq _]; exact hc)
        have HN2 : Hid (Lib.NoOcc s.data.toList [58, 58] (k + 1)) := HNo.out.succ ho
        clear ho
        go_wp2
        exact ⟨⟨k + 1, by go_num, by omega, HN2.out⟩, by simp [intOf]; omega⟩
    · have hli : ¬ (k : Int) + 1 < (s.size : Int) := by omega
      have hix : Lib.indexB s ⟨#[58, 58]⟩ = -1 := Lib.index_past (by simp) HNo.out (by rw [HL.out]; simp; omega)
      obtain ⟨_, _, c3⟩ := Lib.cutB_miss s ⟨#[58, 58]⟩ hix
      obtain rfl : R = false := by
        rw [HR.out]
        unfold pkB
        have d3 : (Lib.cut s.data.toList [58, 58]).2.2 = false := c3
        rw [d3, Bool.false_and]
      clear hix c3
      go_wp2
      go_ret
      exact ⟨rfl, Below.refl _ _⟩
end
section
open Go.RowKit Go.Shelf
/-- A kind that is known. -/
def knB (k : Int) : Bool := (decide (1 ≤ k) && decide (k ≤ 7)) || (tyB k || (decide (k = 20) || (stB k || ((decide (30 ≤ k) && decide (k ≤ 47)) || paB k))))
set_option maxHeartbeats 4000000 in
theorem known74 (k : Int) (w : World) : Calls Tryz.prog 74 #[.int .i64 k] w fun e w' => e = .returned (.bool (knB k)) ∧ w' = w := by
  have HT : Hid (∀ W, Calls Tryz.prog 39 #[.int .i64 k] W fun e w' => e = .returned (.bool (tyB k)) ∧ w' = W) := fun W => type39 k W
  have HS : Hid (∀ W, Calls Tryz.prog 51 #[.int .i64 k] W fun e w' => e = .returned (.bool (stB k)) ∧ w' = W) := fun W => stmt51 k W
  have HP : Hid (∀ W, Calls Tryz.prog 98 #[.int .i64 k] W fun e w' => e = .returned (.bool (paB k)) ∧ w' = W) := fun W => patt98 k W
  unfold knB
  generalize tyB k = bt at *
  generalize stB k = bs at *
  generalize paB k = bp at *
  simp only [deq]
  go_enter Tryz.func74, Tryz.ntmps74
  go_wp2_with (first | (go_at_call 39; refine (HT.out _).mono ?_; rintro e w' ⟨rfl, rfl⟩) | (go_at_call 51; refine (HS.out _).mono ?_; rintro e w' ⟨rfl, rfl⟩) | (go_at_call 98; refine (HP.out _).mono ?_; rintro e w' ⟨rfl, rfl⟩))
  all_goals go_ret
  all_goals refine ⟨ret_bool ?_, rfl⟩
  all_goals clear HT HS HP
  all_goals try subst_vars
  all_goals (first | (simp_all; done) | (simp_all <;> omega) | (rw [Bool.eq_iff_iff]; cases bt <;> cases bs <;> cases bp <;> simp_all <;> omega))
end
end Go.Proofs.YtkkmeogehapjoaaGreatDoor
