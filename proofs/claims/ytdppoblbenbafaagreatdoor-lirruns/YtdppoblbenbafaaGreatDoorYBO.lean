/- The document's own digits. The document's own runtime: what is printed. -/
import Derived.Test.YtdppoblbenbafaaGreatDoorYAD
import Derived.Test.YtdppoblbenbafaaGreatDoorYAS
import Derived.Test.YtdppoblbenbafaaGreatDoorYAM
import Derived.Test.YtdppoblbenbafaaGreatDoorYBA
namespace Go.Proofs.YtdppoblbenbafaaGreatDoor
section
open Go.RowKit Go.Shelf
set_option maxHeartbeats 8000000
set_option maxRecDepth 20000
/-- Bytes as cells. -/
def byV (l : List UInt8) : List Value := l.map fun b => .int .u8 (b.toNat : Int)
theorem byV_app (a b : List UInt8) : byV (a ++ b) = byV a ++ byV b := by simp [byV]
/-- The digits of a number; none of 0. -/
def dgs (u : Nat) : List UInt8 := if u = 0 then [] else Lib.decDigits u
theorem dgs_step {u : Nat} (h : 0 < u) : dgs u = dgs (u / 10) ++ [UInt8.ofNat (48 + u % 10)] := by
  unfold dgs
  rw [if_neg (by omega)]
  by_cases h1 : u < 10
  · rw [if_pos (by omega), Lib.decDigits, dif_pos h1, show u % 10 = u by omega]
    rfl
  · rw [if_neg (by omega), Lib.decDigits, dif_neg h1]
theorem dgs_zero : dgs 0 = [] := rfl
/-- Bytes that a function has told. -/
def ToldB (w : World) (l : List UInt8) (e : Ending) (w' : World) : Prop := ∃ g c, e = .returned (.slice (some ⟨g, 0, none⟩) l.length c) ∧ (∀ (j : Nat) (b : UInt8), l[j]? = some b → w'.cell? ⟨g, j, none⟩ = some (.int .u8 (b.toNat : Int))) ∧ Below w.heap.size w w'
theorem own_cells {w : World} {base : Nat} {l : List UInt8} {g c : Nat} (h : w.ownsRow base 5 1 (.slice (some ⟨g, 0, none⟩) l.length c) l.length (byV l)) (j : Nat) (b : UInt8) (hj : l[j]? = some b) : w.cell? ⟨g, j, none⟩ = some (.int .u8 (b.toNat : Int)) := by
  rw [h.cellAt j (by have := (List.getElem?_eq_some_iff.1 hj).1; omega)]
  unfold byV
  rw [List.getElem?_map, hj]
  rfl
theorem pow_len {u k M : Nat} (hu : 0 < u) (h : u * 10 ^ k ≤ M) (hM : M < 18446744073709551616) : k ≤ 20 := by
  apply Classical.byContradiction
  intro hk
  have h1 : 10 ^ 21 ≤ 10 ^ k := Nat.pow_le_pow_right (by omega) (by omega)
  have h2 : 10 ^ k ≤ u * 10 ^ k := Nat.le_mul_of_pos_left _ hu
  have h3 : (10 : Nat) ^ 21 = 1000000000000000000000 := by decide
  omega
theorem digits80 (n : Int) (w : World) (h0 : -9223372036854775808 ≤ n) (h1 : n ≤ 9223372036854775807) : Calls Tryz.prog 80 #[.int .i64 n] w (ToldB w (Lib.itoa n)) := by
  by_cases hz : n = 0
  · subst hz
    have hi : Lib.itoa 0 = [48] := by simp [Lib.itoa, Lib.decDigits]
    rw [hi]
    have HB : Hid (∀ o, Below w.heap.size w (w.alloc o)) := fun o => ((G.refl w).alloc o).below
    go_enter Tryz.func80, Tryz.ntmps80
    go_wp2
    go_ret
    refine ⟨_, _, rfl, fun j b hj => ?_, HB.out _⟩
    match j, hj with
    | 0, hj => cases hj; go_simp
    | j + 1, hj => simp at hj
  · have q0 : (n == 0) = false := by simpa using hz
    obtain ⟨M, hM⟩ : ∃ M : Nat, M = n.natAbs := ⟨_, rfl⟩
    have hM1 : 0 < M := by omega
    have hM2 : M < 18446744073709551616 := by omega
    have HI : Hid (Lib.itoa n = (if n < 0 then [45] else []) ++ dgs M) := by
      show _ = _
      unfold Lib.itoa dgs
      rw [if_neg (show ¬ M = 0 by omega)]
      by_cases hn : n < 0
      · rw [if_pos hn, if_pos hn, hM]; rfl
      · rw [if_neg hn, if_neg hn, show n.toNat = M by omega]; rfl
    generalize Lib.itoa n = L at *
    obtain ⟨i5, AN⟩ := info5'
    have AN : Hid (Tryz.prog.info? 5 = some i5 ∧ i5.zero = some (.int .u8 0) ∧ i5.size = 1 ∧ i5.bytes = 1) := AN
    have HNo : Hid (w.ownsRow w.heap.size 5 1 (.slice none 0 0) ([] : List UInt8).length (byV [])) := World.ownsRow_nil _ _ _ _
    have HMh : Hid (M = n.natAbs ∧ 0 < M ∧ M < 18446744073709551616) := ⟨hM, hM1, hM2⟩
    by_cases hn : n < 0
    · obtain ⟨X, hX⟩ : ∃ X, X = n + 18446744073709551616 := ⟨_, rfl⟩
      have hw : IntKind.u64.wrap n = X := by rw [wrapU]; omega
      have hw2 : IntKind.u64.wrap (-X) = (M : Int) := by rw [wrapU]; omega
      clear hX
      clear hM hM1 hM2 h0 hz
      go_enter Tryz.func80, Tryz.ntmps80
      go_wp2
      go_loopw [3, 4] (fun v u wx => ∃ (k : Nat) (bk : List UInt8), u = .int .u64 k ∧ wx.ownsRow w.heap.size 5 1 v bk.length (byV bk) ∧ Below w.heap.size w wx ∧ dgs M = dgs k ++ bk.reverse ∧ k * 10 ^ bk.length ≤ M ∧ bk.length ≤ 21) (fun _ u _ => (intOf u).toNat)
      case atStart => exact ⟨M, [], rfl, HNo.out, Below.refl _ _, by simp, by simp, by simp⟩
      case round =>
        obtain ⟨k, bk, rfl, ho, hb, hd, hp, hq⟩ := hrel
        have HQ : Hid (bk.length ≤ 21) := hq
        have HO : Hid (wr.ownsRow w.heap.size 5 1 u3 bk.length (byV bk)) := ho
        have HB : Hid (Below w.heap.size w wr) := hb
        have HD : Hid (dgs M = dgs k ++ bk.reverse) := hd
        have HP : Hid (k * 10 ^ bk.length ≤ M) := hp
        clear ho hb hd hp hq
        by_cases hk : 0 < k
        · have hkm : k < 18446744073709551616 := by
            have t1 := HP.out
            have t2 : k ≤ k * 10 ^ bk.length := Nat.le_mul_of_pos_right _ (Nat.pow_pos (by omega))
            have := HMh.out.2.2
            omega
          have HL : Hid (bk.length ≤ 20) := pow_len hk HP.out HMh.out.2.2
          have HST : Hid (dgs M = dgs (k / 10) ++ (bk ++ [UInt8.ofNat (48 + k % 10)]).reverse) := by
            show _ = _
            rw [HD.out, dgs_step hk]
            simp
          have HPT : Hid (k / 10 * 10 ^ (bk.length + 1) ≤ M) := by
            show _ ≤ _
            refine Nat.le_trans ?_ HP.out
            rw [Nat.pow_succ, Nat.mul_comm (10 ^ bk.length) 10, ← Nat.mul_assoc]
            exact Nat.mul_le_mul_right _ (by omega)
          have HBv : Hid ([Value.int .u8 (48 + (k : Int) % 10)] = byV [UInt8.ofNat (48 + k % 10)]) := by
            show _ = _
            have : (48 + k % 10) % 256 = 48 + k % 10 := by omega
            simp [byV, this]
          go_wp2_with (at_builtin; refine wpList_append_own _ rfl _ _ 33 rfl w.heap.size 5 i5 (.int .u8 0) 1 1 Tryz.underlying33 AN.out.1 AN.out.2.1 AN.out.2.2.1 AN.out.2.2.2 rfl (by decide) _ _ _ rfl (HO.out.alloc _) ⟨wr.heap.size, 0, none⟩ 1 1 [.int .u8 (48 + (k : Int) % 10)] rfl (by rfl) (by intro j q hj; cases j with | zero => cases hj; exact new_one _ _ _ | succ j => cases hj) (by intro q hq; simp at hq; subst hq; rfl) (by unfold maxLen; have := HL.out; omega) (by have := HL.out; omega) (by have := HB.out.size; simp; omega) ?_)
          rintro v2 w2 ho2 hg2 _
          have ho3 : w2.ownsRow w.heap.size 5 1 v2 (bk ++ [UInt8.ofNat (48 + k % 10)]).length (byV (bk ++ [UInt8.ofNat (48 + k % 10)])) := by
            rw [byV_app, ← HBv.out]
            simpa using ho2
          have HO2 : Hid (w2.ownsRow w.heap.size 5 1 v2 (bk ++ [UInt8.ofNat (48 + k % 10)]).length (byV (bk ++ [UInt8.ofNat (48 + k % 10)]))) := ho3
          have HB2 : Hid (Below w.heap.size w w2) := below_grown (Nat.le_refl _) (HB.out.alloc HB.out.size _) hg2 (fun g hg => own_base HO.out hg)
          clear ho2 ho3 hg2
          go_wp2
          go_round
          case rel => exact ⟨k / 10, bk ++ [UInt8.ofNat (48 + k % 10)], by simp, HO2.out, HB2.out, HST.out, by simpa using HPT.out, by simp; have := HL.out; omega⟩
          case measure => simp [intOf]; omega
        · obtain rfl : k = 0 := by omega
          have HBK : Hid (dgs M = bk.reverse) := by show _ = _; rw [HD.out, dgs_zero]; rfl
          have hbk : 0 < bk.length := by
            have t : (dgs M).length = bk.length := by rw [HBK.out]; simp
            rw [dgs_step HMh.out.2.1] at t
            simp at t
            omega
          have HBl : Hid (bk.length ≤ 40) := Nat.le_trans HQ.out (by omega)
          obtain ⟨g, cap, hu3⟩ : ∃ g cap, u3 = .slice (some ⟨g, 0, none⟩) bk.length cap := by
            obtain ⟨_, ⟨_, hz⟩ | ⟨g, cap, cur, e, _⟩⟩ := HO.out
            · omega
            · exact ⟨g, cap, e⟩
          subst hu3
          have HCs : Hid (∀ (j : Nat) (b : UInt8), bk[j]? = some b → wr.cell? ⟨g, j, none⟩ = some (.int .u8 (b.toNat : Int))) := own_cells HO.out
          obtain ⟨bl, hbl⟩ : ∃ bl, bl = bk.length := ⟨_, rfl⟩
          have HBL : Hid (bl = bk.length) := hbl
          have hbl1 : 0 < bl := by omega
          have hbl2 : bl ≤ 40 := by have := HBl.out; omega
          rw [← hbl]
          clear hbl hbk HO HD HP
          generalize wr = V at *
          have HNo2 : Hid (V.ownsRow V.heap.size 5 1 (.slice none 0 0) ([] : List UInt8).length (byV [])) := World.ownsRow_nil _ _ _ _
          have HL2 : Hid (L = [45] ++ bk.reverse) := by show _ = _; rw [HI.out, if_pos hn, HBK.out]
          go_wp2_with (at_builtin; refine wpList_append_own _ rfl _ _ 33 rfl V.heap.size 5 i5 (.int .u8 0) 1 1 Tryz.underlying33 AN.out.1 AN.out.2.1 AN.out.2.2.1 AN.out.2.2.2 rfl (by decide) _ _ _ rfl (HNo2.out.alloc _) ⟨V.heap.size, 0, none⟩ 1 1 [.int .u8 45] rfl (by rfl) (by intro j q hj; cases j with | zero => cases hj; exact new_one _ _ _ | succ j => cases hj) (by intro q hq; simp at hq; subst hq; rfl) (by unfold maxLen; simp) (by simp) (by simp) ?_)
          rintro v1 w1 ho1 hg1 _
          have HO1 : Hid (w1.ownsRow V.heap.size 5 1 v1 [(45 : UInt8)].length (byV [45])) := by
            have : w1.ownsRow V.heap.size 5 1 v1 1 [.int .u8 45] := by simpa [byV] using ho1
            exact this
          have HB1 : Hid (Below V.heap.size V w1) := below_grown (Nat.le_refl _) (((G.refl V).alloc _).below) hg1 (fun g hg => own_base HNo2.out hg)
          clear ho1 hg1
          go_wp2
          go_loopw [5, 6] (fun v i wx => ∃ (k : Nat) (out : List UInt8), k ≤ bl ∧ i = .int .i64 ((k : Int) - 1) ∧ wx.ownsRow V.heap.size 5 1 v out.length (byV out) ∧ Below V.heap.size V wx ∧ L = out ++ (bk.take k).reverse ∧ out.length + k ≤ bl + 1) (fun _ i _ => (intOf i + 1).toNat)
          case atStart => exact ⟨bl, [45], Nat.le_refl _, by simp, HO1.out, HB1.out, by rw [HL2.out, List.take_of_length_le (by have := HBL.out; omega)], by simp; omega⟩
          case round =>
            obtain ⟨k, out, hk, rfl, ho, hb, hd, hp⟩ := hrel
            have HO : Hid (wr.ownsRow V.heap.size 5 1 u5 out.length (byV out)) := ho
            have HB3 : Hid (Below V.heap.size V wr) := hb
            have HD : Hid (L = out ++ (bk.take k).reverse) := hd
            have HP : Hid (out.length + k ≤ bl + 1) := hp
            clear ho hb hd hp
            by_cases hk0 : 0 < k
            · obtain ⟨b, hbj⟩ : ∃ b, bk[k - 1]? = some b := ⟨_, List.getElem?_eq_getElem (by have := HBL.out; omega)⟩
              have c0 := HCs.out (k - 1) b hbj
              have hgl : g < V.heap.size := World.block_lt_of_cell? _ _ c0
              rw [← HB3.out.cell (p := ⟨g, k - 1, none⟩) hgl] at c0
              have HS : Hid (L = (out ++ [b]) ++ (bk.take (k - 1)).reverse) := by
                show _ = _
                rw [HD.out, show bk.take k = bk.take (k - 1) ++ [b] by rw [show k = k - 1 + 1 by omega, List.take_add_one, hbj]; simp]
                simp
              obtain ⟨k1, hk1⟩ : ∃ k1, k = k1 + 1 := ⟨k - 1, by omega⟩
              subst hk1
              rw [show k1 + 1 - 1 = k1 by omega] at c0 HS
              have hki : ((k1 + 1 : Nat) : Int) - 1 = (k1 : Int) := by omega
              rw [hki]
              have hlt : g < wr.heap.size := World.block_lt_of_cell? _ _ c0
              clear hbj hki
              go_wp2_with (at_builtin; refine wpList_append_own _ rfl _ _ 33 rfl V.heap.size 5 i5 (.int .u8 0) 1 1 Tryz.underlying33 AN.out.1 AN.out.2.1 AN.out.2.2.1 AN.out.2.2.2 rfl (by decide) _ _ _ rfl (HO.out.alloc _) ⟨wr.heap.size, 0, none⟩ 1 1 [.int .u8 (b.toNat : Int)] rfl (by rfl) (by intro j q hj; cases j with | zero => cases hj; exact new_one _ _ _ | succ j => cases hj) (by intro q hq; simp at hq; subst hq; rfl) (by unfold maxLen; have := HP.out; omega) (by have := HP.out; omega) (by have := HB3.out.size; simp; omega) ?_)
              rintro v2 w2 ho2 hg2 _
              have ho3 : w2.ownsRow V.heap.size 5 1 v2 (out ++ [b]).length (byV (out ++ [b])) := by
                rw [byV_app]
                simpa [byV] using ho2
              have HO2 : Hid (w2.ownsRow V.heap.size 5 1 v2 (out ++ [b]).length (byV (out ++ [b]))) := ho3
              have HB4 : Hid (Below V.heap.size V w2) := below_grown (Nat.le_refl _) (HB3.out.alloc HB3.out.size _) hg2 (fun g hg => own_base HO.out hg)
              clear ho2 ho3 hg2 c0
              go_wp2
              refine ⟨?_, ?_⟩
              · exact ⟨k1, out ++ [b], by omega, by go_num, HO2.out, HB4.out, HS.out, by simp; have := HP.out; omega⟩
              · simp [intOf]; try omega
            · obtain rfl : k = 0 := by omega
              have HLo : Hid (L = out) := by show _ = _; rw [HD.out]; simp
              have hol : 0 < out.length := by
                have t : L.length = out.length := by rw [HLo.out]
                rw [HL2.out] at t
                simp at t
                have := HBL.out
                omega
              obtain ⟨g2, cap2, hu5⟩ : ∃ g2 cap2, u5 = .slice (some ⟨g2, 0, none⟩) out.length cap2 := by
                obtain ⟨_, ⟨_, hz⟩ | ⟨g2, cap2, cur, e, _⟩⟩ := HO.out
                · omega
                · exact ⟨g2, cap2, e⟩
              subst hu5
              have HCo : Hid (∀ (j : Nat) (b : UInt8), out[j]? = some b → wr.cell? ⟨g2, j, none⟩ = some (.int .u8 (b.toNat : Int))) := own_cells HO.out
              have HBz : Hid (Below w.heap.size w wr) := HB.out.trans (HB3.out.mono HB.out.size)
              clear hol
              generalize hoL : out.length = ol at *
              go_wp2
              go_ret
              refine ⟨g2, cap2, ?_, ?_, HBz.out⟩
              · rw [HLo.out, hoL]; rfl
              · rw [HLo.out]; exact HCo.out
    · have hw : IntKind.u64.wrap n = (M : Int) := by rw [wrapU]; omega
      clear hM hM1 hM2 h0 hz
      go_enter Tryz.func80, Tryz.ntmps80
      go_wp2
      go_loopw [3, 4] (fun v u wx => ∃ (k : Nat) (bk : List UInt8), u = .int .u64 k ∧ wx.ownsRow w.heap.size 5 1 v bk.length (byV bk) ∧ Below w.heap.size w wx ∧ dgs M = dgs k ++ bk.reverse ∧ k * 10 ^ bk.length ≤ M ∧ bk.length ≤ 21) (fun _ u _ => (intOf u).toNat)
      case atStart => exact ⟨M, [], rfl, HNo.out, Below.refl _ _, by simp, by simp, by simp⟩
      case round =>
        obtain ⟨k, bk, rfl, ho, hb, hd, hp, hq⟩ := hrel
        have HQ : Hid (bk.length ≤ 21) := hq
        have HO : Hid (wr.ownsRow w.heap.size 5 1 u3 bk.length (byV bk)) := ho
        have HB : Hid (Below w.heap.size w wr) := hb
        have HD : Hid (dgs M = dgs k ++ bk.reverse) := hd
        have HP : Hid (k * 10 ^ bk.length ≤ M) := hp
        clear ho hb hd hp hq
        by_cases hk : 0 < k
        · have hkm : k < 18446744073709551616 := by
            have t1 := HP.out
            have t2 : k ≤ k * 10 ^ bk.length := Nat.le_mul_of_pos_right _ (Nat.pow_pos (by omega))
            have := HMh.out.2.2
            omega
          have HL : Hid (bk.length ≤ 20) := pow_len hk HP.out HMh.out.2.2
          have HST : Hid (dgs M = dgs (k / 10) ++ (bk ++ [UInt8.ofNat (48 + k % 10)]).reverse) := by
            show _ = _
            rw [HD.out, dgs_step hk]
            simp
          have HPT : Hid (k / 10 * 10 ^ (bk.length + 1) ≤ M) := by
            show _ ≤ _
            refine Nat.le_trans ?_ HP.out
            rw [Nat.pow_succ, Nat.mul_comm (10 ^ bk.length) 10, ← Nat.mul_assoc]
            exact Nat.mul_le_mul_right _ (by omega)
          have HBv : Hid ([Value.int .u8 (48 + (k : Int) % 10)] = byV [UInt8.ofNat (48 + k % 10)]) := by
            show _ = _
            have : (48 + k % 10) % 256 = 48 + k % 10 := by omega
            simp [byV, this]
          go_wp2_with (at_builtin; refine wpList_append_own _ rfl _ _ 33 rfl w.heap.size 5 i5 (.int .u8 0) 1 1 Tryz.underlying33 AN.out.1 AN.out.2.1 AN.out.2.2.1 AN.out.2.2.2 rfl (by decide) _ _ _ rfl (HO.out.alloc _) ⟨wr.heap.size, 0, none⟩ 1 1 [.int .u8 (48 + (k : Int) % 10)] rfl (by rfl) (by intro j q hj; cases j with | zero => cases hj; exact new_one _ _ _ | succ j => cases hj) (by intro q hq; simp at hq; subst hq; rfl) (by unfold maxLen; have := HL.out; omega) (by have := HL.out; omega) (by have := HB.out.size; simp; omega) ?_)
          rintro v2 w2 ho2 hg2 _
          have ho3 : w2.ownsRow w.heap.size 5 1 v2 (bk ++ [UInt8.ofNat (48 + k % 10)]).length (byV (bk ++ [UInt8.ofNat (48 + k % 10)])) := by
            rw [byV_app, ← HBv.out]
            simpa using ho2
          have HO2 : Hid (w2.ownsRow w.heap.size 5 1 v2 (bk ++ [UInt8.ofNat (48 + k % 10)]).length (byV (bk ++ [UInt8.ofNat (48 + k % 10)]))) := ho3
          have HB2 : Hid (Below w.heap.size w w2) := below_grown (Nat.le_refl _) (HB.out.alloc HB.out.size _) hg2 (fun g hg => own_base HO.out hg)
          clear ho2 ho3 hg2
          go_wp2
          go_round
          case rel => exact ⟨k / 10, bk ++ [UInt8.ofNat (48 + k % 10)], by simp, HO2.out, HB2.out, HST.out, by simpa using HPT.out, by simp; have := HL.out; omega⟩
          case measure => simp [intOf]; omega
        · obtain rfl : k = 0 := by omega
          have HBK : Hid (dgs M = bk.reverse) := by show _ = _; rw [HD.out, dgs_zero]; rfl
          have hbk : 0 < bk.length := by
            have t : (dgs M).length = bk.length := by rw [HBK.out]; simp
            rw [dgs_step HMh.out.2.1] at t
            simp at t
            omega
          have HBl : Hid (bk.length ≤ 40) := Nat.le_trans HQ.out (by omega)
          obtain ⟨g, cap, hu3⟩ : ∃ g cap, u3 = .slice (some ⟨g, 0, none⟩) bk.length cap := by
            obtain ⟨_, ⟨_, hz⟩ | ⟨g, cap, cur, e, _⟩⟩ := HO.out
            · omega
            · exact ⟨g, cap, e⟩
          subst hu3
          have HCs : Hid (∀ (j : Nat) (b : UInt8), bk[j]? = some b → wr.cell? ⟨g, j, none⟩ = some (.int .u8 (b.toNat : Int))) := own_cells HO.out
          obtain ⟨bl, hbl⟩ : ∃ bl, bl = bk.length := ⟨_, rfl⟩
          have HBL : Hid (bl = bk.length) := hbl
          have hbl1 : 0 < bl := by omega
          have hbl2 : bl ≤ 40 := by have := HBl.out; omega
          rw [← hbl]
          clear hbl hbk HO HD HP
          generalize wr = V at *
          have HNo2 : Hid (V.ownsRow V.heap.size 5 1 (.slice none 0 0) ([] : List UInt8).length (byV [])) := World.ownsRow_nil _ _ _ _
          have HL2 : Hid (L = [] ++ bk.reverse) := by show _ = _; rw [HI.out, if_neg (by omega), HBK.out]
          go_wp2
          go_loopw [5, 6] (fun v i wx => ∃ (k : Nat) (out : List UInt8), k ≤ bl ∧ i = .int .i64 ((k : Int) - 1) ∧ wx.ownsRow V.heap.size 5 1 v out.length (byV out) ∧ Below V.heap.size V wx ∧ L = out ++ (bk.take k).reverse ∧ out.length + k ≤ bl + 1) (fun _ i _ => (intOf i + 1).toNat)
          case atStart => exact ⟨bl, [], Nat.le_refl _, by simp, HNo2.out, Below.refl _ _, by rw [HL2.out, List.take_of_length_le (by have := HBL.out; omega)], by simp⟩
          case round =>
            obtain ⟨k, out, hk, rfl, ho, hb, hd, hp⟩ := hrel
            have HO : Hid (wr.ownsRow V.heap.size 5 1 u5 out.length (byV out)) := ho
            have HB3 : Hid (Below V.heap.size V wr) := hb
            have HD : Hid (L = out ++ (bk.take k).reverse) := hd
            have HP : Hid (out.length + k ≤ bl + 1) := hp
            clear ho hb hd hp
            by_cases hk0 : 0 < k
            · obtain ⟨b, hbj⟩ : ∃ b, bk[k - 1]? = some b := ⟨_, List.getElem?_eq_getElem (by have := HBL.out; omega)⟩
              have c0 := HCs.out (k - 1) b hbj
              have hgl : g < V.heap.size := World.block_lt_of_cell? _ _ c0
              rw [← HB3.out.cell (p := ⟨g, k - 1, none⟩) hgl] at c0
              have HS : Hid (L = (out ++ [b]) ++ (bk.take (k - 1)).reverse) := by
                show _ = _
                rw [HD.out, show bk.take k = bk.take (k - 1) ++ [b] by rw [show k = k - 1 + 1 by omega, List.take_add_one, hbj]; simp]
                simp
              obtain ⟨k1, hk1⟩ : ∃ k1, k = k1 + 1 := ⟨k - 1, by omega⟩
              subst hk1
              rw [show k1 + 1 - 1 = k1 by omega] at c0 HS
              have hki : ((k1 + 1 : Nat) : Int) - 1 = (k1 : Int) := by omega
              rw [hki]
              have hlt : g < wr.heap.size := World.block_lt_of_cell? _ _ c0
              clear hbj hki
              go_wp2_with (at_builtin; refine wpList_append_own _ rfl _ _ 33 rfl V.heap.size 5 i5 (.int .u8 0) 1 1 Tryz.underlying33 AN.out.1 AN.out.2.1 AN.out.2.2.1 AN.out.2.2.2 rfl (by decide) _ _ _ rfl (HO.out.alloc _) ⟨wr.heap.size, 0, none⟩ 1 1 [.int .u8 (b.toNat : Int)] rfl (by rfl) (by intro j q hj; cases j with | zero => cases hj; exact new_one _ _ _ | succ j => cases hj) (by intro q hq; simp at hq; subst hq; rfl) (by unfold maxLen; have := HP.out; omega) (by have := HP.out; omega) (by have := HB3.out.size; simp; omega) ?_)
              rintro v2 w2 ho2 hg2 _
              have ho3 : w2.ownsRow V.heap.size 5 1 v2 (out ++ [b]).length (byV (out ++ [b])) := by
                rw [byV_app]
                simpa [byV] using ho2
              have HO2 : Hid (w2.ownsRow V.heap.size 5 1 v2 (out ++ [b]).length (byV (out ++ [b]))) := ho3
              have HB4 : Hid (Below V.heap.size V w2) := below_grown (Nat.le_refl _) (HB3.out.alloc HB3.out.size _) hg2 (fun g hg => own_base HO.out hg)
              clear ho2 ho3 hg2 c0
              go_wp2
              refine ⟨⟨_, _, _, _, _, _, _, _, _, _, _, _, _, ?_, rfl⟩, ?_⟩
              · exact ⟨k1, out ++ [b], by omega, by go_num, HO2.out, HB4.out, HS.out, by simp; have := HP.out; omega⟩
              · simp [intOf]; try omega
            · obtain rfl : k = 0 := by omega
              have HLo : Hid (L = out) := by show _ = _; rw [HD.out]; simp
              have hol : 0 < out.length := by
                have t : L.length = out.length := by rw [HLo.out]
                rw [HL2.out] at t
                simp at t
                have := HBL.out
                omega
              obtain ⟨g2, cap2, hu5⟩ : ∃ g2 cap2, u5 = .slice (some ⟨g2, 0, none⟩) out.length cap2 := by
                obtain ⟨_, ⟨_, hz⟩ | ⟨g2, cap2, cur, e, _⟩⟩ := HO.out
                · omega
                · exact ⟨g2, cap2, e⟩
              subst hu5
              have HCo : Hid (∀ (j : Nat) (b : UInt8), out[j]? = some b → wr.cell? ⟨g2, j, none⟩ = some (.int .u8 (b.toNat : Int))) := own_cells HO.out
              have HBz : Hid (Below w.heap.size w wr) := HB.out.trans (HB3.out.mono HB.out.size)
              clear hol
              generalize hoL : out.length = ol at *
              go_wp2
              go_ret
              refine ⟨g2, cap2, ?_, ?_, HBz.out⟩
              · rw [HLo.out, hoL]; rfl
              · rw [HLo.out]; exact HCo.out
end
section
open Go.RowKit Go.Shelf
set_option maxRecDepth 20000
set_option maxHeartbeats 4000000
theorem one_at {W : World} {g : Nat} {v : Value} (h : W.cell? ⟨g, 0, none⟩ = some v) : ∀ (j : Nat) (u : Value), [v][j]? = some u → W.cell? ((⟨g, 0, none⟩ : Addr).add j) = some u := by
  intro j u hj
  match j, hj with
  | 0, hj => cases hj; exact h
  | j + 1, hj => simp at hj
theorem by_at {W : World} {g : Nat} {l : List UInt8} (h : ∀ (j : Nat) (b : UInt8), l[j]? = some b → W.cell? ⟨g, j, none⟩ = some (.int .u8 (b.toNat : Int))) : ∀ (j : Nat) (u : Value), (byV l)[j]? = some u → W.cell? ((⟨g, 0, none⟩ : Addr).add j) = some u := by
  intro j u hj
  unfold byV at hj
  rw [List.getElem?_map] at hj
  obtain ⟨b, hb, rfl⟩ := Option.map_eq_some_iff.1 hj
  have e : (⟨g, 0, none⟩ : Addr).add j = ⟨g, j, none⟩ := by unfold Addr.add; split <;> simp_all
  rw [e]
  exact h j b hb
theorem byV_one (l : List UInt8) : ∀ u ∈ byV l, u.oneCell' = true := by
  intro u hu
  unfold byV at hu
  obtain ⟨b, _, rfl⟩ := List.mem_map.1 hu
  rfl
theorem rprint139 (R B no q qc : Nat) (v : Int) (nm : ByteArray) (hnm : nm = ⟨#[114, 116, 46, 112, 114, 105, 110, 116]⟩) (r : Rq) (ox : List Value) (w : World) (hR : Rqb w R r) (hO : w.ownsRow B 5 1 r.ov no ox) (hB : B ≤ w.heap.size) (hno : no ≤ 1000000000) (h64 : I64 v) (vs : List Value) (hq : Bk w q 2 vs) (hv : vs[0]? = some (.int .i64 v)) : Calls Tryz.prog 139 #[.pointer (some ⟨R, 0, none⟩), .string nm, .slice (some ⟨q, 0, none⟩) 1 qc] w fun e w' => e = .returned (.int .i64 0) ∧ ∃ ov, Rqb w' R { r with ov := ov } ∧ w'.ownsRow B 5 1 ov (no + (Lib.itoa v).length + 1) (ox ++ (Lib.byteCells (Lib.itoa v) ++ [.int .u8 10])) ∧ Onl (fun b => b = R ∨ r.ov.ownBlock = some b) w w' := by
  subst hnm
  have hL := itoa_len v h64.1 h64.2
  have HC : Hid (∀ W, Calls Tryz.prog 80 #[.int .i64 v] W (ToldB W (Lib.itoa v))) := fun W => digits80 v W h64.1 h64.2
  obtain ⟨i5, AN⟩ := info5'
  have AN : Hid (Tryz.prog.info? 5 = some i5 ∧ i5.zero = some (.int .u8 0) ∧ i5.size = 1 ∧ i5.bytes = 1) := AN
  have HR : Hid (Rqb w R r) := hR
  have HO : Hid (w.ownsRow B 5 1 r.ov no ox) := hO
  have HL0 : Hid (0 < (Lib.itoa v).length) := by
    show 0 < _
    unfold Lib.itoa
    have : ∀ n, 0 < (Lib.decDigits n).length := fun n => by
      rw [Lib.decDigits]
      split <;> simp
    split <;> first | exact this _ | simp
  have HH : Hid (no + (Lib.itoa v).length ≤ 1000000064 ∧ B ≤ w.heap.size) := ⟨by omega, hB⟩
  have r7 := hR.cell (j := 7) (v := r.ov) rfl
  have z7 := hR.fz 7
  have lR := hR.lt
  have HQ : Hid (Bk w q 2 vs ∧ vs[0]? = some (.int .i64 v)) := ⟨hq, hv⟩
  have ha := hq.cell hv
  have n1 : ¬ q = R := hq.ne hR (by decide)
  have n2 : ¬ R = q := fun e => n1 e.symm
  have lq := hq.lt
  clear hR hO hB hno hL h64 hq hv
  generalize Lib.itoa v = L at *
  go_enter Tryz.func139, Tryz.ntmps139
  go_wp2
  have HOb : Hid (∀ W, Below w.heap.size w W → W.ownsRow B 5 1 r.ov no ox) := fun W hW => own_keep HO.out (fun b hb => hW.block b (own_lt HO.out hb))
  have HRb : Hid (∀ W, Below w.heap.size w W → W.cell? ⟨R, 7, none⟩ = some r.ov ∧ W.cell? ⟨q, 0, none⟩ = some (.int .i64 v)) := fun W hW => ⟨(HR.out.below hW).cell (j := 7) rfl, (HQ.out.1.below hW).cell HQ.out.2⟩
  clear z7
  have HTen : Hid (∀ W : World, (W.alloc (.cells #[.int .u8 10] 5)).cell? ⟨W.heap.size, 0, none⟩ = some (.int .u8 10)) := fun W => by go_simp
  have HNR : Hid (∀ b, r.ov.ownBlock = some b → b < w.heap.size ∧ b ≠ R ∧ b ≠ q) := fun b hb => ⟨own_lt HO.out hb, fun e => own_ne HO.out HR.out (by decide) (e ▸ hb), fun e => own_ne HO.out HQ.out.1 (by decide) (e ▸ hb)⟩
  go_region_law
    (first
      | (go_simp; go_at_call 80; refine (HC.out _).mono ?_; rintro e w2 ⟨gd, cd, rfl, hcl, hb⟩; have hb0 : Below w.heap.size w w2 := (by first | exact hb | exact (Below.refl _ _).drew.trans hb | exact ((Below.refl w.heap.size w).alloc (Nat.le_refl _) _).trans (hb.mono (by simp)) | exact ((Below.refl w.heap.size w).drew.alloc (Nat.le_refl _) _).trans (hb.mono (by simp))); have HD2 : Hid (∀ (j : Nat) (b : UInt8), L[j]? = some b → w2.cell? ⟨gd, j, none⟩ = some (.int .u8 (b.toNat : Int))) := hcl; have HB2 : Hid (Below w.heap.size w w2) := hb0; have HT2 : Hid (∀ X u, X < _ → World.cell? _ ⟨X, 0, none⟩ = some u → w2.cell? ⟨X, 0, none⟩ = some u) := fun X u hX h => (World.cell?_of_block (hb.block X hX)).trans h; obtain ⟨q7, qa⟩ := HRb.out w2 hb0; have l2R : R < w2.heap.size := Nat.lt_of_lt_of_le lR hb0.size; have l2q : q < w2.heap.size := Nat.lt_of_lt_of_le lq hb0.size; clear hcl hb hb0)
      | (refine step_append_lies _ rfl (.tmp 20) (.tmp 21) 33 rfl B 5 i5 (.int .u8 0) 1 1 Tryz.underlying33 AN.out.1 AN.out.2.1 AN.out.2.2.1 AN.out.2.2.2 rfl (by decide) (.slice (some ⟨g1, 0, none⟩) (no + L.length) cap1) (no + L.length) (ox ++ byV L) rfl (by first | exact HZ3.out.2 | exact own_keep HZ3.out.2 (fun b hb => ((Below.refl w3.heap.size w3).alloc (Nat.le_refl _) _).block b (own_lt HZ3.out.2 hb))) _ 1 1 [.int .u8 10] rfl rfl (one_at (by first | exact HTen.out _ | exact HT4.out _ _ HB2.out.size (by simp) (HTen.out _) | exact HT4.out _ _ (Nat.le_refl _) (World.block_lt_of_cell? _ _ (HT2.out _ _ (by simp) (HTen.out _))) (HT2.out _ _ (by simp) (HTen.out _)))) (by intro u hu; simp at hu; subst hu; rfl) (by decide) (by unfold maxLen; have := HH.out.1; omega) (by have := HH.out.1; omega) (by have := HH.out.2; have := HZ3.out.1.size; simp; omega) _ rfl ?_; intro g2 cap2 w4 hown hgrow hat hl4; have s2 : Onl (fun b => b = g1) w3 w4 := (by first | exact (onl_grown hgrow).mono (fun b e => by cases e; rfl) | exact ((Onl.of_below (Below.refl _ w3)).alloc _).trans ((onl_grown hgrow).mono (fun b e => by cases e; rfl))); have HZ4 : Hid (w4.ownsRow B 5 1 (.slice (some ⟨g2, 0, none⟩) (no + L.length + 1) cap2) (no + L.length + 1) (ox ++ byV L ++ [.int .u8 10]) ∧ Onl (fun b => r.ov.ownBlock = some b) w w4 ∧ (some g1 = some g2 ∨ w.heap.size ≤ g2)) := ⟨hown, ⟨s2.os.trans HZ3.out.1.os, s2.tape.trans HZ3.out.1.tape, s2.output.trans HZ3.out.1.output, Nat.le_trans HZ3.out.1.size s2.size, fun k hk hx => (s2.block k (Nat.lt_of_lt_of_le hk HZ3.out.1.size) (fun e => by subst e; rcases HG3.out with h | h; exact hx h; omega)).trans (HZ3.out.1.block k hk hx)⟩, (by rcases hat with h | h; exact .inl h; (have := HZ3.out.1.size; first | exact .inr (by omega) | exact .inr (by simp at h; omega)))⟩; have t7 := (HR.out.onl HZ4.out.2.1 (fun e => (HNR.out _ e).2.1 rfl)).cell (j := 7) (v := r.ov) rfl; have y7 := (HR.out.onl HZ4.out.2.1 (fun e => (HNR.out _ e).2.1 rfl)).fz 7; have ta := (HQ.out.1.onl HZ4.out.2.1 (fun e => (HNR.out _ e).2.2 rfl)).cell HQ.out.2; clear hown hgrow hat s2)
      | (refine step_append_lies _ rfl (.tmp 15) (.tmp 19) 33 rfl B 5 i5 (.int .u8 0) 1 1 Tryz.underlying33 AN.out.1 AN.out.2.1 AN.out.2.2.1 AN.out.2.2.2 rfl (by decide) r.ov no ox rfl (by first | exact HOb.out _ HB2.out | exact HOb.out _ (HB2.out.alloc HB2.out.size _)) ⟨gd, 0, none⟩ L.length cd (byV L) rfl (by simp [byV]) (by first | exact by_at HD2.out | exact by_at (fun j b h => (World.cell?_of_block (((Below.refl w2.heap.size w2).alloc (Nat.le_refl _) _).block gd (World.block_lt_of_cell? _ _ (HD2.out j b h)))).trans (HD2.out j b h))) (byV_one L) HL0.out (by unfold maxLen; have := HH.out.1; omega) (by have := HH.out.1; omega) (by have := HH.out.2; have := HB2.out.size; simp; omega) _ rfl ?_; intro g1 cap1 w3 hown hgrow hat hl3; have HZ3 : Hid (Onl (fun b => r.ov.ownBlock = some b) w w3 ∧ w3.ownsRow B 5 1 (.slice (some ⟨g1, 0, none⟩) (no + L.length) cap1) (no + L.length) (ox ++ byV L)) := (by refine ⟨?_, hown⟩; (first | exact (Onl.of_below HB2.out).trans (onl_grown hgrow) | exact (Onl.of_below (HB2.out.alloc HB2.out.size _)).trans (onl_grown hgrow))); have HG3 : Hid (r.ov.ownBlock = some g1 ∨ w.heap.size ≤ g1) := (by rcases hat with h | h; exact .inl h; (have := HB2.out.size; first | exact .inr (by omega) | exact .inr (by simp at h; omega))); have HT4 : Hid (∀ X u, w.heap.size ≤ X → X < _ → World.cell? _ ⟨X, 0, none⟩ = some u → w3.cell? ⟨X, 0, none⟩ = some u) := fun X u h0 hX h => (World.cell?_of_block (hgrow.block X hX (fun e => by have := (HNR.out X e.symm).1; omega))).trans h; have u7 := (HR.out.onl HZ3.out.1 (fun e => (HNR.out _ e).2.1 rfl)).cell (j := 7) (v := r.ov) rfl; have ua := (HQ.out.1.onl HZ3.out.1 (fun e => (HNR.out _ e).2.2 rfl)).cell HQ.out.2; clear hown hgrow hat))
  all_goals (
    go_wp2
    go_ret
    have hR4 : Rqb w4 R r := HR.out.onl HZ4.out.2.1 (fun e => (HNR.out _ e).2.1 rfl)
    refine ⟨rfl, .slice (some ⟨g2, 0, none⟩) (no + L.length + 1) cap2, hR4.set 7 _, ?_, (HZ4.out.2.1.mono fun b h => .inr h).set (S := fun b => b = R ∨ r.ov.ownBlock = some b) (b := R) (.inl rfl)⟩
    rw [← List.append_assoc]
    exact own_set HZ4.out.1 (own_ne HZ4.out.1 hR4 (by decide)))
end
end Go.Proofs.YtdppoblbenbafaaGreatDoor
