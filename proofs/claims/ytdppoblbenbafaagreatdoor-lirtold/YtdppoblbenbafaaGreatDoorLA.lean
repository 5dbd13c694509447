/- The document's own digits. The document's own text of a number. A region that draws, whose callees may do what they like above the heap's end. -/
import Derived.Test.YtdppoblbenbafaaGreatDoorKA
import Derived.Test.YtdppoblbenbafaaGreatDoorJY
import Derived.Test.YtdppoblbenbafaaGreatDoorCA
import Derived.Lib.LazyBuf
import Derived.Laws.IdiomCopy
import Derived.Sort.OwnSortedInts
namespace Go.Proofs.YtdppoblbenbafaaGreatDoor
section
open Go.RowKit Go.Shelf
set_option maxHeartbeats 8000000
/-- Bytes as cells. -/
def byV (l : List UInt8) : List Value := l.map fun b => .int .u8 (b.toNat : Int)
theorem byV_app (a b : List UInt8) : byV (a ++ b) = byV a ++ byV b := by simp [byV]
theorem byV_len (a : List UInt8) : (byV a).length = a.length := by simp [byV]
/-- The digits of a number; none of 0. -/
def dgs (u : Nat) : List UInt8 := if u = 0 then [] else Lib.decDigits u
theorem dgs_step {u : Nat} (h : 0 < u) : dgs u = dgs (u / 10) ++ [UInt8.ofNat (48 + u % 10)] := by
  unfold dgs
  rw [if_neg (by omega)]
  by_cases h1 : u < 10
  · rw [if_pos (by omega), Lib.decDigits, dif_pos h1, show u % 10 = u by omega]
    rfl
  · rw [if_neg (by omega), Lib.decDigits, dif_neg h1]
theorem dgs_zero : dgs 0 = [] := rfl
/-- Bytes that a function has told. -/
def ToldB (w : World) (l : List UInt8) (e : Ending) (w' : World) : Prop := ∃ g c, e = .returned (.slice (some ⟨g, 0, none⟩) l.length c) ∧ (∀ (j : Nat) (b : UInt8), l[j]? = some b → w'.cell? ⟨g, j, none⟩ = some (.int .u8 (b.toNat : Int))) ∧ Below w.heap.size w w'
theorem own_cells {w : World} {base : Nat} {l : List UInt8} {g c : Nat} (h : w.ownsRow base 5 1 (.slice (some ⟨g, 0, none⟩) l.length c) l.length (byV l)) (j : Nat) (b : UInt8) (hj : l[j]? = some b) : w.cell? ⟨g, j, none⟩ = some (.int .u8 (b.toNat : Int)) := by
  rw [h.cellAt j (by have := (List.getElem?_eq_some_iff.1 hj).1; omega)]
  unfold byV
  rw [List.getElem?_map, hj]
  rfl
theorem pow_len {u k M : Nat} (hu : 0 < u) (h : u * 10 ^ k ≤ M) (hM : M < 18446744073709551616) : k ≤ 20 := by
  apply Classical.byContradiction
  intro hk
  have h1 : 10 ^ 21 ≤ 10 ^ k := Nat.pow_le_pow_right (by omega) (by omega)
  have h2 : 10 ^ k ≤ u * 10 ^ k := Nat.le_mul_of_pos_left _ hu
  have h3 : (10 : Nat) ^ 21 = 1000000000000000000000 := by decide
  omega
set_option maxRecDepth 20000 in
theorem digits80 (n : Int) (w : World) (h0 : -9223372036854775808 ≤ n) (h1 : n ≤ 9223372036854775807) : Calls Tryz.prog 80 #[.int .i64 n] w (ToldB w (Lib.itoa n)) := by
  by_cases hz : n = 0
  · subst hz
    have hi : Lib.itoa 0 = [48] := by simp [Lib.itoa, Lib.decDigits]
    rw [hi]
    have HB : Hid (∀ o, Below w.heap.size w (w.alloc o)) := fun o => ((G.refl w).alloc o).below
    go_enter Tryz.func80, Tryz.ntmps80
    go_wp2
    go_ret
    refine ⟨_, _, rfl, fun j b hj => ?_, HB.out _⟩
    match j, hj with
    | 0, hj => cases hj; go_simp
    | j + 1, hj => simp at hj
  · have q0 : (n == 0) = false := by simpa using hz
    obtain ⟨M, hM⟩ : ∃ M : Nat, M = n.natAbs := ⟨_, rfl⟩
    have hM1 : 0 < M := by omega
    have hM2 : M < 18446744073709551616 := by omega
    have HI : Hid (Lib.itoa n = (if n < 0 then [45] else []) ++ dgs M) := by
      show _ = _
      unfold Lib.itoa dgs
      rw [if_neg (show ¬ M = 0 by omega)]
      by_cases hn : n < 0
      · rw [if_pos hn, if_pos hn, hM]; rfl
      · rw [if_neg hn, if_neg hn, show n.toNat = M by omega]; rfl
    generalize Lib.itoa n = L at *
    obtain ⟨i5, AN⟩ := info5'
    have AN : Hid (Tryz.prog.info? 5 = some i5 ∧ i5.zero = some (.int .u8 0) ∧ i5.size = 1 ∧ i5.bytes = 1) := AN
    have HNo : Hid (w.ownsRow w.heap.size 5 1 (.slice none 0 0) ([] : List UInt8).length (byV [])) := World.ownsRow_nil _ _ _ _
    have HMh : Hid (M = n.natAbs ∧ 0 < M ∧ M < 18446744073709551616) := ⟨hM, hM1, hM2⟩
    by_cases hn : n < 0
    · obtain ⟨X, hX⟩ : ∃ X, X = n + 18446744073709551616 := ⟨_, rfl⟩
      have hw : IntKind.u64.wrap n = X := by rw [wrapU]; omega
      have hw2 : IntKind.u64.wrap (-X) = (M : Int) := by rw [wrapU]; omega
      clear hX
      clear hM hM1 hM2 h0 hz
      go_enter Tryz.func80, Tryz.ntmps80
      go_wp2
      go_loopw [3, 4] (fun v u wx => ∃ (k : Nat) (bk : List UInt8), u = .int .u64 k ∧ wx.ownsRow w.heap.size 5 1 v bk.length (byV bk) ∧ Below w.heap.size w wx ∧ dgs M = dgs k ++ bk.reverse ∧ k * 10 ^ bk.length ≤ M ∧ bk.length ≤ 21) (fun _ u _ => (intOf u).toNat)
      case atStart => exact ⟨M, [], rfl, HNo.out, Below.refl _ _, by simp, by simp, by simp⟩
      case round =>
        obtain ⟨k, bk, rfl, ho, hb, hd, hp, hq⟩ := hrel
        have HQ : Hid (bk.length ≤ 21) := hq
        have HO : Hid (wr.ownsRow w.heap.size 5 1 u3 bk.length (byV bk)) := ho
        have HB : Hid (Below w.heap.size w wr) := hb
        have HD : Hid (dgs M = dgs k ++ bk.reverse) := hd
        have HP : Hid (k * 10 ^ bk.length ≤ M) := hp
        clear ho hb hd hp hq
        by_cases hk : 0 < k
        · have hkm : k < 18446744073709551616 := by
            have t1 := HP.out
            have t2 : k ≤ k * 10 ^ bk.length := Nat.le_mul_of_pos_right _ (Nat.pow_pos (by omega))
            have := HMh.out.2.2
            omega
          have HL : Hid (bk.length ≤ 20) := pow_len hk HP.out HMh.out.2.2
          have HST : Hid (dgs M = dgs (k / 10) ++ (bk ++ [UInt8.ofNat (48 + k % 10)]).reverse) := by
            show _ = _
            rw [HD.out, dgs_step hk]
            simp
          have HPT : Hid (k / 10 * 10 ^ (bk.length + 1) ≤ M) := by
            show _ ≤ _
            refine Nat.le_trans ?_ HP.out
            rw [Nat.pow_succ, Nat.mul_comm (10 ^ bk.length) 10, ← Nat.mul_assoc]
            exact Nat.mul_le_mul_right _ (by omega)
          have HBv : Hid ([Value.int .u8 (48 + (k : Int) % 10)] = byV [UInt8.ofNat (48 + k % 10)]) := by
            show _ = _
            have : (48 + k % 10) % 256 = 48 + k % 10 := by omega
            simp [byV, this]
          go_wp2_with (at_builtin; refine wpList_append_own _ rfl _ _ 33 rfl w.heap.size 5 i5 (.int .u8 0) 1 1 Tryz.underlying33 AN.out.1 AN.out.2.1 AN.out.2.2.1 AN.out.2.2.2 rfl (by decide) _ _ _ rfl (HO.out.alloc _) ⟨wr.heap.size, 0, none⟩ 1 1 [.int .u8 (48 + (k : Int) % 10)] rfl (by rfl) (by intro j q hj; cases j with | zero => cases hj; exact new_one _ _ _ | succ j => cases hj) (by intro q hq; simp at hq; subst hq; rfl) (by unfold maxLen; have := HL.out; omega) (by have := HL.out; omega) (by have := HB.out.size; simp; omega) ?_)
          rintro v2 w2 ho2 hg2 _
          have ho3 : w2.ownsRow w.heap.size 5 1 v2 (bk ++ [UInt8.ofNat (48 + k % 10)]).length (byV (bk ++ [UInt8.ofNat (48 + k % 10)])) := by
            rw [byV_app, ← HBv.out]
            simpa using ho2
          have HO2 : Hid (w2.ownsRow w.heap.size 5 1 v2 (bk ++ [UInt8.ofNat (48 + k % 10)]).length (byV (bk ++ [UInt8.ofNat (48 + k % 10)]))) := ho3
          have HB2 : Hid (Below w.heap.size w w2) := below_grown (Nat.le_refl _) (HB.out.alloc HB.out.size _) hg2 (fun g hg => own_base HO.out hg)
          clear ho2 ho3 hg2
          go_wp2
          go_round
          case rel => exact ⟨k / 10, bk ++ [UInt8.ofNat (48 + k % 10)], by simp, HO2.out, HB2.out, HST.out, by simpa using HPT.out, by simp; have := HL.out; omega⟩
          case measure => simp [intOf]; omega
        · obtain rfl : k = 0 := by omega
          have HBK : Hid (dgs M = bk.reverse) := by show _ = _; rw [HD.out, dgs_zero]; rfl
          have hbk : 0 < bk.length := by
            have t : (dgs M).length = bk.length := by rw [HBK.out]; simp
            rw [dgs_step HMh.out.2.1] at t
            simp at t
            omega
          have HBl : Hid (bk.length ≤ 40) := Nat.le_trans HQ.out (by omega)
          obtain ⟨g, cap, hu3⟩ : ∃ g cap, u3 = .slice (some ⟨g, 0, none⟩) bk.length cap := by
            obtain ⟨_, ⟨_, hz⟩ | ⟨g, cap, cur, e, _⟩⟩ := HO.out
            · omega
            · exact ⟨g, cap, e⟩
          subst hu3
          have HCs : Hid (∀ (j : Nat) (b : UInt8), bk[j]? = some b → wr.cell? ⟨g, j, none⟩ = some (.int .u8 (b.toNat : Int))) := own_cells HO.out
          obtain ⟨bl, hbl⟩ : ∃ bl, bl = bk.length := ⟨_, rfl⟩
          have HBL : Hid (bl = bk.length) := hbl
          have hbl1 : 0 < bl := by omega
          have hbl2 : bl ≤ 40 := by have := HBl.out; omega
          rw [← hbl]
          clear hbl hbk HO HD HP
          generalize wr = V at *
          have HNo2 : Hid (V.ownsRow V.heap.size 5 1 (.slice none 0 0) ([] : List UInt8).length (byV [])) := World.ownsRow_nil _ _ _ _
          have HL2 : Hid (L = [45] ++ bk.reverse) := by show _ = _; rw [HI.out, if_pos hn, HBK.out]
          go_wp2_with (at_builtin; refine wpList_append_own _ rfl _ _ 33 rfl V.heap.size 5 i5 (.int .u8 0) 1 1 Tryz.underlying33 AN.out.1 AN.out.2.1 AN.out.2.2.1 AN.out.2.2.2 rfl (by decide) _ _ _ rfl (HNo2.out.alloc _) ⟨V.heap.size, 0, none⟩ 1 1 [.int .u8 45] rfl (by rfl) (by intro j q hj; cases j with | zero => cases hj; exact new_one _ _ _ | succ j => cases hj) (by intro q hq; simp at hq; subst hq; rfl) (by unfold maxLen; simp) (by simp) (by simp) ?_)
          rintro v1 w1 ho1 hg1 _
          have HO1 : Hid (w1.ownsRow V.heap.size 5 1 v1 [(45 : UInt8)].length (byV [45])) := by
            have : w1.ownsRow V.heap.size 5 1 v1 1 [.int .u8 45] := by simpa [byV] using ho1
            exact this
          have HB1 : Hid (Below V.heap.size V w1) := below_grown (Nat.le_refl _) (((G.refl V).alloc _).below) hg1 (fun g hg => own_base HNo2.out hg)
          clear ho1 hg1
          go_wp2
          go_loopw [5, 6] (fun v i wx => ∃ (k : Nat) (out : List UInt8), k ≤ bl ∧ i = .int .i64 ((k : Int) - 1) ∧ wx.ownsRow V.heap.size 5 1 v out.length (byV out) ∧ Below V.heap.size V wx ∧ L = out ++ (bk.take k).reverse ∧ out.length + k ≤ bl + 1) (fun _ i _ => (intOf i + 1).toNat)
          case atStart => exact ⟨bl, [45], Nat.le_refl _, by simp, HO1.out, HB1.out, by rw [HL2.out, List.take_of_length_le (by have := HBL.out; omega)], by simp; omega⟩
          case round =>
            obtain ⟨k, out, hk, rfl, ho, hb, hd, hp⟩ := hrel
            have HO : Hid (wr.ownsRow V.heap.size 5 1 u5 out.length (byV out)) := ho
            have HB3 : Hid (Below V.heap.size V wr) := hb
            have HD : Hid (L = out ++ (bk.take k).reverse) := hd
            have HP : Hid (out.length + k ≤ bl + 1) := hp
            clear ho hb hd hp
            by_cases hk0 : 0 < k
            · obtain ⟨b, hbj⟩ : ∃ b, bk[k - 1]? = some b := ⟨_, List.getElem?_eq_getElem (by have := HBL.out; omega)⟩
              have c0 := HCs.out (k - 1) b hbj
              have hgl : g < V.heap.size := World.block_lt_of_cell? _ _ c0
              rw [← HB3.out.cell (p := ⟨g, k - 1, none⟩) hgl] at c0
              have HS : Hid (L = (out ++ [b]) ++ (bk.take (k - 1)).reverse) := by
                show _ = _
                rw [HD.out, show bk.take k = bk.take (k - 1) ++ [b] by rw [show k = k - 1 + 1 by omega, List.take_add_one, hbj]; simp]
                simp
              obtain ⟨k1, hk1⟩ : ∃ k1, k = k1 + 1 := ⟨k - 1, by omega⟩
              subst hk1
              rw [show k1 + 1 - 1 = k1 by omega] at c0 HS
              have hki : ((k1 + 1 : Nat) : Int) - 1 = (k1 : Int) := by omega
              rw [hki]
              have hlt : g < wr.heap.size := World.block_lt_of_cell? _ _ c0
              clear hbj hki
              go_wp2_with (at_builtin; refine wpList_append_own _ rfl _ _ 33 rfl V.heap.size 5 i5 (.int .u8 0) 1 1 Tryz.underlying33 AN.out.1 AN.out.2.1 AN.out.2.2.1 AN.out.2.2.2 rfl (by decide) _ _ _ rfl (HO.out.alloc _) ⟨wr.heap.size, 0, none⟩ 1 1 [.int .u8 (b.toNat : Int)] rfl (by rfl) (by intro j q hj; cases j with | zero => cases hj; exact new_one _ _ _ | succ j => cases hj) (by intro q hq; simp at hq; subst hq; rfl) (by unfold maxLen; have := HP.out; omega) (by have := HP.out; omega) (by have := HB3.out.size; simp; omega) ?_)
              rintro v2 w2 ho2 hg2 _
              have ho3 : w2.ownsRow V.heap.size 5 1 v2 (out ++ [b]).length (byV (out ++ [b])) := by
                rw [byV_app]
                simpa [byV] using ho2
              have HO2 : Hid (w2.ownsRow V.heap.size 5 1 v2 (out ++ [b]).length (byV (out ++ [b]))) := ho3
              have HB4 : Hid (Below V.heap.size V w2) := below_grown (Nat.le_refl _) (HB3.out.alloc HB3.out.size _) hg2 (fun g hg => own_base HO.out hg)
              clear ho2 ho3 hg2 c0
              go_wp2
              refine ⟨?_, ?_⟩
              · exact ⟨k1, out ++ [b], by omega, by go_num, HO2.out, HB4.out, HS.out, by simp; have := HP.out; omega⟩
              · simp [intOf]; try omega
            · obtain rfl : k = 0 := by omega
              have HLo : Hid (L = out) := by show _ = _; rw [HD.out]; simp
              have hol : 0 < out.length := by
                have t : L.length = out.length := by rw [HLo.out]
                rw [HL2.out] at t
                simp at t
                have := HBL.out
                omega
              obtain ⟨g2, cap2, hu5⟩ : ∃ g2 cap2, u5 = .slice (some ⟨g2, 0, none⟩) out.length cap2 := by
                obtain ⟨_, ⟨_, hz⟩ | ⟨g2, cap2, cur, e, _⟩⟩ := HO.out
                · omega
                · exact ⟨g2, cap2, e⟩
              subst hu5
              have HCo : Hid (∀ (j : Nat) (b : UInt8), out[j]? = some b → wr.cell? ⟨g2, j, none⟩ = some (.int .u8 (b.toNat : Int))) := own_cells HO.out
              have HBz : Hid (Below w.heap.size w wr) := HB.out.trans (HB3.out.mono HB.out.size)
              clear hol
              generalize hoL : out.length = ol at *
              go_wp2
              go_ret
              refine ⟨g2, cap2, ?_, ?_, HBz.out⟩
              · rw [HLo.out, hoL]; rfl
              · rw [HLo.out]; exact HCo.out
    · have hw : IntKind.u64.wrap n = (M : Int) := by rw [wrapU]; omega
      clear hM hM1 hM2 h0 hz
      go_enter Tryz.func80, Tryz.ntmps80
      go_wp2
      go_loopw [3, 4] (fun v u wx => ∃ (k : Nat) (bk : List UInt8), u = .int .u64 k ∧ wx.ownsRow w.heap.size 5 1 v bk.length (byV bk) ∧ Below w.heap.size w wx ∧ dgs M = dgs k ++ bk.reverse ∧ k * 10 ^ bk.length ≤ M ∧ bk.length ≤ 21) (fun _ u _ => (intOf u).toNat)
      case atStart => exact ⟨M, [], rfl, HNo.out, Below.refl _ _, by simp, by simp, by simp⟩
      case round =>
        obtain ⟨k, bk, rfl, ho, hb, hd, hp, hq⟩ := hrel
        have HQ : Hid (bk.length ≤ 21) := hq
        have HO : Hid (wr.ownsRow w.heap.size 5 1 u3 bk.length (byV bk)) := ho
        have HB : Hid (Below w.heap.size w wr) := hb
        have HD : Hid (dgs M = dgs k ++ bk.reverse) := hd
        have HP : Hid (k * 10 ^ bk.length ≤ M) := hp
        clear ho hb hd hp hq
        by_cases hk : 0 < k
        · have hkm : k < 18446744073709551616 := by
            have t1 := HP.out
            have t2 : k ≤ k * 10 ^ bk.length := Nat.le_mul_of_pos_right _ (Nat.pow_pos (by omega))
            have := HMh.out.2.2
            omega
          have HL : Hid (bk.length ≤ 20) := pow_len hk HP.out HMh.out.2.2
          have HST : Hid (dgs M = dgs (k / 10) ++ (bk ++ [UInt8.ofNat (48 + k % 10)]).reverse) := by
            show _ = _
            rw [HD.out, dgs_step hk]
            simp
          have HPT : Hid (k / 10 * 10 ^ (bk.length + 1) ≤ M) := by
            show _ ≤ _
            refine Nat.le_trans ?_ HP.out
            rw [Nat.pow_succ, Nat.mul_comm (10 ^ bk.length) 10, ← Nat.mul_assoc]
            exact Nat.mul_le_mul_right _ (by omega)
          have HBv : Hid ([Value.int .u8 (48 + (k : Int) % 10)] = byV [UInt8.ofNat (48 + k % 10)]) := by
            show _ = _
            have : (48 + k % 10) % 256 = 48 + k % 10 := by omega
            simp [byV, this]
          go_wp2_with (at_builtin; refine wpList_append_own _ rfl _ _ 33 rfl w.heap.size 5 i5 (.int .u8 0) 1 1 Tryz.underlying33 AN.out.1 AN.out.2.1 AN.out.2.2.1 AN.out.2.2.2 rfl (by decide) _ _ _ rfl (HO.out.alloc _) ⟨wr.heap.size, 0, none⟩ 1 1 [.int .u8 (48 + (k : Int) % 10)] rfl (by rfl) (by intro j q hj; cases j with | zero => cases hj; exact new_one _ _ _ | succ j => cases hj) (by intro q hq; simp at hq; subst hq; rfl) (by unfold maxLen; have := HL.out; omega) (by have := HL.out; omega) (by have := HB.out.size; simp; omega) ?_)
          rintro v2 w2 ho2 hg2 _
          have ho3 : w2.ownsRow w.heap.size 5 1 v2 (bk ++ [UInt8.ofNat (48 + k % 10)]).length (byV (bk ++ [UInt8.ofNat (48 + k % 10)])) := by
            rw [byV_app, ← HBv.out]
            simpa using ho2
          have HO2 : Hid (w2.ownsRow w.heap.size 5 1 v2 (bk ++ [UInt8.ofNat (48 + k % 10)]).length (byV (bk ++ [UInt8.ofNat (48 + k % 10)]))) := ho3
          have HB2 : Hid (Below w.heap.size w w2) := below_grown (Nat.le_refl _) (HB.out.alloc HB.out.size _) hg2 (fun g hg => own_base HO.out hg)
          clear ho2 ho3 hg2
          go_wp2
          go_round
          case rel => exact ⟨k / 10, bk ++ [UInt8.ofNat (48 + k % 10)], by simp, HO2.out, HB2.out, HST.out, by simpa using HPT.out, by simp; have := HL.out; omega⟩
          case measure => simp [intOf]; omega
        · obtain rfl : k = 0 := by omega
          have HBK : Hid (dgs M = bk.reverse) := by show _ = _; rw [HD.out, dgs_zero]; rfl
          have hbk : 0 < bk.length := by
            have t : (dgs M).length = bk.length := by rw [HBK.out]; simp
            rw [dgs_step HMh.out.2.1] at t
            simp at t
            omega
          have HBl : Hid (bk.length ≤ 40) := Nat.le_trans HQ.out (by omega)
          obtain ⟨g, cap, hu3⟩ : ∃ g cap, u3 = .slice (some ⟨g, 0, none⟩) bk.length cap := by
            obtain ⟨_, ⟨_, hz⟩ | ⟨g, cap, cur, e, _⟩⟩ := HO.out
            · omega
            · exact ⟨g, cap, e⟩
          subst hu3
          have HCs : Hid (∀ (j : Nat) (b : UInt8), bk[j]? = some b → wr.cell? ⟨g, j, none⟩ = some (.int .u8 (b.toNat : Int))) := own_cells HO.out
          obtain ⟨bl, hbl⟩ : ∃ bl, bl = bk.length := ⟨_, rfl⟩
          have HBL : Hid (bl = bk.length) := hbl
          have hbl1 : 0 < bl := by omega
          have hbl2 : bl ≤ 40 := by have := HBl.out; omega
          rw [← hbl]
          clear hbl hbk HO HD HP
          generalize wr = V at *
          have HNo2 : Hid (V.ownsRow V.heap.size 5 1 (.slice none 0 0) ([] : List UInt8).length (byV [])) := World.ownsRow_nil _ _ _ _
          have HL2 : Hid (L = [] ++ bk.reverse) := by show _ = _; rw [HI.out, if_neg (by omega), HBK.out]
          go_wp2
          go_loopw [5, 6] (fun v i wx => ∃ (k : Nat) (out : List UInt8), k ≤ bl ∧ i = .int .i64 ((k : Int) - 1) ∧ wx.ownsRow V.heap.size 5 1 v out.length (byV out) ∧ Below V.heap.size V wx ∧ L = out ++ (bk.take k).reverse ∧ out.length + k ≤ bl + 1) (fun _ i _ => (intOf i + 1).toNat)
          case atStart => exact ⟨bl, [], Nat.le_refl _, by simp, HNo2.out, Below.refl _ _, by rw [HL2.out, List.take_of_length_le (by have := HBL.out; omega)], by simp⟩
          case round =>
            obtain ⟨k, out, hk, rfl, ho, hb, hd, hp⟩ := hrel
            have HO : Hid (wr.ownsRow V.heap.size 5 1 u5 out.length (byV out)) := ho
            have HB3 : Hid (Below V.heap.size V wr) := hb
            have HD : Hid (L = out ++ (bk.take k).reverse) := hd
            have HP : Hid (out.length + k ≤ bl + 1) := hp
            clear ho hb hd hp
            by_cases hk0 : 0 < k
            · obtain ⟨b, hbj⟩ : ∃ b, bk[k - 1]? = some b := ⟨_, List.getElem?_eq_getElem (by have := HBL.out; omega)⟩
              have c0 := HCs.out (k - 1) b hbj
              have hgl : g < V.heap.size := World.block_lt_of_cell? _ _ c0
              rw [← HB3.out.cell (p := ⟨g, k - 1, none⟩) hgl] at c0
              have HS : Hid (L = (out ++ [b]) ++ (bk.take (k - 1)).reverse) := by
                show _ = _
                rw [HD.out, show bk.take k = bk.take (k - 1) ++ [b] by rw [show k = k - 1 + 1 by omega, List.take_add_one, hbj]; simp]
                simp
              obtain ⟨k1, hk1⟩ : ∃ k1, k = k1 + 1 := ⟨k - 1, by omega⟩
              subst hk1
              rw [show k1 + 1 - 1 = k1 by omega] at c0 HS
              have hki : ((k1 + 1 : Nat) : Int) - 1 = (k1 : Int) := by omega
              rw [hki]
              have hlt : g < wr.heap.size := World.block_lt_of_cell? _ _ c0
              clear hbj hki
              go_wp2_with (at_builtin; refine wpList_append_own _ rfl _ _ 33 rfl V.heap.size 5 i5 (.int .u8 0) 1 1 Tryz.underlying33 AN.out.1 AN.out.2.1 AN.out.2.2.1 AN.out.2.2.2 rfl (by decide) _ _ _ rfl (HO.out.alloc _) ⟨wr.heap.size, 0, none⟩ 1 1 [.int .u8 (b.toNat : Int)] rfl (by rfl) (by intro j q hj; cases j with | zero => cases hj; exact new_one _ _ _ | succ j => cases hj) (by intro q hq; simp at hq; subst hq; rfl) (by unfold maxLen; have := HP.out; omega) (by have := HP.out; omega) (by have := HB3.out.size; simp; omega) ?_)
              rintro v2 w2 ho2 hg2 _
              have ho3 : w2.ownsRow V.heap.size 5 1 v2 (out ++ [b]).length (byV (out ++ [b])) := by
                rw [byV_app]
                simpa [byV] using ho2
              have HO2 : Hid (w2.ownsRow V.heap.size 5 1 v2 (out ++ [b]).length (byV (out ++ [b]))) := ho3
              have HB4 : Hid (Below V.heap.size V w2) := below_grown (Nat.le_refl _) (HB3.out.alloc HB3.out.size _) hg2 (fun g hg => own_base HO.out hg)
              clear ho2 ho3 hg2 c0
              go_wp2
              refine ⟨⟨_, _, _, _, _, _, _, _, _, _, _, _, _, ?_, rfl⟩, ?_⟩
              · exact ⟨k1, out ++ [b], by omega, by go_num, HO2.out, HB4.out, HS.out, by simp; have := HP.out; omega⟩
              · simp [intOf]; try omega
            · obtain rfl : k = 0 := by omega
              have HLo : Hid (L = out) := by show _ = _; rw [HD.out]; simp
              have hol : 0 < out.length := by
                have t : L.length = out.length := by rw [HLo.out]
                rw [HL2.out] at t
                simp at t
                have := HBL.out
                omega
              obtain ⟨g2, cap2, hu5⟩ : ∃ g2 cap2, u5 = .slice (some ⟨g2, 0, none⟩) out.length cap2 := by
                obtain ⟨_, ⟨_, hz⟩ | ⟨g2, cap2, cur, e, _⟩⟩ := HO.out
                · omega
                · exact ⟨g2, cap2, e⟩
              subst hu5
              have HCo : Hid (∀ (j : Nat) (b : UInt8), out[j]? = some b → wr.cell? ⟨g2, j, none⟩ = some (.int .u8 (b.toNat : Int))) := own_cells HO.out
              have HBz : Hid (Below w.heap.size w wr) := HB.out.trans (HB3.out.mono HB.out.size)
              clear hol
              generalize hoL : out.length = ol at *
              go_wp2
              go_ret
              refine ⟨g2, cap2, ?_, ?_, HBz.out⟩
              · rw [HLo.out, hoL]; rfl
              · rw [HLo.out]; exact HCo.out
end
section
open Go.RowKit Go.Shelf
set_option maxHeartbeats 4000000
theorem num36 (n : Int) (w : World) (h0 : -9223372036854775808 ≤ n) (h1 : n ≤ 9223372036854775807) : Calls Tryz.prog 36 #[.int .i64 n] w fun e w' => e = .returned (.string ⟨(Lib.itoa n).toArray⟩) ∧ Below w.heap.size w w' := by
  have HD : Hid (Calls Tryz.prog 80 #[.int .i64 n] w (ToldB w (Lib.itoa n))) := digits80 n w h0 h1
  clear h0 h1
  generalize Lib.itoa n = L at *
  go_enter Tryz.func36, Tryz.ntmps36
  go_wp2_with fail
  refine HD.out.mono ?_
  rintro e w1 ⟨g, c, rfl, hc, hb⟩
  have hcv : (convert 33 9 (.slice (some ⟨g, 0, none⟩) L.length c)).run Tryz.prog w1 = .ok (.string ⟨L.toArray⟩) w1 := run_convert_bytes_back _ 33 9 5 ⟨g, 0, none⟩ c L Tryz.underlying33 Tryz.underlying5 Tryz.underlying9 (fun j hj => by
    have t := hc j L[j] (List.getElem?_eq_getElem hj)
    rw [Addr.add_lit, Nat.zero_add]
    exact t)
  have HB : Hid (Below w.heap.size w w1) := hb
  clear hc hb
  go_wp2
  go_ret
  exact ⟨rfl, HB.out⟩
end
section
open Go.RowKit Go.Shelf
/-- A world that is as another one below its end. -/
structure Bw (w : World) where
  W : World
  h : Below w.heap.size w W
theorem wp_region_quiet_below {P : Program} {id : Nat} {Q : Exit → Act → World → Prop} {a : Act} {w : World} {l : List Oper} (hm : P.follows .mixedOrders = true) (hB : Region.lexB .any l.toArray = true)
    (h : wpQuiet P l.toArray (fun w' => ∃ p : Bw w, w' = p.W) (fun a' => ∀ w', (∃ p : Bw w, w' = p.W) → Q .normal a' w') l a) : (Code.region id l.toArray true).wp P Q a w :=
  wp_region_quiet (C := fun w' => ∃ p : Bw w, w' = p.W) hm hB ⟨⟨w.drew, drew_below w 1⟩, rfl⟩ (by simpa using h)
theorem Bw.cell {w : World} {b o : Nat} {v : Value} (hb : b < w.heap.size) (h : w.cell? ⟨b, o, none⟩ = some v) : ∀ p : Bw w, p.W.cell? ⟨b, o, none⟩ = some v := fun p => ((bcell p.h).1 b o hb).trans h
theorem Bw.to {w : World} {f : FuncId} {args : Array Value} {v : Value} {p : Bw w} (h : Calls Tryz.prog f args p.W fun e w' => e = .returned v ∧ Below p.W.heap.size p.W w') : Calls Tryz.prog f args p.W fun e w'' => e = .returned v ∧ ∃ q : Bw w, w'' = q.W :=
  h.mono fun _ w' ⟨he, hb⟩ => ⟨he, ⟨w', p.h.trans (hb.mono p.h.size)⟩, rfl⟩
theorem Bw.some (w : World) : Nonempty (Bw w) := ⟨⟨w, Below.refl _ _⟩⟩
end
end Go.Proofs.YtdppoblbenbafaaGreatDoor
