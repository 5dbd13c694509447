/- Walks of the document's texts. -/
import Derived.Test.YtndbkkldfinggaaDoorS9
import Derived.Test.YtndbkkldfinggaaDoorG0
namespace Go.Proofs.YtndbkkldfinggaaDoor
open Go.RowKit
theorem field74 (a b c d : Value) (W : World) : (Instr.field 74 (.agg #[a, b, c, d]) 0).run Tryd.prog W = .ok a W := by kernel_rfl
theorem letters (op : Int) (h1 : 1 ≤ op) (h2 : op ≤ 65) : (nth plL op = 85 → nth rlL op = 85) ∧ (nth plL op = 74 → nth rlL op = 74) ∧ (nth plL op = 73 → nth rlL op = 73 ∧ ¬ op = 4 ∧ ¬ (11 ≤ op ∧ op ≤ 17)) ∧ (nth plL op = 76 → nth rlL op = 73 ∧ (op = 4 ∨ 11 ≤ op ∧ op ≤ 17)) ∧ (nth plL op = 72 → nth rlL op = 72) ∧ (nth plL op = 87 → nth rlL op = 104) ∧ (nth plL op = 83 → nth rlL op = 83) ∧ (nth plL op = 66 → nth rlL op = 66) ∧ (nth plL op = 82 → nth rlL op = 82) ∧ (nth plL op = 78 → nth rlL op = 78) := by
  have t : ∀ k : Fin 65, (plL.getD k.val 0 = 85 → rlL.getD k.val 0 = 85) ∧ (plL.getD k.val 0 = 74 → rlL.getD k.val 0 = 74) ∧ (plL.getD k.val 0 = 73 → rlL.getD k.val 0 = 73 ∧ ¬ k.val = 3 ∧ ¬ (10 ≤ k.val ∧ k.val ≤ 16)) ∧ (plL.getD k.val 0 = 76 → rlL.getD k.val 0 = 73 ∧ (k.val = 3 ∨ 10 ≤ k.val ∧ k.val ≤ 16)) ∧ (plL.getD k.val 0 = 72 → rlL.getD k.val 0 = 72) ∧ (plL.getD k.val 0 = 87 → rlL.getD k.val 0 = 104) ∧ (plL.getD k.val 0 = 83 → rlL.getD k.val 0 = 83) ∧ (plL.getD k.val 0 = 66 → rlL.getD k.val 0 = 66) ∧ (plL.getD k.val 0 = 82 → rlL.getD k.val 0 = 82) ∧ (plL.getD k.val 0 = 78 → rlL.getD k.val 0 = 78) := by decide +kernel
  obtain ⟨t1, t2, t3, t4, t5, t6, t7, t8, t9, t10⟩ := t ⟨(op - 1).toNat, by omega⟩
  unfold nth
  rw [if_pos h1, if_pos h1]
  refine ⟨t1, t2, fun e => ?_, fun e => ?_, t5, t6, t7, t8, t9, t10⟩
  · obtain ⟨a, b, c⟩ := t3 e
    simp only at b c
    exact ⟨a, by omega, by omega⟩
  · obtain ⟨a, b⟩ := t4 e
    simp only at b
    exact ⟨a, by omega⟩
theorem c32 : (⟨#[32]⟩ : ByteArray) = tx [32] := rfl
theorem c44 : (⟨#[44]⟩ : ByteArray) = tx [44] := rfl
theorem c40 : (⟨#[40]⟩ : ByteArray) = tx [40] := rfl
theorem c41 : (⟨#[41]⟩ : ByteArray) = tx [41] := rfl
set_option maxRecDepth 20000 in
set_option maxHeartbeats 1000000 in
theorem text16_82 (op rd r1 r2 n : Int) (h : rightB op rd r1 r2 n = true) (hl : nth rlL op = 82) (w : World) (hp : Pow w) :
    Calls Tryd.prog 16 #[.agg #[.int .i64 op, .int .i64 rd, .int .i64 r1, .int .i64 r2, .int .i64 n]] w fun e w' => e = .returned (.tuple #[.string (tx (nameT op ++ 32 :: (regT rd ++ (44 :: (regT r1 ++ (44 :: regT r2)))))), .int .i64 0]) ∧ Below w.heap.size w w' := by
  have HP : Hid (Pow w) := hp
  have HR : Hid (rightB op rd r1 r2 n = true) := h
  have HL : Hid (nth rlL op = 82) := hl
  obtain ⟨⟨d0, d1⟩, ⟨a0, a1⟩, ⟨b0, b1⟩, ⟨n0, n1⟩⟩ := right_ranges h
  have z0 := name_len op
  have z1 := reg_size rd d0 d1
  have z2 := reg_size r1 a0 a1
  have z3 := reg_size r2 b0 b1
  have z4 := itoa_size n n0 n1
  rw [← tx_size] at z0
  have hfield := field74
  clear hp h hl
  go_enter Tryd.func16, Tryd.ntmps16
  go_wp2_with fail
  refine (right24 op rd r1 r2 n _).mono ?_
  rw [HR.out]
  rintro e w1 ⟨rfl, hb⟩
  obtain ⟨x0, x1, x2, x3, x4, x5⟩ := box5 w (.int .i64 op) (.int .i64 rd) (.int .i64 r1) (.int .i64 r2) (.int .i64 n) 23
  obtain ⟨c0, c1, c2, c3, c4, c5⟩ := keep5 (w := w) x5 hb x0 x1 x2 x3 x4
  have HB1 : Hid (Below w.heap.size w w1) := belowA hb
  clear hb x0 x1 x2 x3 x4 x5
  go_wp2_with fail
  refine (format36 n n0 n1 _ (HP.out.below HB1.out)).mono ?_
  rintro e w2 ⟨rfl, hb⟩
  obtain ⟨x0, x1, x2, x3, x4, x5⟩ := keep5 (w := w) c5 hb c0 c1 c2 c3 c4
  have HB2 : Hid (Below w.heap.size w w2) := HB1.out.trans (hb.mono (by omega))
  clear hb c0 c1 c2 c3 c4 c5 HB1
  go_wp2_with fail
  refine (name23 op _).mono ?_
  rintro e w3 ⟨rfl, hb⟩
  obtain ⟨c0, c1, c2, c3, c4, c5⟩ := keep5 (w := w) x5 hb x0 x1 x2 x3 x4
  have HB3 : Hid (Below w.heap.size w w3) := HB2.out.trans (hb.mono (by omega))
  clear hb x0 x1 x2 x3 x4 x5 HB2
  go_wp2_with fail
  refine (formOf37 op _).mono ?_
  rw [HL.out]
  rintro e w4 ⟨rfl, hb⟩
  obtain ⟨x0, x1, x2, x3, x4, x5⟩ := keep5 (w := w) c5 hb c0 c1 c2 c3 c4
  have HB4 : Hid (Below w.heap.size w w4) := HB3.out.trans (hb.mono (by omega))
  clear hb c0 c1 c2 c3 c4 c5 HB3
  go_wp2_with fail
  go_quiet ((go_at_call 38; exact Calls.quiet_of_same (x38 _ (by assumption) (by assumption) _)))
  go_wp2
  go_ret2
  refine ⟨ret_twoS ?_, below_drewN HB4.out _⟩
  simp only [c32, c44, tx_app]
  simp [List.append_assoc]
set_option maxRecDepth 20000 in
set_option maxHeartbeats 1000000 in
theorem text16_73a (op rd r1 r2 n : Int) (h : rightB op rd r1 r2 n = true) (hl : nth rlL op = 73) (o4 : ¬ op = 4) (o5 : op < 11) (w : World) (hp : Pow w) :
    Calls Tryd.prog 16 #[.agg #[.int .i64 op, .int .i64 rd, .int .i64 r1, .int .i64 r2, .int .i64 n]] w fun e w' => e = .returned (.tuple #[.string (tx (nameT op ++ 32 :: (regT rd ++ (44 :: (regT r1 ++ (44 :: Lib.itoa n)))))), .int .i64 0]) ∧ Below w.heap.size w w' := by
  have HP : Hid (Pow w) := hp
  have HR : Hid (rightB op rd r1 r2 n = true) := h
  have HL : Hid (nth rlL op = 73) := hl
  obtain ⟨⟨d0, d1⟩, ⟨a0, a1⟩, ⟨b0, b1⟩, ⟨n0, n1⟩⟩ := right_ranges h
  have z0 := name_len op
  have z1 := reg_size rd d0 d1
  have z2 := reg_size r1 a0 a1
  have z3 := reg_size r2 b0 b1
  have z4 := itoa_size n n0 n1
  rw [← tx_size] at z0
  have hfield := field74
  clear hp h hl
  go_enter Tryd.func16, Tryd.ntmps16
  go_wp2_with fail
  refine (right24 op rd r1 r2 n _).mono ?_
  rw [HR.out]
  rintro e w1 ⟨rfl, hb⟩
  obtain ⟨x0, x1, x2, x3, x4, x5⟩ := box5 w (.int .i64 op) (.int .i64 rd) (.int .i64 r1) (.int .i64 r2) (.int .i64 n) 23
  obtain ⟨c0, c1, c2, c3, c4, c5⟩ := keep5 (w := w) x5 hb x0 x1 x2 x3 x4
  have HB1 : Hid (Below w.heap.size w w1) := belowA hb
  clear hb x0 x1 x2 x3 x4 x5
  go_wp2_with fail
  refine (format36 n n0 n1 _ (HP.out.below HB1.out)).mono ?_
  rintro e w2 ⟨rfl, hb⟩
  obtain ⟨x0, x1, x2, x3, x4, x5⟩ := keep5 (w := w) c5 hb c0 c1 c2 c3 c4
  have HB2 : Hid (Below w.heap.size w w2) := HB1.out.trans (hb.mono (by omega))
  clear hb c0 c1 c2 c3 c4 c5 HB1
  go_wp2_with fail
  refine (name23 op _).mono ?_
  rintro e w3 ⟨rfl, hb⟩
  obtain ⟨c0, c1, c2, c3, c4, c5⟩ := keep5 (w := w) x5 hb x0 x1 x2 x3 x4
  have HB3 : Hid (Below w.heap.size w w3) := HB2.out.trans (hb.mono (by omega))
  clear hb x0 x1 x2 x3 x4 x5 HB2
  go_wp2_with fail
  refine (formOf37 op _).mono ?_
  rw [HL.out]
  rintro e w4 ⟨rfl, hb⟩
  obtain ⟨x0, x1, x2, x3, x4, x5⟩ := keep5 (w := w) c5 hb c0 c1 c2 c3 c4
  have HB4 : Hid (Below w.heap.size w w4) := HB3.out.trans (hb.mono (by omega))
  clear hb c0 c1 c2 c3 c4 c5 HB3
  go_wp2_with fail
  go_quiet ((go_at_call 38; exact Calls.quiet_of_same (x38 _ (by assumption) (by assumption) _)))
  go_wp2
  go_ret2
  refine ⟨ret_twoS ?_, below_drewN HB4.out _⟩
  simp only [c32, c44, tx_app]
  simp [List.append_assoc]
set_option maxRecDepth 20000 in
set_option maxHeartbeats 1000000 in
theorem text16_73b (op rd r1 r2 n : Int) (h : rightB op rd r1 r2 n = true) (hl : nth rlL op = 73) (o4 : ¬ op = 4) (o5 : 11 ≤ op) (o6 : ¬ op ≤ 17) (w : World) (hp : Pow w) :
    Calls Tryd.prog 16 #[.agg #[.int .i64 op, .int .i64 rd, .int .i64 r1, .int .i64 r2, .int .i64 n]] w fun e w' => e = .returned (.tuple #[.string (tx (nameT op ++ 32 :: (regT rd ++ (44 :: (regT r1 ++ (44 :: Lib.itoa n)))))), .int .i64 0]) ∧ Below w.heap.size w w' := by
  have HP : Hid (Pow w) := hp
  have HR : Hid (rightB op rd r1 r2 n = true) := h
  have HL : Hid (nth rlL op = 73) := hl
  obtain ⟨⟨d0, d1⟩, ⟨a0, a1⟩, ⟨b0, b1⟩, ⟨n0, n1⟩⟩ := right_ranges h
  have z0 := name_len op
  have z1 := reg_size rd d0 d1
  have z2 := reg_size r1 a0 a1
  have z3 := reg_size r2 b0 b1
  have z4 := itoa_size n n0 n1
  rw [← tx_size] at z0
  have hfield := field74
  have o7 : (op == 4) = false := by simpa using o4
  have o8 : decide (op ≤ 17) = false := by simpa using o6
  clear hp h hl
  go_enter Tryd.func16, Tryd.ntmps16
  go_wp2_with fail
  refine (right24 op rd r1 r2 n _).mono ?_
  rw [HR.out]
  rintro e w1 ⟨rfl, hb⟩
  obtain ⟨x0, x1, x2, x3, x4, x5⟩ := box5 w (.int .i64 op) (.int .i64 rd) (.int .i64 r1) (.int .i64 r2) (.int .i64 n) 23
  obtain ⟨c0, c1, c2, c3, c4, c5⟩ := keep5 (w := w) x5 hb x0 x1 x2 x3 x4
  have HB1 : Hid (Below w.heap.size w w1) := belowA hb
  clear hb x0 x1 x2 x3 x4 x5
  go_wp2_with fail
  refine (format36 n n0 n1 _ (HP.out.below HB1.out)).mono ?_
  rintro e w2 ⟨rfl, hb⟩
  obtain ⟨x0, x1, x2, x3, x4, x5⟩ := keep5 (w := w) c5 hb c0 c1 c2 c3 c4
  have HB2 : Hid (Below w.heap.size w w2) := HB1.out.trans (hb.mono (by omega))
  clear hb c0 c1 c2 c3 c4 c5 HB1
  go_wp2_with fail
  refine (name23 op _).mono ?_
  rintro e w3 ⟨rfl, hb⟩
  obtain ⟨c0, c1, c2, c3, c4, c5⟩ := keep5 (w := w) x5 hb x0 x1 x2 x3 x4
  have HB3 : Hid (Below w.heap.size w w3) := HB2.out.trans (hb.mono (by omega))
  clear hb x0 x1 x2 x3 x4 x5 HB2
  go_wp2_with fail
  refine (formOf37 op _).mono ?_
  rw [HL.out]
  rintro e w4 ⟨rfl, hb⟩
  obtain ⟨x0, x1, x2, x3, x4, x5⟩ := keep5 (w := w) c5 hb c0 c1 c2 c3 c4
  have HB4 : Hid (Below w.heap.size w w4) := HB3.out.trans (hb.mono (by omega))
  clear hb c0 c1 c2 c3 c4 c5 HB3
  go_wp2_with fail
  go_quiet ((go_at_call 38; exact Calls.quiet_of_same (x38 _ (by assumption) (by assumption) _)))
  go_wp2
  go_ret2
  refine ⟨ret_twoS ?_, below_drewN HB4.out _⟩
  simp only [c32, c44, tx_app]
  simp [List.append_assoc]
set_option maxRecDepth 20000 in
set_option maxHeartbeats 1000000 in
theorem text16_76a (rd r1 r2 n : Int) (h : rightB 4 rd r1 r2 n = true) (w : World) (hp : Pow w) :
    Calls Tryd.prog 16 #[.agg #[.int .i64 4, .int .i64 rd, .int .i64 r1, .int .i64 r2, .int .i64 n]] w fun e w' => e = .returned (.tuple #[.string (tx (nameT 4 ++ 32 :: (regT rd ++ (44 :: offT n r1)))), .int .i64 0]) ∧ Below w.heap.size w w' := by
  have HP : Hid (Pow w) := hp
  have HR : Hid (rightB 4 rd r1 r2 n = true) := h
  have HL : Hid (nth rlL 4 = 73) := (rfl : nth rlL 4 = 73)
  obtain ⟨⟨d0, d1⟩, ⟨a0, a1⟩, ⟨b0, b1⟩, ⟨n0, n1⟩⟩ := right_ranges h
  have z0 := name_len 4
  have z1 := reg_size rd d0 d1
  have z2 := reg_size r1 a0 a1
  have z3 := reg_size r2 b0 b1
  have z4 := itoa_size n n0 n1
  rw [← tx_size] at z0
  have hfield := field74
  clear hp h
  go_enter Tryd.func16, Tryd.ntmps16
  go_wp2_with fail
  refine (right24 4 rd r1 r2 n _).mono ?_
  rw [HR.out]
  rintro e w1 ⟨rfl, hb⟩
  obtain ⟨x0, x1, x2, x3, x4, x5⟩ := box5 w (.int .i64 4) (.int .i64 rd) (.int .i64 r1) (.int .i64 r2) (.int .i64 n) 23
  obtain ⟨c0, c1, c2, c3, c4, c5⟩ := keep5 (w := w) x5 hb x0 x1 x2 x3 x4
  have HB1 : Hid (Below w.heap.size w w1) := belowA hb
  clear hb x0 x1 x2 x3 x4 x5
  go_wp2_with fail
  refine (format36 n n0 n1 _ (HP.out.below HB1.out)).mono ?_
  rintro e w2 ⟨rfl, hb⟩
  obtain ⟨x0, x1, x2, x3, x4, x5⟩ := keep5 (w := w) c5 hb c0 c1 c2 c3 c4
  have HB2 : Hid (Below w.heap.size w w2) := HB1.out.trans (hb.mono (by omega))
  clear hb c0 c1 c2 c3 c4 c5 HB1
  go_wp2_with fail
  refine (name23 4 _).mono ?_
  rintro e w3 ⟨rfl, hb⟩
  obtain ⟨c0, c1, c2, c3, c4, c5⟩ := keep5 (w := w) x5 hb x0 x1 x2 x3 x4
  have HB3 : Hid (Below w.heap.size w w3) := HB2.out.trans (hb.mono (by omega))
  clear hb x0 x1 x2 x3 x4 x5 HB2
  go_wp2_with fail
  refine (formOf37 4 _).mono ?_
  rw [HL.out]
  rintro e w4 ⟨rfl, hb⟩
  obtain ⟨x0, x1, x2, x3, x4, x5⟩ := keep5 (w := w) c5 hb c0 c1 c2 c3 c4
  have HB4 : Hid (Below w.heap.size w w4) := HB3.out.trans (hb.mono (by omega))
  clear hb c0 c1 c2 c3 c4 c5 HB3
  go_wp2_with fail
  go_quiet ((go_at_call 38; exact Calls.quiet_of_same (x38 _ (by assumption) (by assumption) _)))
  go_wp2
  go_ret2
  refine ⟨ret_twoS ?_, below_drewN HB4.out _⟩
  simp only [c32, c44, c40, c41, tx_app]
  simp [offT, List.append_assoc]
set_option maxRecDepth 20000 in
set_option maxHeartbeats 1000000 in
theorem text16_76b (op rd r1 r2 n : Int) (h : rightB op rd r1 r2 n = true) (hl : nth rlL op = 73) (o4 : ¬ op = 4) (o5 : 11 ≤ op) (o6 : op ≤ 17) (w : World) (hp : Pow w) :
    Calls Tryd.prog 16 #[.agg #[.int .i64 op, .int .i64 rd, .int .i64 r1, .int .i64 r2, .int .i64 n]] w fun e w' => e = .returned (.tuple #[.string (tx (nameT op ++ 32 :: (regT rd ++ (44 :: offT n r1)))), .int .i64 0]) ∧ Below w.heap.size w w' := by
  have HP : Hid (Pow w) := hp
  have HR : Hid (rightB op rd r1 r2 n = true) := h
  have HL : Hid (nth rlL op = 73) := hl
  obtain ⟨⟨d0, d1⟩, ⟨a0, a1⟩, ⟨b0, b1⟩, ⟨n0, n1⟩⟩ := right_ranges h
  have z0 := name_len op
  have z1 := reg_size rd d0 d1
  have z2 := reg_size r1 a0 a1
  have z3 := reg_size r2 b0 b1
  have z4 := itoa_size n n0 n1
  rw [← tx_size] at z0
  have hfield := field74
  clear hp h hl
  go_enter Tryd.func16, Tryd.ntmps16
  go_wp2_with fail
  refine (right24 op rd r1 r2 n _).mono ?_
  rw [HR.out]
  rintro e w1 ⟨rfl, hb⟩
  obtain ⟨x0, x1, x2, x3, x4, x5⟩ := box5 w (.int .i64 op) (.int .i64 rd) (.int .i64 r1) (.int .i64 r2) (.int .i64 n) 23
  obtain ⟨c0, c1, c2, c3, c4, c5⟩ := keep5 (w := w) x5 hb x0 x1 x2 x3 x4
  have HB1 : Hid (Below w.heap.size w w1) := belowA hb
  clear hb x0 x1 x2 x3 x4 x5
  go_wp2_with fail
  refine (format36 n n0 n1 _ (HP.out.below HB1.out)).mono ?_
  rintro e w2 ⟨rfl, hb⟩
  obtain ⟨x0, x1, x2, x3, x4, x5⟩ := keep5 (w := w) c5 hb c0 c1 c2 c3 c4
  have HB2 : Hid (Below w.heap.size w w2) := HB1.out.trans (hb.mono (by omega))
  clear hb c0 c1 c2 c3 c4 c5 HB1
  go_wp2_with fail
  refine (name23 op _).mono ?_
  rintro e w3 ⟨rfl, hb⟩
  obtain ⟨c0, c1, c2, c3, c4, c5⟩ := keep5 (w := w) x5 hb x0 x1 x2 x3 x4
  have HB3 : Hid (Below w.heap.size w w3) := HB2.out.trans (hb.mono (by omega))
  clear hb x0 x1 x2 x3 x4 x5 HB2
  go_wp2_with fail
  refine (formOf37 op _).mono ?_
  rw [HL.out]
  rintro e w4 ⟨rfl, hb⟩
  obtain ⟨x0, x1, x2, x3, x4, x5⟩ := keep5 (w := w) c5 hb c0 c1 c2 c3 c4
  have HB4 : Hid (Below w.heap.size w w4) := HB3.out.trans (hb.mono (by omega))
  clear hb c0 c1 c2 c3 c4 c5 HB3
  go_wp2_with fail
  go_quiet ((go_at_call 38; exact Calls.quiet_of_same (x38 _ (by assumption) (by assumption) _)))
  go_wp2
  go_ret2
  refine ⟨ret_twoS ?_, below_drewN HB4.out _⟩
  simp only [c32, c44, c40, c41, tx_app]
  simp [offT, List.append_assoc]
set_option maxRecDepth 20000 in
set_option maxHeartbeats 1000000 in
theorem text16_72 (op rd r1 r2 n : Int) (h : rightB op rd r1 r2 n = true) (hl : nth rlL op = 72) (w : World) (hp : Pow w) :
    Calls Tryd.prog 16 #[.agg #[.int .i64 op, .int .i64 rd, .int .i64 r1, .int .i64 r2, .int .i64 n]] w fun e w' => e = .returned (.tuple #[.string (tx (nameT op ++ 32 :: (regT rd ++ (44 :: (regT r1 ++ (44 :: Lib.itoa n)))))), .int .i64 0]) ∧ Below w.heap.size w w' := by
  have HP : Hid (Pow w) := hp
  have HR : Hid (rightB op rd r1 r2 n = true) := h
  have HL : Hid (nth rlL op = 72) := hl
  obtain ⟨⟨d0, d1⟩, ⟨a0, a1⟩, ⟨b0, b1⟩, ⟨n0, n1⟩⟩ := right_ranges h
  have z0 := name_len op
  have z1 := reg_size rd d0 d1
  have z2 := reg_size r1 a0 a1
  have z3 := reg_size r2 b0 b1
  have z4 := itoa_size n n0 n1
  rw [← tx_size] at z0
  have hfield := field74
  clear hp h hl
  go_enter Tryd.func16, Tryd.ntmps16
  go_wp2_with fail
  refine (right24 op rd r1 r2 n _).mono ?_
  rw [HR.out]
  rintro e w1 ⟨rfl, hb⟩
  obtain ⟨x0, x1, x2, x3, x4, x5⟩ := box5 w (.int .i64 op) (.int .i64 rd) (.int .i64 r1) (.int .i64 r2) (.int .i64 n) 23
  obtain ⟨c0, c1, c2, c3, c4, c5⟩ := keep5 (w := w) x5 hb x0 x1 x2 x3 x4
  have HB1 : Hid (Below w.heap.size w w1) := belowA hb
  clear hb x0 x1 x2 x3 x4 x5
  go_wp2_with fail
  refine (format36 n n0 n1 _ (HP.out.below HB1.out)).mono ?_
  rintro e w2 ⟨rfl, hb⟩
  obtain ⟨x0, x1, x2, x3, x4, x5⟩ := keep5 (w := w) c5 hb c0 c1 c2 c3 c4
  have HB2 : Hid (Below w.heap.size w w2) := HB1.out.trans (hb.mono (by omega))
  clear hb c0 c1 c2 c3 c4 c5 HB1
  go_wp2_with fail
  refine (name23 op _).mono ?_
  rintro e w3 ⟨rfl, hb⟩
  obtain ⟨c0, c1, c2, c3, c4, c5⟩ := keep5 (w := w) x5 hb x0 x1 x2 x3 x4
  have HB3 : Hid (Below w.heap.size w w3) := HB2.out.trans (hb.mono (by omega))
  clear hb x0 x1 x2 x3 x4 x5 HB2
  go_wp2_with fail
  refine (formOf37 op _).mono ?_
  rw [HL.out]
  rintro e w4 ⟨rfl, hb⟩
  obtain ⟨x0, x1, x2, x3, x4, x5⟩ := keep5 (w := w) c5 hb c0 c1 c2 c3 c4
  have HB4 : Hid (Below w.heap.size w w4) := HB3.out.trans (hb.mono (by omega))
  clear hb c0 c1 c2 c3 c4 c5 HB3
  go_wp2_with fail
  go_quiet ((go_at_call 38; exact Calls.quiet_of_same (x38 _ (by assumption) (by assumption) _)))
  go_wp2
  go_ret2
  refine ⟨ret_twoS ?_, below_drewN HB4.out _⟩
  simp only [c32, c44, tx_app]
  simp [List.append_assoc]
set_option maxRecDepth 20000 in
set_option maxHeartbeats 1000000 in
theorem text16_87 (op rd r1 r2 n : Int) (h : rightB op rd r1 r2 n = true) (hl : nth rlL op = 104) (w : World) (hp : Pow w) :
    Calls Tryd.prog 16 #[.agg #[.int .i64 op, .int .i64 rd, .int .i64 r1, .int .i64 r2, .int .i64 n]] w fun e w' => e = .returned (.tuple #[.string (tx (nameT op ++ 32 :: (regT rd ++ (44 :: (regT r1 ++ (44 :: Lib.itoa n)))))), .int .i64 0]) ∧ Below w.heap.size w w' := by
  have HP : Hid (Pow w) := hp
  have HR : Hid (rightB op rd r1 r2 n = true) := h
  have HL : Hid (nth rlL op = 104) := hl
  obtain ⟨⟨d0, d1⟩, ⟨a0, a1⟩, ⟨b0, b1⟩, ⟨n0, n1⟩⟩ := right_ranges h
  have z0 := name_len op
  have z1 := reg_size rd d0 d1
  have z2 := reg_size r1 a0 a1
  have z3 := reg_size r2 b0 b1
  have z4 := itoa_size n n0 n1
  rw [← tx_size] at z0
  have hfield := field74
  clear hp h hl
  go_enter Tryd.func16, Tryd.ntmps16
  go_wp2_with fail
  refine (right24 op rd r1 r2 n _).mono ?_
  rw [HR.out]
  rintro e w1 ⟨rfl, hb⟩
  obtain ⟨x0, x1, x2, x3, x4, x5⟩ := box5 w (.int .i64 op) (.int .i64 rd) (.int .i64 r1) (.int .i64 r2) (.int .i64 n) 23
  obtain ⟨c0, c1, c2, c3, c4, c5⟩ := keep5 (w := w) x5 hb x0 x1 x2 x3 x4
  have HB1 : Hid (Below w.heap.size w w1) := belowA hb
  clear hb x0 x1 x2 x3 x4 x5
  go_wp2_with fail
  refine (format36 n n0 n1 _ (HP.out.below HB1.out)).mono ?_
  rintro e w2 ⟨rfl, hb⟩
  obtain ⟨x0, x1, x2, x3, x4, x5⟩ := keep5 (w := w) c5 hb c0 c1 c2 c3 c4
  have HB2 : Hid (Below w.heap.size w w2) := HB1.out.trans (hb.mono (by omega))
  clear hb c0 c1 c2 c3 c4 c5 HB1
  go_wp2_with fail
  refine (name23 op _).mono ?_
  rintro e w3 ⟨rfl, hb⟩
  obtain ⟨c0, c1, c2, c3, c4, c5⟩ := keep5 (w := w) x5 hb x0 x1 x2 x3 x4
  have HB3 : Hid (Below w.heap.size w w3) := HB2.out.trans (hb.mono (by omega))
  clear hb x0 x1 x2 x3 x4 x5 HB2
  go_wp2_with fail
  refine (formOf37 op _).mono ?_
  rw [HL.out]
  rintro e w4 ⟨rfl, hb⟩
  obtain ⟨x0, x1, x2, x3, x4, x5⟩ := keep5 (w := w) c5 hb c0 c1 c2 c3 c4
  have HB4 : Hid (Below w.heap.size w w4) := HB3.out.trans (hb.mono (by omega))
  clear hb c0 c1 c2 c3 c4 c5 HB3
  go_wp2_with fail
  go_quiet ((go_at_call 38; exact Calls.quiet_of_same (x38 _ (by assumption) (by assumption) _)))
  go_wp2
  go_ret2
  refine ⟨ret_twoS ?_, below_drewN HB4.out _⟩
  simp only [c32, c44, tx_app]
  simp [List.append_assoc]
set_option maxRecDepth 20000 in
set_option maxHeartbeats 1000000 in
theorem text16_83 (op rd r1 r2 n : Int) (h : rightB op rd r1 r2 n = true) (hl : nth rlL op = 83) (w : World) (hp : Pow w) :
    Calls Tryd.prog 16 #[.agg #[.int .i64 op, .int .i64 rd, .int .i64 r1, .int .i64 r2, .int .i64 n]] w fun e w' => e = .returned (.tuple #[.string (tx (nameT op ++ 32 :: (regT r2 ++ (44 :: offT n r1)))), .int .i64 0]) ∧ Below w.heap.size w w' := by
  have HP : Hid (Pow w) := hp
  have HR : Hid (rightB op rd r1 r2 n = true) := h
  have HL : Hid (nth rlL op = 83) := hl
  obtain ⟨⟨d0, d1⟩, ⟨a0, a1⟩, ⟨b0, b1⟩, ⟨n0, n1⟩⟩ := right_ranges h
  have z0 := name_len op
  have z1 := reg_size rd d0 d1
  have z2 := reg_size r1 a0 a1
  have z3 := reg_size r2 b0 b1
  have z4 := itoa_size n n0 n1
  rw [← tx_size] at z0
  have hfield := field74
  clear hp h hl
  go_enter Tryd.func16, Tryd.ntmps16
  go_wp2_with fail
  refine (right24 op rd r1 r2 n _).mono ?_
  rw [HR.out]
  rintro e w1 ⟨rfl, hb⟩
  obtain ⟨x0, x1, x2, x3, x4, x5⟩ := box5 w (.int .i64 op) (.int .i64 rd) (.int .i64 r1) (.int .i64 r2) (.int .i64 n) 23
  obtain ⟨c0, c1, c2, c3, c4, c5⟩ := keep5 (w := w) x5 hb x0 x1 x2 x3 x4
  have HB1 : Hid (Below w.heap.size w w1) := belowA hb
  clear hb x0 x1 x2 x3 x4 x5
  go_wp2_with fail
  refine (format36 n n0 n1 _ (HP.out.below HB1.out)).mono ?_
  rintro e w2 ⟨rfl, hb⟩
  obtain ⟨x0, x1, x2, x3, x4, x5⟩ := keep5 (w := w) c5 hb c0 c1 c2 c3 c4
  have HB2 : Hid (Below w.heap.size w w2) := HB1.out.trans (hb.mono (by omega))
  clear hb c0 c1 c2 c3 c4 c5 HB1
  go_wp2_with fail
  refine (name23 op _).mono ?_
  rintro e w3 ⟨rfl, hb⟩
  obtain ⟨c0, c1, c2, c3, c4, c5⟩ := keep5 (w := w) x5 hb x0 x1 x2 x3 x4
  have HB3 : Hid (Below w.heap.size w w3) := HB2.out.trans (hb.mono (by omega))
  clear hb x0 x1 x2 x3 x4 x5 HB2
  go_wp2_with fail
  refine (formOf37 op _).mono ?_
  rw [HL.out]
  rintro e w4 ⟨rfl, hb⟩
  obtain ⟨x0, x1, x2, x3, x4, x5⟩ := keep5 (w := w) c5 hb c0 c1 c2 c3 c4
  have HB4 : Hid (Below w.heap.size w w4) := HB3.out.trans (hb.mono (by omega))
  clear hb c0 c1 c2 c3 c4 c5 HB3
  go_wp2_with fail
  go_quiet ((go_at_call 38; exact Calls.quiet_of_same (x38 _ (by assumption) (by assumption) _)))
  go_wp2
  go_ret2
  refine ⟨ret_twoS ?_, below_drewN HB4.out _⟩
  simp only [c32, c44, c40, c41, tx_app]
  simp [offT, List.append_assoc]
set_option maxRecDepth 20000 in
set_option maxHeartbeats 1000000 in
theorem text16_66 (op rd r1 r2 n : Int) (h : rightB op rd r1 r2 n = true) (hl : nth rlL op = 66) (w : World) (hp : Pow w) :
    Calls Tryd.prog 16 #[.agg #[.int .i64 op, .int .i64 rd, .int .i64 r1, .int .i64 r2, .int .i64 n]] w fun e w' => e = .returned (.tuple #[.string (tx (nameT op ++ 32 :: (regT r1 ++ (44 :: (regT r2 ++ (44 :: Lib.itoa n)))))), .int .i64 0]) ∧ Below w.heap.size w w' := by
  have HP : Hid (Pow w) := hp
  have HR : Hid (rightB op rd r1 r2 n = true) := h
  have HL : Hid (nth rlL op = 66) := hl
  obtain ⟨⟨d0, d1⟩, ⟨a0, a1⟩, ⟨b0, b1⟩, ⟨n0, n1⟩⟩ := right_ranges h
  have z0 := name_len op
  have z1 := reg_size rd d0 d1
  have z2 := reg_size r1 a0 a1
  have z3 := reg_size r2 b0 b1
  have z4 := itoa_size n n0 n1
  rw [← tx_size] at z0
  have hfield := field74
  clear hp h hl
  go_enter Tryd.func16, Tryd.ntmps16
  go_wp2_with fail
  refine (right24 op rd r1 r2 n _).mono ?_
  rw [HR.out]
  rintro e w1 ⟨rfl, hb⟩
  obtain ⟨x0, x1, x2, x3, x4, x5⟩ := box5 w (.int .i64 op) (.int .i64 rd) (.int .i64 r1) (.int .i64 r2) (.int .i64 n) 23
  obtain ⟨c0, c1, c2, c3, c4, c5⟩ := keep5 (w := w) x5 hb x0 x1 x2 x3 x4
  have HB1 : Hid (Below w.heap.size w w1) := belowA hb
  clear hb x0 x1 x2 x3 x4 x5
  go_wp2_with fail
  refine (format36 n n0 n1 _ (HP.out.below HB1.out)).mono ?_
  rintro e w2 ⟨rfl, hb⟩
  obtain ⟨x0, x1, x2, x3, x4, x5⟩ := keep5 (w := w) c5 hb c0 c1 c2 c3 c4
  have HB2 : Hid (Below w.heap.size w w2) := HB1.out.trans (hb.mono (by omega))
  clear hb c0 c1 c2 c3 c4 c5 HB1
  go_wp2_with fail
  refine (name23 op _).mono ?_
  rintro e w3 ⟨rfl, hb⟩
  obtain ⟨c0, c1, c2, c3, c4, c5⟩ := keep5 (w := w) x5 hb x0 x1 x2 x3 x4
  have HB3 : Hid (Below w.heap.size w w3) := HB2.out.trans (hb.mono (by omega))
  clear hb x0 x1 x2 x3 x4 x5 HB2
  go_wp2_with fail
  refine (formOf37 op _).mono ?_
  rw [HL.out]
  rintro e w4 ⟨rfl, hb⟩
  obtain ⟨x0, x1, x2, x3, x4, x5⟩ := keep5 (w := w) c5 hb c0 c1 c2 c3 c4
  have HB4 : Hid (Below w.heap.size w w4) := HB3.out.trans (hb.mono (by omega))
  clear hb c0 c1 c2 c3 c4 c5 HB3
  go_wp2_with fail
  go_quiet ((go_at_call 38; exact Calls.quiet_of_same (x38 _ (by assumption) (by assumption) _)))
  go_wp2
  go_ret2
  refine ⟨ret_twoS ?_, below_drewN HB4.out _⟩
  simp only [c32, c44, tx_app]
  simp [List.append_assoc]
set_option maxRecDepth 20000 in
set_option maxHeartbeats 1000000 in
theorem text16_85 (op rd r1 r2 n : Int) (h : rightB op rd r1 r2 n = true) (hl : nth rlL op = 85) (w : World) (hp : Pow w) :
    Calls Tryd.prog 16 #[.agg #[.int .i64 op, .int .i64 rd, .int .i64 r1, .int .i64 r2, .int .i64 n]] w fun e w' => e = .returned (.tuple #[.string (tx (nameT op ++ 32 :: (regT rd ++ (44 :: Lib.itoa n)))), .int .i64 0]) ∧ Below w.heap.size w w' := by
  have HP : Hid (Pow w) := hp
  have HR : Hid (rightB op rd r1 r2 n = true) := h
  have HL : Hid (nth rlL op = 85) := hl
  obtain ⟨⟨d0, d1⟩, ⟨a0, a1⟩, ⟨b0, b1⟩, ⟨n0, n1⟩⟩ := right_ranges h
  have z0 := name_len op
  have z1 := reg_size rd d0 d1
  have z2 := reg_size r1 a0 a1
  have z3 := reg_size r2 b0 b1
  have z4 := itoa_size n n0 n1
  rw [← tx_size] at z0
  have hfield := field74
  clear hp h hl
  go_enter Tryd.func16, Tryd.ntmps16
  go_wp2_with fail
  refine (right24 op rd r1 r2 n _).mono ?_
  rw [HR.out]
  rintro e w1 ⟨rfl, hb⟩
  obtain ⟨x0, x1, x2, x3, x4, x5⟩ := box5 w (.int .i64 op) (.int .i64 rd) (.int .i64 r1) (.int .i64 r2) (.int .i64 n) 23
  obtain ⟨c0, c1, c2, c3, c4, c5⟩ := keep5 (w := w) x5 hb x0 x1 x2 x3 x4
  have HB1 : Hid (Below w.heap.size w w1) := belowA hb
  clear hb x0 x1 x2 x3 x4 x5
  go_wp2_with fail
  refine (format36 n n0 n1 _ (HP.out.below HB1.out)).mono ?_
  rintro e w2 ⟨rfl, hb⟩
  obtain ⟨x0, x1, x2, x3, x4, x5⟩ := keep5 (w := w) c5 hb c0 c1 c2 c3 c4
  have HB2 : Hid (Below w.heap.size w w2) := HB1.out.trans (hb.mono (by omega))
  clear hb c0 c1 c2 c3 c4 c5 HB1
  go_wp2_with fail
  refine (name23 op _).mono ?_
  rintro e w3 ⟨rfl, hb⟩
  obtain ⟨c0, c1, c2, c3, c4, c5⟩ := keep5 (w := w) x5 hb x0 x1 x2 x3 x4
  have HB3 : Hid (Below w.heap.size w w3) := HB2.out.trans (hb.mono (by omega))
  clear hb x0 x1 x2 x3 x4 x5 HB2
  go_wp2_with fail
  refine (formOf37 op _).mono ?_
  rw [HL.out]
  rintro e w4 ⟨rfl, hb⟩
  obtain ⟨x0, x1, x2, x3, x4, x5⟩ := keep5 (w := w) c5 hb c0 c1 c2 c3 c4
  have HB4 : Hid (Below w.heap.size w w4) := HB3.out.trans (hb.mono (by omega))
  clear hb c0 c1 c2 c3 c4 c5 HB3
  go_wp2_with fail
  refine (x38 rd d0 d1 _).mono ?_
  rintro e w5 ⟨rfl, h5⟩
  subst h5
  go_wp2
  go_ret2
  refine ⟨ret_twoS ?_, HB4.out⟩
  simp only [c32, c44, tx_app]
  simp [List.append_assoc]
set_option maxRecDepth 20000 in
set_option maxHeartbeats 1000000 in
theorem text16_74 (op rd r1 r2 n : Int) (h : rightB op rd r1 r2 n = true) (hl : nth rlL op = 74) (w : World) (hp : Pow w) :
    Calls Tryd.prog 16 #[.agg #[.int .i64 op, .int .i64 rd, .int .i64 r1, .int .i64 r2, .int .i64 n]] w fun e w' => e = .returned (.tuple #[.string (tx (nameT op ++ 32 :: (regT rd ++ (44 :: Lib.itoa n)))), .int .i64 0]) ∧ Below w.heap.size w w' := by
  have HP : Hid (Pow w) := hp
  have HR : Hid (rightB op rd r1 r2 n = true) := h
  have HL : Hid (nth rlL op = 74) := hl
  obtain ⟨⟨d0, d1⟩, ⟨a0, a1⟩, ⟨b0, b1⟩, ⟨n0, n1⟩⟩ := right_ranges h
  have z0 := name_len op
  have z1 := reg_size rd d0 d1
  have z2 := reg_size r1 a0 a1
  have z3 := reg_size r2 b0 b1
  have z4 := itoa_size n n0 n1
  rw [← tx_size] at z0
  have hfield := field74
  clear hp h hl
  go_enter Tryd.func16, Tryd.ntmps16
  go_wp2_with fail
  refine (right24 op rd r1 r2 n _).mono ?_
  rw [HR.out]
  rintro e w1 ⟨rfl, hb⟩
  obtain ⟨x0, x1, x2, x3, x4, x5⟩ := box5 w (.int .i64 op) (.int .i64 rd) (.int .i64 r1) (.int .i64 r2) (.int .i64 n) 23
  obtain ⟨c0, c1, c2, c3, c4, c5⟩ := keep5 (w := w) x5 hb x0 x1 x2 x3 x4
  have HB1 : Hid (Below w.heap.size w w1) := belowA hb
  clear hb x0 x1 x2 x3 x4 x5
  go_wp2_with fail
  refine (format36 n n0 n1 _ (HP.out.below HB1.out)).mono ?_
  rintro e w2 ⟨rfl, hb⟩
  obtain ⟨x0, x1, x2, x3, x4, x5⟩ := keep5 (w := w) c5 hb c0 c1 c2 c3 c4
  have HB2 : Hid (Below w.heap.size w w2) := HB1.out.trans (hb.mono (by omega))
  clear hb c0 c1 c2 c3 c4 c5 HB1
  go_wp2_with fail
  refine (name23 op _).mono ?_
  rintro e w3 ⟨rfl, hb⟩
  obtain ⟨c0, c1, c2, c3, c4, c5⟩ := keep5 (w := w) x5 hb x0 x1 x2 x3 x4
  have HB3 : Hid (Below w.heap.size w w3) := HB2.out.trans (hb.mono (by omega))
  clear hb x0 x1 x2 x3 x4 x5 HB2
  go_wp2_with fail
  refine (formOf37 op _).mono ?_
  rw [HL.out]
  rintro e w4 ⟨rfl, hb⟩
  obtain ⟨x0, x1, x2, x3, x4, x5⟩ := keep5 (w := w) c5 hb c0 c1 c2 c3 c4
  have HB4 : Hid (Below w.heap.size w w4) := HB3.out.trans (hb.mono (by omega))
  clear hb c0 c1 c2 c3 c4 c5 HB3
  go_wp2_with fail
  refine (x38 rd d0 d1 _).mono ?_
  rintro e w5 ⟨rfl, h5⟩
  subst h5
  go_wp2
  go_ret2
  refine ⟨ret_twoS ?_, HB4.out⟩
  simp only [c32, c44, tx_app]
  simp [List.append_assoc]
set_option maxRecDepth 20000 in
set_option maxHeartbeats 1000000 in
theorem text16_78 (op rd r1 r2 n : Int) (h : rightB op rd r1 r2 n = true) (hl : nth rlL op = 78) (w : World) (hp : Pow w) :
    Calls Tryd.prog 16 #[.agg #[.int .i64 op, .int .i64 rd, .int .i64 r1, .int .i64 r2, .int .i64 n]] w fun e w' => e = .returned (.tuple #[.string (tx (nameT op)), .int .i64 0]) ∧ Below w.heap.size w w' := by
  have HP : Hid (Pow w) := hp
  have HR : Hid (rightB op rd r1 r2 n = true) := h
  have HL : Hid (nth rlL op = 78) := hl
  obtain ⟨⟨d0, d1⟩, ⟨a0, a1⟩, ⟨b0, b1⟩, ⟨n0, n1⟩⟩ := right_ranges h
  have z0 := name_len op
  have z1 := reg_size rd d0 d1
  have z2 := reg_size r1 a0 a1
  have z3 := reg_size r2 b0 b1
  have z4 := itoa_size n n0 n1
  rw [← tx_size] at z0
  have hfield := field74
  clear hp h hl
  go_enter Tryd.func16, Tryd.ntmps16
  go_wp2_with fail
  refine (right24 op rd r1 r2 n _).mono ?_
  rw [HR.out]
  rintro e w1 ⟨rfl, hb⟩
  obtain ⟨x0, x1, x2, x3, x4, x5⟩ := box5 w (.int .i64 op) (.int .i64 rd) (.int .i64 r1) (.int .i64 r2) (.int .i64 n) 23
  obtain ⟨c0, c1, c2, c3, c4, c5⟩ := keep5 (w := w) x5 hb x0 x1 x2 x3 x4
  have HB1 : Hid (Below w.heap.size w w1) := belowA hb
  clear hb x0 x1 x2 x3 x4 x5
  go_wp2_with fail
  refine (format36 n n0 n1 _ (HP.out.below HB1.out)).mono ?_
  rintro e w2 ⟨rfl, hb⟩
  obtain ⟨x0, x1, x2, x3, x4, x5⟩ := keep5 (w := w) c5 hb c0 c1 c2 c3 c4
  have HB2 : Hid (Below w.heap.size w w2) := HB1.out.trans (hb.mono (by omega))
  clear hb c0 c1 c2 c3 c4 c5 HB1
  go_wp2_with fail
  refine (name23 op _).mono ?_
  rintro e w3 ⟨rfl, hb⟩
  obtain ⟨c0, c1, c2, c3, c4, c5⟩ := keep5 (w := w) x5 hb x0 x1 x2 x3 x4
  have HB3 : Hid (Below w.heap.size w w3) := HB2.out.trans (hb.mono (by omega))
  clear hb x0 x1 x2 x3 x4 x5 HB2
  go_wp2_with fail
  refine (formOf37 op _).mono ?_
  rw [HL.out]
  rintro e w4 ⟨rfl, hb⟩
  obtain ⟨x0, x1, x2, x3, x4, x5⟩ := keep5 (w := w) c5 hb c0 c1 c2 c3 c4
  have HB4 : Hid (Below w.heap.size w w4) := HB3.out.trans (hb.mono (by omega))
  clear hb c0 c1 c2 c3 c4 c5 HB3
  go_wp2_with fail
  refine (name23 op _).mono ?_
  rintro e w5 ⟨rfl, hb⟩
  go_wp2
  go_ret2
  exact ⟨rfl, HB4.out.trans (hb.mono (by omega))⟩
theorem text_of {op l rd r1 r2 n : Int} {L : List (List UInt8)} {m : List UInt8} (hl : nth plL op = l) (h0 : l ≠ 78) (ho : opsT l rd r1 r2 n = L) (hm : Lib.join L [44] = m) : textT op rd r1 r2 n = nameT op ++ 32 :: m := by
  unfold textT
  rw [hl, if_neg h0, ho, hm]
set_option maxHeartbeats 1000000 in
/-- The document's text of a right instruction. -/
theorem text16_yes (op rd r1 r2 n : Int) (h : rightB op rd r1 r2 n = true) (w : World) (hp : Pow w) :
    Calls Tryd.prog 16 #[.agg #[.int .i64 op, .int .i64 rd, .int .i64 r1, .int .i64 r2, .int .i64 n]] w fun e w' => e = .returned (.tuple #[.string (tx (textT op rd r1 r2 n)), .int .i64 0]) ∧ Below w.heap.size w w' := by
  obtain ⟨o1, o2⟩ := ops_of_right h
  obtain ⟨t1, t2, t3, t4, t5, t6, t7, t8, t9, t10⟩ := letters op o1 o2
  rcases isL_of o1 o2 with e | e | e | e | e | e | e | e | e | e
  · rw [text_of e (by decide) (L := [regT rd, Lib.itoa n]) (by simp [opsT]) (join_two _ _)]
    exact text16_85 op rd r1 r2 n h (t1 e) w hp
  · rw [text_of e (by decide) (L := [regT rd, Lib.itoa n]) (by simp [opsT]) (join_two _ _)]
    exact text16_74 op rd r1 r2 n h (t2 e) w hp
  · rw [text_of e (by decide) (L := [regT rd, regT r1, Lib.itoa n]) (by simp [opsT]) (join_three _ _ _)]
    obtain ⟨a, b, c⟩ := t3 e
    by_cases d : op < 11
    · exact text16_73a op rd r1 r2 n h a b d w hp
    · exact text16_73b op rd r1 r2 n h a b (by omega) (by omega) w hp
  · rw [text_of e (by decide) (L := [regT rd, offT n r1]) (by simp [opsT]) (join_two _ _)]
    obtain ⟨a, b⟩ := t4 e
    by_cases d : op = 4
    · subst d
      exact text16_76a rd r1 r2 n h w hp
    · exact text16_76b op rd r1 r2 n h a d (by omega) (by omega) w hp
  · rw [text_of e (by decide) (L := [regT rd, regT r1, Lib.itoa n]) (by simp [opsT]) (join_three _ _ _)]
    exact text16_72 op rd r1 r2 n h (t5 e) w hp
  · rw [text_of e (by decide) (L := [regT rd, regT r1, Lib.itoa n]) (by simp [opsT]) (join_three _ _ _)]
    exact text16_87 op rd r1 r2 n h (t6 e) w hp
  · rw [text_of e (by decide) (L := [regT r2, offT n r1]) (by simp [opsT]) (join_two _ _)]
    exact text16_83 op rd r1 r2 n h (t7 e) w hp
  · rw [text_of e (by decide) (L := [regT r1, regT r2, Lib.itoa n]) (by simp [opsT]) (join_three _ _ _)]
    exact text16_66 op rd r1 r2 n h (t8 e) w hp
  · rw [text_of e (by decide) (L := [regT rd, regT r1, regT r2]) (by simp [opsT]) (join_three _ _ _)]
    exact text16_82 op rd r1 r2 n h (t9 e) w hp
  · rw [show textT op rd r1 r2 n = nameT op from if_pos e]
    exact text16_78 op rd r1 r2 n h (t10 e) w hp
set_option maxHeartbeats 1000000 in
theorem text16_no (op rd r1 r2 n : Int) (h : rightB op rd r1 r2 n = false) (w : World) :
    Calls Tryd.prog 16 #[.agg #[.int .i64 op, .int .i64 rd, .int .i64 r1, .int .i64 r2, .int .i64 n]] w fun e w' => e = .returned (.tuple #[.string ⟨#[]⟩, .int .i64 11]) ∧ Below w.heap.size w w' := by
  have HR : Hid (rightB op rd r1 r2 n = false) := h
  clear h
  go_enter Tryd.func16, Tryd.ntmps16
  go_wp2_with fail
  refine (right24 op rd r1 r2 n _).mono ?_
  rw [HR.out]
  rintro e w1 ⟨rfl, hb⟩
  have HB1 : Hid (Below w.heap.size w w1) := belowA hb
  clear hb
  go_wp2
  go_ret2
  exact ⟨rfl, HB1.out⟩
end Go.Proofs.YtndbkkldfinggaaDoor
