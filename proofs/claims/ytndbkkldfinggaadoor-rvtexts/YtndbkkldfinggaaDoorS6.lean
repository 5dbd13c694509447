/- The walk of the statement RvApart. -/
import Derived.Test.YtndbkkldfinggaaDoorS5
namespace Go.Proofs.YtndbkkldfinggaaDoor
open Go.RowKit
/-- The text of a right instruction. -/
theorem text15_yes (op rd r1 r2 n : Int) (h : rightB op rd r1 r2 n = true) (w : World) (hp : Pow w) (hN : Nam w) :
    Calls Tryd.prog 15 #[.agg #[.int .i64 op, .int .i64 rd, .int .i64 r1, .int .i64 r2, .int .i64 n]] w fun e w' => e = .returned (.tuple #[.string (tx (textT op rd r1 r2 n)), .int .i64 0]) ∧ Below w.heap.size w w' := by
  by_cases hl : nth plL op = 78
  · rw [show textT op rd r1 r2 n = nameT op from if_pos hl]
    exact text15_N op rd r1 r2 n h hl w hp hN
  · exact text15_L op rd r1 r2 n h hl w hp hN
theorem keepB {W W' : World} {b : Nat} {v0 v1 v2 v3 v4 : Value} (hs : b < W.heap.size) (hb : Below W.heap.size W W') (c0 : W.cell? ⟨b, 0, none⟩ = some v0) (c1 : W.cell? ⟨b, 1, none⟩ = some v1) (c2 : W.cell? ⟨b, 2, none⟩ = some v2) (c3 : W.cell? ⟨b, 3, none⟩ = some v3) (c4 : W.cell? ⟨b, 4, none⟩ = some v4) :
    W'.cell? ⟨b, 0, none⟩ = some v0 ∧ W'.cell? ⟨b, 1, none⟩ = some v1 ∧ W'.cell? ⟨b, 2, none⟩ = some v2 ∧ W'.cell? ⟨b, 3, none⟩ = some v3 ∧ W'.cell? ⟨b, 4, none⟩ = some v4 ∧ b < W'.heap.size :=
  ⟨(hb.cell (p := ⟨b, 0, none⟩) hs).trans c0, (hb.cell (p := ⟨b, 1, none⟩) hs).trans c1, (hb.cell (p := ⟨b, 2, none⟩) hs).trans c2, (hb.cell (p := ⟨b, 3, none⟩) hs).trans c3, (hb.cell (p := ⟨b, 4, none⟩) hs).trans c4, Nat.lt_of_lt_of_le hs hb.size⟩
theorem box55 (w : World) (v0 v1 v2 v3 v4 u0 u1 u2 u3 u4 : Value) (t s : TypeId) :
    (((w.alloc (.cells #[v0, v1, v2, v3, v4] t)).alloc (.cells #[u0, u1, u2, u3, u4] s)).cell? ⟨w.heap.size, 0, none⟩ = some v0 ∧ ((w.alloc (.cells #[v0, v1, v2, v3, v4] t)).alloc (.cells #[u0, u1, u2, u3, u4] s)).cell? ⟨w.heap.size, 1, none⟩ = some v1 ∧ ((w.alloc (.cells #[v0, v1, v2, v3, v4] t)).alloc (.cells #[u0, u1, u2, u3, u4] s)).cell? ⟨w.heap.size, 2, none⟩ = some v2 ∧ ((w.alloc (.cells #[v0, v1, v2, v3, v4] t)).alloc (.cells #[u0, u1, u2, u3, u4] s)).cell? ⟨w.heap.size, 3, none⟩ = some v3 ∧ ((w.alloc (.cells #[v0, v1, v2, v3, v4] t)).alloc (.cells #[u0, u1, u2, u3, u4] s)).cell? ⟨w.heap.size, 4, none⟩ = some v4 ∧ w.heap.size < ((w.alloc (.cells #[v0, v1, v2, v3, v4] t)).alloc (.cells #[u0, u1, u2, u3, u4] s)).heap.size) ∧
    ((w.alloc (.cells #[v0, v1, v2, v3, v4] t)).alloc (.cells #[u0, u1, u2, u3, u4] s)).cell? ⟨w.heap.size + 1, 0, none⟩ = some u0 ∧ ((w.alloc (.cells #[v0, v1, v2, v3, v4] t)).alloc (.cells #[u0, u1, u2, u3, u4] s)).cell? ⟨w.heap.size + 1, 1, none⟩ = some u1 ∧ ((w.alloc (.cells #[v0, v1, v2, v3, v4] t)).alloc (.cells #[u0, u1, u2, u3, u4] s)).cell? ⟨w.heap.size + 1, 2, none⟩ = some u2 ∧ ((w.alloc (.cells #[v0, v1, v2, v3, v4] t)).alloc (.cells #[u0, u1, u2, u3, u4] s)).cell? ⟨w.heap.size + 1, 3, none⟩ = some u3 ∧ ((w.alloc (.cells #[v0, v1, v2, v3, v4] t)).alloc (.cells #[u0, u1, u2, u3, u4] s)).cell? ⟨w.heap.size + 1, 4, none⟩ = some u4 ∧ w.heap.size + 1 < ((w.alloc (.cells #[v0, v1, v2, v3, v4] t)).alloc (.cells #[u0, u1, u2, u3, u4] s)).heap.size :=
  ⟨⟨by go_simp, by go_simp, by go_simp, by go_simp, by go_simp, by simp; omega⟩, by go_simp, by go_simp, by go_simp, by go_simp, by go_simp, by simp⟩
theorem belowAA {w w1 : World} {o p : Obj} (hb : Below ((w.alloc o).alloc p).heap.size ((w.alloc o).alloc p) w1) : Below w.heap.size w w1 := belowA ((belowA hb).mono (by simp))
theorem tl_ne {l m : List UInt8} (h : ¬ l = m) : ((tx l).toList == (tx m).toList) = false := by
  have e : ∀ l : List UInt8, (tx l).toList = l := fun l => by rw [ByteArray.toList_eq]; rfl
  rw [e, e]
  simpa using h
theorem tx_inj {l m : List UInt8} (h : tx l = tx m) : l = m := by
  have := congrArg (fun b => b.data.toList) h
  simpa [tx] using this
set_option maxHeartbeats 2000000 in
theorem apart_0 (op rd r1 r2 n op' rd' r1' r2' n' : Int) (h : rightB op rd r1 r2 n = true) (h' : rightB op' rd' r1' r2' n' = true) (hne : ¬ op = op') (w : World) (hT : Tab w) (hN : Nam w) (hP : Pow w) :
    Calls Tryd.prog 7 #[.agg #[.int .i64 op, .int .i64 rd, .int .i64 r1, .int .i64 r2, .int .i64 n], .agg #[.int .i64 op', .int .i64 rd', .int .i64 r1', .int .i64 r2', .int .i64 n']] w fun e w' => e = .returned (.bool true) ∧ Below w.heap.size w w' := by
  have HT : Hid (Tab w) := hT
  have HN : Hid (Nam w) := hN
  have HP : Hid (Pow w) := hP
  have hX : ¬ wordI op rd r1 r2 n = wordI op' rd' r1' r2' n' := fun e => hne (word_inj h h' e).1
  have hS : ¬ textT op rd r1 r2 n = textT op' rd' r1' r2' n' := fun e => hne (text_inj h h' e).1
  have R1 : Hid (∀ (W : World), Calls Tryd.prog 24 #[.agg #[.int .i64 op, .int .i64 rd, .int .i64 r1, .int .i64 r2, .int .i64 n]] W fun e w' => e = .returned (.bool true) ∧ Below W.heap.size W w') := fun W => by have t := right24 op rd r1 r2 n W; rw [h] at t; exact t
  have R2 : Hid (∀ (W : World), Calls Tryd.prog 24 #[.agg #[.int .i64 op', .int .i64 rd', .int .i64 r1', .int .i64 r2', .int .i64 n']] W fun e w' => e = .returned (.bool true) ∧ Below W.heap.size W w') := fun W => by have t := right24 op' rd' r1' r2' n' W; rw [h'] at t; exact t
  have E1 : Hid (∀ (W : World), Tab W → Calls Tryd.prog 8 #[.agg #[.int .i64 op, .int .i64 rd, .int .i64 r1, .int .i64 r2, .int .i64 n]] W fun e w' => e = .returned (.tuple #[.int .u32 (wordI op rd r1 r2 n), .int .i64 0]) ∧ Below W.heap.size W w') := fun W hW => encode8_yes op rd r1 r2 n h W hW
  have E2 : Hid (∀ (W : World), Tab W → Calls Tryd.prog 8 #[.agg #[.int .i64 op', .int .i64 rd', .int .i64 r1', .int .i64 r2', .int .i64 n']] W fun e w' => e = .returned (.tuple #[.int .u32 (wordI op' rd' r1' r2' n'), .int .i64 0]) ∧ Below W.heap.size W w') := fun W hW => encode8_yes op' rd' r1' r2' n' h' W hW
  have T1 : Hid (∀ (W : World), Pow W → Nam W → Calls Tryd.prog 15 #[.agg #[.int .i64 op, .int .i64 rd, .int .i64 r1, .int .i64 r2, .int .i64 n]] W fun e w' => e = .returned (.tuple #[.string (tx (textT op rd r1 r2 n)), .int .i64 0]) ∧ Below W.heap.size W w') := fun W a b => text15_yes op rd r1 r2 n h W a b
  have T2 : Hid (∀ (W : World), Pow W → Nam W → Calls Tryd.prog 15 #[.agg #[.int .i64 op', .int .i64 rd', .int .i64 r1', .int .i64 r2', .int .i64 n']] W fun e w' => e = .returned (.tuple #[.string (tx (textT op' rd' r1' r2' n')), .int .i64 0]) ∧ Below W.heap.size W w') := fun W a b => text15_yes op' rd' r1' r2' n' h' W a b
  generalize wordI op rd r1 r2 n = X at *
  generalize wordI op' rd' r1' r2' n' = Y at *
  generalize textT op rd r1 r2 n = S at *
  generalize textT op' rd' r1' r2' n' = T at *
  have hS' : ¬ tx S = tx T := fun e => hS (tx_inj e)
  have hS2 : ((tx S).toList == (tx T).toList) = false := tl_ne hS
  have hS3 : ¬ (tx S).toList = (tx T).toList := fun e => by rw [e] at hS2; simp at hS2
  clear hT hN hP h h' hS
  go_enter Tryd.func7, Tryd.ntmps7
  go_wp2_with fail
  refine (R1.out _).mono ?_
  rintro e w1 ⟨rfl, hb⟩
  obtain ⟨⟨a0, a1, a2, a3, a4, a5⟩, b0, b1, b2, b3, b4, b5⟩ := box55 w (.int .i64 op) (.int .i64 rd) (.int .i64 r1) (.int .i64 r2) (.int .i64 n) (.int .i64 op') (.int .i64 rd') (.int .i64 r1') (.int .i64 r2') (.int .i64 n') 23 23
  obtain ⟨c0, c1, c2, c3, c4, c5⟩ := keepB a5 hb a0 a1 a2 a3 a4
  obtain ⟨d0, d1, d2, d3, d4, d5⟩ := keepB b5 hb b0 b1 b2 b3 b4
  have HB1 : Hid (Below w.heap.size w w1) := belowAA hb
  clear a0 a1 a2 a3 a4 a5 b0 b1 b2 b3 b4 b5 hb
  go_wp2_with fail
  refine (R2.out _).mono ?_
  rintro e w2 ⟨rfl, hb⟩
  obtain ⟨a0, a1, a2, a3, a4, a5⟩ := keepB c5 hb c0 c1 c2 c3 c4
  obtain ⟨b0, b1, b2, b3, b4, b5⟩ := keepB d5 hb d0 d1 d2 d3 d4
  have HB2 : Hid (Below w.heap.size w w2) := HB1.out.trans (hb.mono (by omega))
  clear c0 c1 c2 c3 c4 c5 d0 d1 d2 d3 d4 d5 hb HB1
  go_wp2_with fail
  refine (E1.out _ (HT.out.below HB2.out)).mono ?_
  rintro e w3 ⟨rfl, hb⟩
  obtain ⟨c0, c1, c2, c3, c4, c5⟩ := keepB a5 hb a0 a1 a2 a3 a4
  obtain ⟨d0, d1, d2, d3, d4, d5⟩ := keepB b5 hb b0 b1 b2 b3 b4
  have HB3 : Hid (Below w.heap.size w w3) := HB2.out.trans (hb.mono (by omega))
  clear a0 a1 a2 a3 a4 a5 b0 b1 b2 b3 b4 b5 hb HB2
  go_wp2_with fail
  refine (E2.out _ (HT.out.below HB3.out)).mono ?_
  rintro e w4 ⟨rfl, hb⟩
  obtain ⟨a0, a1, a2, a3, a4, a5⟩ := keepB c5 hb c0 c1 c2 c3 c4
  obtain ⟨b0, b1, b2, b3, b4, b5⟩ := keepB d5 hb d0 d1 d2 d3 d4
  have HB4 : Hid (Below w.heap.size w w4) := HB3.out.trans (hb.mono (by omega))
  clear c0 c1 c2 c3 c4 c5 d0 d1 d2 d3 d4 d5 hb HB3
  go_wp2_with fail
  refine (T1.out _ (HP.out.below HB4.out) (HN.out.below HB4.out)).mono ?_
  rintro e w5 ⟨rfl, hb⟩
  obtain ⟨c0, c1, c2, c3, c4, c5⟩ := keepB a5 hb a0 a1 a2 a3 a4
  obtain ⟨d0, d1, d2, d3, d4, d5⟩ := keepB b5 hb b0 b1 b2 b3 b4
  have HB5 : Hid (Below w.heap.size w w5) := HB4.out.trans (hb.mono (by omega))
  clear a0 a1 a2 a3 a4 a5 b0 b1 b2 b3 b4 b5 hb HB4
  go_wp2_with fail
  refine (T2.out _ (HP.out.below HB5.out) (HN.out.below HB5.out)).mono ?_
  rintro e w6 ⟨rfl, hb⟩
  obtain ⟨a0, a1, a2, a3, a4, a5⟩ := keepB c5 hb c0 c1 c2 c3 c4
  obtain ⟨b0, b1, b2, b3, b4, b5⟩ := keepB d5 hb d0 d1 d2 d3 d4
  have HB6 : Hid (Below w.heap.size w w6) := HB5.out.trans (hb.mono (by omega))
  clear c0 c1 c2 c3 c4 c5 d0 d1 d2 d3 d4 d5 hb HB5
  go_wp2_with fail
  refine (small12 _ (HT.out.below HB6.out)).mono ?_
  rintro e w7 ⟨rfl, hb⟩
  go_wp2
  go_ret
  exact ⟨ret_bool (by simpa using hX), HB6.out.trans (hb.mono (by omega))⟩
set_option maxHeartbeats 2000000 in
theorem apart_1 (op rd r1 r2 n rd' r1' r2' n' : Int) (h : rightB op rd r1 r2 n = true) (h' : rightB op rd' r1' r2' n' = true) (hne : ¬ rd = rd') (w : World) (hT : Tab w) (hN : Nam w) (hP : Pow w) :
    Calls Tryd.prog 7 #[.agg #[.int .i64 op, .int .i64 rd, .int .i64 r1, .int .i64 r2, .int .i64 n], .agg #[.int .i64 op, .int .i64 rd', .int .i64 r1', .int .i64 r2', .int .i64 n']] w fun e w' => e = .returned (.bool true) ∧ Below w.heap.size w w' := by
  have HT : Hid (Tab w) := hT
  have HN : Hid (Nam w) := hN
  have HP : Hid (Pow w) := hP
  have hX : ¬ wordI op rd r1 r2 n = wordI op rd' r1' r2' n' := fun e => hne (word_inj h h' e).2.1
  have hS : ¬ textT op rd r1 r2 n = textT op rd' r1' r2' n' := fun e => hne (text_inj h h' e).2.1
  have R1 : Hid (∀ (W : World), Calls Tryd.prog 24 #[.agg #[.int .i64 op, .int .i64 rd, .int .i64 r1, .int .i64 r2, .int .i64 n]] W fun e w' => e = .returned (.bool true) ∧ Below W.heap.size W w') := fun W => by have t := right24 op rd r1 r2 n W; rw [h] at t; exact t
  have R2 : Hid (∀ (W : World), Calls Tryd.prog 24 #[.agg #[.int .i64 op, .int .i64 rd', .int .i64 r1', .int .i64 r2', .int .i64 n']] W fun e w' => e = .returned (.bool true) ∧ Below W.heap.size W w') := fun W => by have t := right24 op rd' r1' r2' n' W; rw [h'] at t; exact t
  have E1 : Hid (∀ (W : World), Tab W → Calls Tryd.prog 8 #[.agg #[.int .i64 op, .int .i64 rd, .int .i64 r1, .int .i64 r2, .int .i64 n]] W fun e w' => e = .returned (.tuple #[.int .u32 (wordI op rd r1 r2 n), .int .i64 0]) ∧ Below W.heap.size W w') := fun W hW => encode8_yes op rd r1 r2 n h W hW
  have E2 : Hid (∀ (W : World), Tab W → Calls Tryd.prog 8 #[.agg #[.int .i64 op, .int .i64 rd', .int .i64 r1', .int .i64 r2', .int .i64 n']] W fun e w' => e = .returned (.tuple #[.int .u32 (wordI op rd' r1' r2' n'), .int .i64 0]) ∧ Below W.heap.size W w') := fun W hW => encode8_yes op rd' r1' r2' n' h' W hW
  have T1 : Hid (∀ (W : World), Pow W → Nam W → Calls Tryd.prog 15 #[.agg #[.int .i64 op, .int .i64 rd, .int .i64 r1, .int .i64 r2, .int .i64 n]] W fun e w' => e = .returned (.tuple #[.string (tx (textT op rd r1 r2 n)), .int .i64 0]) ∧ Below W.heap.size W w') := fun W a b => text15_yes op rd r1 r2 n h W a b
  have T2 : Hid (∀ (W : World), Pow W → Nam W → Calls Tryd.prog 15 #[.agg #[.int .i64 op, .int .i64 rd', .int .i64 r1', .int .i64 r2', .int .i64 n']] W fun e w' => e = .returned (.tuple #[.string (tx (textT op rd' r1' r2' n')), .int .i64 0]) ∧ Below W.heap.size W w') := fun W a b => text15_yes op rd' r1' r2' n' h' W a b
  generalize wordI op rd r1 r2 n = X at *
  generalize wordI op rd' r1' r2' n' = Y at *
  generalize textT op rd r1 r2 n = S at *
  generalize textT op rd' r1' r2' n' = T at *
  have hS' : ¬ tx S = tx T := fun e => hS (tx_inj e)
  have hS2 : ((tx S).toList == (tx T).toList) = false := tl_ne hS
  have hS3 : ¬ (tx S).toList = (tx T).toList := fun e => by rw [e] at hS2; simp at hS2
  clear hT hN hP h h' hS
  go_enter Tryd.func7, Tryd.ntmps7
  go_wp2_with fail
  refine (R1.out _).mono ?_
  rintro e w1 ⟨rfl, hb⟩
  obtain ⟨⟨a0, a1, a2, a3, a4, a5⟩, b0, b1, b2, b3, b4, b5⟩ := box55 w (.int .i64 op) (.int .i64 rd) (.int .i64 r1) (.int .i64 r2) (.int .i64 n) (.int .i64 op) (.int .i64 rd') (.int .i64 r1') (.int .i64 r2') (.int .i64 n') 23 23
  obtain ⟨c0, c1, c2, c3, c4, c5⟩ := keepB a5 hb a0 a1 a2 a3 a4
  obtain ⟨d0, d1, d2, d3, d4, d5⟩ := keepB b5 hb b0 b1 b2 b3 b4
  have HB1 : Hid (Below w.heap.size w w1) := belowAA hb
  clear a0 a1 a2 a3 a4 a5 b0 b1 b2 b3 b4 b5 hb
  go_wp2_with fail
  refine (R2.out _).mono ?_
  rintro e w2 ⟨rfl, hb⟩
  obtain ⟨a0, a1, a2, a3, a4, a5⟩ := keepB c5 hb c0 c1 c2 c3 c4
  obtain ⟨b0, b1, b2, b3, b4, b5⟩ := keepB d5 hb d0 d1 d2 d3 d4
  have HB2 : Hid (Below w.heap.size w w2) := HB1.out.trans (hb.mono (by omega))
  clear c0 c1 c2 c3 c4 c5 d0 d1 d2 d3 d4 d5 hb HB1
  go_wp2_with fail
  refine (E1.out _ (HT.out.below HB2.out)).mono ?_
  rintro e w3 ⟨rfl, hb⟩
  obtain ⟨c0, c1, c2, c3, c4, c5⟩ := keepB a5 hb a0 a1 a2 a3 a4
  obtain ⟨d0, d1, d2, d3, d4, d5⟩ := keepB b5 hb b0 b1 b2 b3 b4
  have HB3 : Hid (Below w.heap.size w w3) := HB2.out.trans (hb.mono (by omega))
  clear a0 a1 a2 a3 a4 a5 b0 b1 b2 b3 b4 b5 hb HB2
  go_wp2_with fail
  refine (E2.out _ (HT.out.below HB3.out)).mono ?_
  rintro e w4 ⟨rfl, hb⟩
  obtain ⟨a0, a1, a2, a3, a4, a5⟩ := keepB c5 hb c0 c1 c2 c3 c4
  obtain ⟨b0, b1, b2, b3, b4, b5⟩ := keepB d5 hb d0 d1 d2 d3 d4
  have HB4 : Hid (Below w.heap.size w w4) := HB3.out.trans (hb.mono (by omega))
  clear c0 c1 c2 c3 c4 c5 d0 d1 d2 d3 d4 d5 hb HB3
  go_wp2_with fail
  refine (T1.out _ (HP.out.below HB4.out) (HN.out.below HB4.out)).mono ?_
  rintro e w5 ⟨rfl, hb⟩
  obtain ⟨c0, c1, c2, c3, c4, c5⟩ := keepB a5 hb a0 a1 a2 a3 a4
  obtain ⟨d0, d1, d2, d3, d4, d5⟩ := keepB b5 hb b0 b1 b2 b3 b4
  have HB5 : Hid (Below w.heap.size w w5) := HB4.out.trans (hb.mono (by omega))
  clear a0 a1 a2 a3 a4 a5 b0 b1 b2 b3 b4 b5 hb HB4
  go_wp2_with fail
  refine (T2.out _ (HP.out.below HB5.out) (HN.out.below HB5.out)).mono ?_
  rintro e w6 ⟨rfl, hb⟩
  obtain ⟨a0, a1, a2, a3, a4, a5⟩ := keepB c5 hb c0 c1 c2 c3 c4
  obtain ⟨b0, b1, b2, b3, b4, b5⟩ := keepB d5 hb d0 d1 d2 d3 d4
  have HB6 : Hid (Below w.heap.size w w6) := HB5.out.trans (hb.mono (by omega))
  clear c0 c1 c2 c3 c4 c5 d0 d1 d2 d3 d4 d5 hb HB5
  go_wp2_with fail
  refine (small12 _ (HT.out.below HB6.out)).mono ?_
  rintro e w7 ⟨rfl, hb⟩
  go_wp2
  go_ret
  exact ⟨ret_bool (by simpa using hX), HB6.out.trans (hb.mono (by omega))⟩
set_option maxHeartbeats 2000000 in
theorem apart_2 (op rd r1 r2 n r1' r2' n' : Int) (h : rightB op rd r1 r2 n = true) (h' : rightB op rd r1' r2' n' = true) (hne : ¬ r1 = r1') (w : World) (hT : Tab w) (hN : Nam w) (hP : Pow w) :
    Calls Tryd.prog 7 #[.agg #[.int .i64 op, .int .i64 rd, .int .i64 r1, .int .i64 r2, .int .i64 n], .agg #[.int .i64 op, .int .i64 rd, .int .i64 r1', .int .i64 r2', .int .i64 n']] w fun e w' => e = .returned (.bool true) ∧ Below w.heap.size w w' := by
  have HT : Hid (Tab w) := hT
  have HN : Hid (Nam w) := hN
  have HP : Hid (Pow w) := hP
  have hX : ¬ wordI op rd r1 r2 n = wordI op rd r1' r2' n' := fun e => hne (word_inj h h' e).2.2.1
  have hS : ¬ textT op rd r1 r2 n = textT op rd r1' r2' n' := fun e => hne (text_inj h h' e).2.2.1
  have R1 : Hid (∀ (W : World), Calls Tryd.prog 24 #[.agg #[.int .i64 op, .int .i64 rd, .int .i64 r1, .int .i64 r2, .int .i64 n]] W fun e w' => e = .returned (.bool true) ∧ Below W.heap.size W w') := fun W => by have t := right24 op rd r1 r2 n W; rw [h] at t; exact t
  have R2 : Hid (∀ (W : World), Calls Tryd.prog 24 #[.agg #[.int .i64 op, .int .i64 rd, .int .i64 r1', .int .i64 r2', .int .i64 n']] W fun e w' => e = .returned (.bool true) ∧ Below W.heap.size W w') := fun W => by have t := right24 op rd r1' r2' n' W; rw [h'] at t; exact t
  have E1 : Hid (∀ (W : World), Tab W → Calls Tryd.prog 8 #[.agg #[.int .i64 op, .int .i64 rd, .int .i64 r1, .int .i64 r2, .int .i64 n]] W fun e w' => e = .returned (.tuple #[.int .u32 (wordI op rd r1 r2 n), .int .i64 0]) ∧ Below W.heap.size W w') := fun W hW => encode8_yes op rd r1 r2 n h W hW
  have E2 : Hid (∀ (W : World), Tab W → Calls Tryd.prog 8 #[.agg #[.int .i64 op, .int .i64 rd, .int .i64 r1', .int .i64 r2', .int .i64 n']] W fun e w' => e = .returned (.tuple #[.int .u32 (wordI op rd r1' r2' n'), .int .i64 0]) ∧ Below W.heap.size W w') := fun W hW => encode8_yes op rd r1' r2' n' h' W hW
  have T1 : Hid (∀ (W : World), Pow W → Nam W → Calls Tryd.prog 15 #[.agg #[.int .i64 op, .int .i64 rd, .int .i64 r1, .int .i64 r2, .int .i64 n]] W fun e w' => e = .returned (.tuple #[.string (tx (textT op rd r1 r2 n)), .int .i64 0]) ∧ Below W.heap.size W w') := fun W a b => text15_yes op rd r1 r2 n h W a b
  have T2 : Hid (∀ (W : World), Pow W → Nam W → Calls Tryd.prog 15 #[.agg #[.int .i64 op, .int .i64 rd, .int .i64 r1', .int .i64 r2', .int .i64 n']] W fun e w' => e = .returned (.tuple #[.string (tx (textT op rd r1' r2' n')), .int .i64 0]) ∧ Below W.heap.size W w') := fun W a b => text15_yes op rd r1' r2' n' h' W a b
  generalize wordI op rd r1 r2 n = X at *
  generalize wordI op rd r1' r2' n' = Y at *
  generalize textT op rd r1 r2 n = S at *
  generalize textT op rd r1' r2' n' = T at *
  have hS' : ¬ tx S = tx T := fun e => hS (tx_inj e)
  have hS2 : ((tx S).toList == (tx T).toList) = false := tl_ne hS
  have hS3 : ¬ (tx S).toList = (tx T).toList := fun e => by rw [e] at hS2; simp at hS2
  clear hT hN hP h h' hS
  go_enter Tryd.func7, Tryd.ntmps7
  go_wp2_with fail
  refine (R1.out _).mono ?_
  rintro e w1 ⟨rfl, hb⟩
  obtain ⟨⟨a0, a1, a2, a3, a4, a5⟩, b0, b1, b2, b3, b4, b5⟩ := box55 w (.int .i64 op) (.int .i64 rd) (.int .i64 r1) (.int .i64 r2) (.int .i64 n) (.int .i64 op) (.int .i64 rd) (.int .i64 r1') (.int .i64 r2') (.int .i64 n') 23 23
  obtain ⟨c0, c1, c2, c3, c4, c5⟩ := keepB a5 hb a0 a1 a2 a3 a4
  obtain ⟨d0, d1, d2, d3, d4, d5⟩ := keepB b5 hb b0 b1 b2 b3 b4
  have HB1 : Hid (Below w.heap.size w w1) := belowAA hb
  clear a0 a1 a2 a3 a4 a5 b0 b1 b2 b3 b4 b5 hb
  go_wp2_with fail
  refine (R2.out _).mono ?_
  rintro e w2 ⟨rfl, hb⟩
  obtain ⟨a0, a1, a2, a3, a4, a5⟩ := keepB c5 hb c0 c1 c2 c3 c4
  obtain ⟨b0, b1, b2, b3, b4, b5⟩ := keepB d5 hb d0 d1 d2 d3 d4
  have HB2 : Hid (Below w.heap.size w w2) := HB1.out.trans (hb.mono (by omega))
  clear c0 c1 c2 c3 c4 c5 d0 d1 d2 d3 d4 d5 hb HB1
  go_wp2_with fail
  refine (E1.out _ (HT.out.below HB2.out)).mono ?_
  rintro e w3 ⟨rfl, hb⟩
  obtain ⟨c0, c1, c2, c3, c4, c5⟩ := keepB a5 hb a0 a1 a2 a3 a4
  obtain ⟨d0, d1, d2, d3, d4, d5⟩ := keepB b5 hb b0 b1 b2 b3 b4
  have HB3 : Hid (Below w.heap.size w w3) := HB2.out.trans (hb.mono (by omega))
  clear a0 a1 a2 a3 a4 a5 b0 b1 b2 b3 b4 b5 hb HB2
  go_wp2_with fail
  refine (E2.out _ (HT.out.below HB3.out)).mono ?_
  rintro e w4 ⟨rfl, hb⟩
  obtain ⟨a0, a1, a2, a3, a4, a5⟩ := keepB c5 hb c0 c1 c2 c3 c4
  obtain ⟨b0, b1, b2, b3, b4, b5⟩ := keepB d5 hb d0 d1 d2 d3 d4
  have HB4 : Hid (Below w.heap.size w w4) := HB3.out.trans (hb.mono (by omega))
  clear c0 c1 c2 c3 c4 c5 d0 d1 d2 d3 d4 d5 hb HB3
  go_wp2_with fail
  refine (T1.out _ (HP.out.below HB4.out) (HN.out.below HB4.out)).mono ?_
  rintro e w5 ⟨rfl, hb⟩
  obtain ⟨c0, c1, c2, c3, c4, c5⟩ := keepB a5 hb a0 a1 a2 a3 a4
  obtain ⟨d0, d1, d2, d3, d4, d5⟩ := keepB b5 hb b0 b1 b2 b3 b4
  have HB5 : Hid (Below w.heap.size w w5) := HB4.out.trans (hb.mono (by omega))
  clear a0 a1 a2 a3 a4 a5 b0 b1 b2 b3 b4 b5 hb HB4
  go_wp2_with fail
  refine (T2.out _ (HP.out.below HB5.out) (HN.out.below HB5.out)).mono ?_
  rintro e w6 ⟨rfl, hb⟩
  obtain ⟨a0, a1, a2, a3, a4, a5⟩ := keepB c5 hb c0 c1 c2 c3 c4
  obtain ⟨b0, b1, b2, b3, b4, b5⟩ := keepB d5 hb d0 d1 d2 d3 d4
  have HB6 : Hid (Below w.heap.size w w6) := HB5.out.trans (hb.mono (by omega))
  clear c0 c1 c2 c3 c4 c5 d0 d1 d2 d3 d4 d5 hb HB5
  go_wp2_with fail
  refine (small12 _ (HT.out.below HB6.out)).mono ?_
  rintro e w7 ⟨rfl, hb⟩
  go_wp2
  go_ret
  exact ⟨ret_bool (by simpa using hX), HB6.out.trans (hb.mono (by omega))⟩
set_option maxHeartbeats 2000000 in
theorem apart_3 (op rd r1 r2 n r2' n' : Int) (h : rightB op rd r1 r2 n = true) (h' : rightB op rd r1 r2' n' = true) (hne : ¬ r2 = r2') (w : World) (hT : Tab w) (hN : Nam w) (hP : Pow w) :
    Calls Tryd.prog 7 #[.agg #[.int .i64 op, .int .i64 rd, .int .i64 r1, .int .i64 r2, .int .i64 n], .agg #[.int .i64 op, .int .i64 rd, .int .i64 r1, .int .i64 r2', .int .i64 n']] w fun e w' => e = .returned (.bool true) ∧ Below w.heap.size w w' := by
  have HT : Hid (Tab w) := hT
  have HN : Hid (Nam w) := hN
  have HP : Hid (Pow w) := hP
  have hX : ¬ wordI op rd r1 r2 n = wordI op rd r1 r2' n' := fun e => hne (word_inj h h' e).2.2.2.1
  have hS : ¬ textT op rd r1 r2 n = textT op rd r1 r2' n' := fun e => hne (text_inj h h' e).2.2.2.1
  have R1 : Hid (∀ (W : World), Calls Tryd.prog 24 #[.agg #[.int .i64 op, .int .i64 rd, .int .i64 r1, .int .i64 r2, .int .i64 n]] W fun e w' => e = .returned (.bool true) ∧ Below W.heap.size W w') := fun W => by have t := right24 op rd r1 r2 n W; rw [h] at t; exact t
  have R2 : Hid (∀ (W : World), Calls Tryd.prog 24 #[.agg #[.int .i64 op, .int .i64 rd, .int .i64 r1, .int .i64 r2', .int .i64 n']] W fun e w' => e = .returned (.bool true) ∧ Below W.heap.size W w') := fun W => by have t := right24 op rd r1 r2' n' W; rw [h'] at t; exact t
  have E1 : Hid (∀ (W : World), Tab W → Calls Tryd.prog 8 #[.agg #[.int .i64 op, .int .i64 rd, .int .i64 r1, .int .i64 r2, .int .i64 n]] W fun e w' => e = .returned (.tuple #[.int .u32 (wordI op rd r1 r2 n), .int .i64 0]) ∧ Below W.heap.size W w') := fun W hW => encode8_yes op rd r1 r2 n h W hW
  have E2 : Hid (∀ (W : World), Tab W → Calls Tryd.prog 8 #[.agg #[.int .i64 op, .int .i64 rd, .int .i64 r1, .int .i64 r2', .int .i64 n']] W fun e w' => e = .returned (.tuple #[.int .u32 (wordI op rd r1 r2' n'), .int .i64 0]) ∧ Below W.heap.size W w') := fun W hW => encode8_yes op rd r1 r2' n' h' W hW
  have T1 : Hid (∀ (W : World), Pow W → Nam W → Calls Tryd.prog 15 #[.agg #[.int .i64 op, .int .i64 rd, .int .i64 r1, .int .i64 r2, .int .i64 n]] W fun e w' => e = .returned (.tuple #[.string (tx (textT op rd r1 r2 n)), .int .i64 0]) ∧ Below W.heap.size W w') := fun W a b => text15_yes op rd r1 r2 n h W a b
  have T2 : Hid (∀ (W : World), Pow W → Nam W → Calls Tryd.prog 15 #[.agg #[.int .i64 op, .int .i64 rd, .int .i64 r1, .int .i64 r2', .int .i64 n']] W fun e w' => e = .returned (.tuple #[.string (tx (textT op rd r1 r2' n')), .int .i64 0]) ∧ Below W.heap.size W w') := fun W a b => text15_yes op rd r1 r2' n' h' W a b
  generalize wordI op rd r1 r2 n = X at *
  generalize wordI op rd r1 r2' n' = Y at *
  generalize textT op rd r1 r2 n = S at *
  generalize textT op rd r1 r2' n' = T at *
  have hS' : ¬ tx S = tx T := fun e => hS (tx_inj e)
  have hS2 : ((tx S).toList == (tx T).toList) = false := tl_ne hS
  have hS3 : ¬ (tx S).toList = (tx T).toList := fun e => by rw [e] at hS2; simp at hS2
  clear hT hN hP h h' hS
  go_enter Tryd.func7, Tryd.ntmps7
  go_wp2_with fail
  refine (R1.out _).mono ?_
  rintro e w1 ⟨rfl, hb⟩
  obtain ⟨⟨a0, a1, a2, a3, a4, a5⟩, b0, b1, b2, b3, b4, b5⟩ := box55 w (.int .i64 op) (.int .i64 rd) (.int .i64 r1) (.int .i64 r2) (.int .i64 n) (.int .i64 op) (.int .i64 rd) (.int .i64 r1) (.int .i64 r2') (.int .i64 n') 23 23
  obtain ⟨c0, c1, c2, c3, c4, c5⟩ := keepB a5 hb a0 a1 a2 a3 a4
  obtain ⟨d0, d1, d2, d3, d4, d5⟩ := keepB b5 hb b0 b1 b2 b3 b4
  have HB1 : Hid (Below w.heap.size w w1) := belowAA hb
  clear a0 a1 a2 a3 a4 a5 b0 b1 b2 b3 b4 b5 hb
  go_wp2_with fail
  refine (R2.out _).mono ?_
  rintro e w2 ⟨rfl, hb⟩
  obtain ⟨a0, a1, a2, a3, a4, a5⟩ := keepB c5 hb c0 c1 c2 c3 c4
  obtain ⟨b0, b1, b2, b3, b4, b5⟩ := keepB d5 hb d0 d1 d2 d3 d4
  have HB2 : Hid (Below w.heap.size w w2) := HB1.out.trans (hb.mono (by omega))
  clear c0 c1 c2 c3 c4 c5 d0 d1 d2 d3 d4 d5 hb HB1
  go_wp2_with fail
  refine (E1.out _ (HT.out.below HB2.out)).mono ?_
  rintro e w3 ⟨rfl, hb⟩
  obtain ⟨c0, c1, c2, c3, c4, c5⟩ := keepB a5 hb a0 a1 a2 a3 a4
  obtain ⟨d0, d1, d2, d3, d4, d5⟩ := keepB b5 hb b0 b1 b2 b3 b4
  have HB3 : Hid (Below w.heap.size w w3) := HB2.out.trans (hb.mono (by omega))
  clear a0 a1 a2 a3 a4 a5 b0 b1 b2 b3 b4 b5 hb HB2
  go_wp2_with fail
  refine (E2.out _ (HT.out.below HB3.out)).mono ?_
  rintro e w4 ⟨rfl, hb⟩
  obtain ⟨a0, a1, a2, a3, a4, a5⟩ := keepB c5 hb c0 c1 c2 c3 c4
  obtain ⟨b0, b1, b2, b3, b4, b5⟩ := keepB d5 hb d0 d1 d2 d3 d4
  have HB4 : Hid (Below w.heap.size w w4) := HB3.out.trans (hb.mono (by omega))
  clear c0 c1 c2 c3 c4 c5 d0 d1 d2 d3 d4 d5 hb HB3
  go_wp2_with fail
  refine (T1.out _ (HP.out.below HB4.out) (HN.out.below HB4.out)).mono ?_
  rintro e w5 ⟨rfl, hb⟩
  obtain ⟨c0, c1, c2, c3, c4, c5⟩ := keepB a5 hb a0 a1 a2 a3 a4
  obtain ⟨d0, d1, d2, d3, d4, d5⟩ := keepB b5 hb b0 b1 b2 b3 b4
  have HB5 : Hid (Below w.heap.size w w5) := HB4.out.trans (hb.mono (by omega))
  clear a0 a1 a2 a3 a4 a5 b0 b1 b2 b3 b4 b5 hb HB4
  go_wp2_with fail
  refine (T2.out _ (HP.out.below HB5.out) (HN.out.below HB5.out)).mono ?_
  rintro e w6 ⟨rfl, hb⟩
  obtain ⟨a0, a1, a2, a3, a4, a5⟩ := keepB c5 hb c0 c1 c2 c3 c4
  obtain ⟨b0, b1, b2, b3, b4, b5⟩ := keepB d5 hb d0 d1 d2 d3 d4
  have HB6 : Hid (Below w.heap.size w w6) := HB5.out.trans (hb.mono (by omega))
  clear c0 c1 c2 c3 c4 c5 d0 d1 d2 d3 d4 d5 hb HB5
  go_wp2_with fail
  refine (small12 _ (HT.out.below HB6.out)).mono ?_
  rintro e w7 ⟨rfl, hb⟩
  go_wp2
  go_ret
  exact ⟨ret_bool (by simpa using hX), HB6.out.trans (hb.mono (by omega))⟩
set_option maxHeartbeats 2000000 in
theorem apart_4 (op rd r1 r2 n n' : Int) (h : rightB op rd r1 r2 n = true) (h' : rightB op rd r1 r2 n' = true) (hne : ¬ n = n') (w : World) (hT : Tab w) (hN : Nam w) (hP : Pow w) :
    Calls Tryd.prog 7 #[.agg #[.int .i64 op, .int .i64 rd, .int .i64 r1, .int .i64 r2, .int .i64 n], .agg #[.int .i64 op, .int .i64 rd, .int .i64 r1, .int .i64 r2, .int .i64 n']] w fun e w' => e = .returned (.bool true) ∧ Below w.heap.size w w' := by
  have HT : Hid (Tab w) := hT
  have HN : Hid (Nam w) := hN
  have HP : Hid (Pow w) := hP
  have hX : ¬ wordI op rd r1 r2 n = wordI op rd r1 r2 n' := fun e => hne (word_inj h h' e).2.2.2.2
  have hS : ¬ textT op rd r1 r2 n = textT op rd r1 r2 n' := fun e => hne (text_inj h h' e).2.2.2.2
  have R1 : Hid (∀ (W : World), Calls Tryd.prog 24 #[.agg #[.int .i64 op, .int .i64 rd, .int .i64 r1, .int .i64 r2, .int .i64 n]] W fun e w' => e = .returned (.bool true) ∧ Below W.heap.size W w') := fun W => by have t := right24 op rd r1 r2 n W; rw [h] at t; exact t
  have R2 : Hid (∀ (W : World), Calls Tryd.prog 24 #[.agg #[.int .i64 op, .int .i64 rd, .int .i64 r1, .int .i64 r2, .int .i64 n']] W fun e w' => e = .returned (.bool true) ∧ Below W.heap.size W w') := fun W => by have t := right24 op rd r1 r2 n' W; rw [h'] at t; exact t
  have E1 : Hid (∀ (W : World), Tab W → Calls Tryd.prog 8 #[.agg #[.int .i64 op, .int .i64 rd, .int .i64 r1, .int .i64 r2, .int .i64 n]] W fun e w' => e = .returned (.tuple #[.int .u32 (wordI op rd r1 r2 n), .int .i64 0]) ∧ Below W.heap.size W w') := fun W hW => encode8_yes op rd r1 r2 n h W hW
  have E2 : Hid (∀ (W : World), Tab W → Calls Tryd.prog 8 #[.agg #[.int .i64 op, .int .i64 rd, .int .i64 r1, .int .i64 r2, .int .i64 n']] W fun e w' => e = .returned (.tuple #[.int .u32 (wordI op rd r1 r2 n'), .int .i64 0]) ∧ Below W.heap.size W w') := fun W hW => encode8_yes op rd r1 r2 n' h' W hW
  have T1 : Hid (∀ (W : World), Pow W → Nam W → Calls Tryd.prog 15 #[.agg #[.int .i64 op, .int .i64 rd, .int .i64 r1, .int .i64 r2, .int .i64 n]] W fun e w' => e = .returned (.tuple #[.string (tx (textT op rd r1 r2 n)), .int .i64 0]) ∧ Below W.heap.size W w') := fun W a b => text15_yes op rd r1 r2 n h W a b
  have T2 : Hid (∀ (W : World), Pow W → Nam W → Calls Tryd.prog 15 #[.agg #[.int .i64 op, .int .i64 rd, .int .i64 r1, .int .i64 r2, .int .i64 n']] W fun e w' => e = .returned (.tuple #[.string (tx (textT op rd r1 r2 n')), .int .i64 0]) ∧ Below W.heap.size W w') := fun W a b => text15_yes op rd r1 r2 n' h' W a b
  generalize wordI op rd r1 r2 n = X at *
  generalize wordI op rd r1 r2 n' = Y at *
  generalize textT op rd r1 r2 n = S at *
  generalize textT op rd r1 r2 n' = T at *
  have hS' : ¬ tx S = tx T := fun e => hS (tx_inj e)
  have hS2 : ((tx S).toList == (tx T).toList) = false := tl_ne hS
  have hS3 : ¬ (tx S).toList = (tx T).toList := fun e => by rw [e] at hS2; simp at hS2
  clear hT hN hP h h' hS
  go_enter Tryd.func7, Tryd.ntmps7
  go_wp2_with fail
  refine (R1.out _).mono ?_
  rintro e w1 ⟨rfl, hb⟩
  obtain ⟨⟨a0, a1, a2, a3, a4, a5⟩, b0, b1, b2, b3, b4, b5⟩ := box55 w (.int .i64 op) (.int .i64 rd) (.int .i64 r1) (.int .i64 r2) (.int .i64 n) (.int .i64 op) (.int .i64 rd) (.int .i64 r1) (.int .i64 r2) (.int .i64 n') 23 23
  obtain ⟨c0, c1, c2, c3, c4, c5⟩ := keepB a5 hb a0 a1 a2 a3 a4
  obtain ⟨d0, d1, d2, d3, d4, d5⟩ := keepB b5 hb b0 b1 b2 b3 b4
  have HB1 : Hid (Below w.heap.size w w1) := belowAA hb
  clear a0 a1 a2 a3 a4 a5 b0 b1 b2 b3 b4 b5 hb
  go_wp2_with fail
  refine (R2.out _).mono ?_
  rintro e w2 ⟨rfl, hb⟩
  obtain ⟨a0, a1, a2, a3, a4, a5⟩ := keepB c5 hb c0 c1 c2 c3 c4
  obtain ⟨b0, b1, b2, b3, b4, b5⟩ := keepB d5 hb d0 d1 d2 d3 d4
  have HB2 : Hid (Below w.heap.size w w2) := HB1.out.trans (hb.mono (by omega))
  clear c0 c1 c2 c3 c4 c5 d0 d1 d2 d3 d4 d5 hb HB1
  go_wp2_with fail
  refine (E1.out _ (HT.out.below HB2.out)).mono ?_
  rintro e w3 ⟨rfl, hb⟩
  obtain ⟨c0, c1, c2, c3, c4, c5⟩ := keepB a5 hb a0 a1 a2 a3 a4
  obtain ⟨d0, d1, d2, d3, d4, d5⟩ := keepB b5 hb b0 b1 b2 b3 b4
  have HB3 : Hid (Below w.heap.size w w3) := HB2.out.trans (hb.mono (by omega))
  clear a0 a1 a2 a3 a4 a5 b0 b1 b2 b3 b4 b5 hb HB2
  go_wp2_with fail
  refine (E2.out _ (HT.out.below HB3.out)).mono ?_
  rintro e w4 ⟨rfl, hb⟩
  obtain ⟨a0, a1, a2, a3, a4, a5⟩ := keepB c5 hb c0 c1 c2 c3 c4
  obtain ⟨b0, b1, b2, b3, b4, b5⟩ := keepB d5 hb d0 d1 d2 d3 d4
  have HB4 : Hid (Below w.heap.size w w4) := HB3.out.trans (hb.mono (by omega))
  clear c0 c1 c2 c3 c4 c5 d0 d1 d2 d3 d4 d5 hb HB3
  go_wp2_with fail
  refine (T1.out _ (HP.out.below HB4.out) (HN.out.below HB4.out)).mono ?_
  rintro e w5 ⟨rfl, hb⟩
  obtain ⟨c0, c1, c2, c3, c4, c5⟩ := keepB a5 hb a0 a1 a2 a3 a4
  obtain ⟨d0, d1, d2, d3, d4, d5⟩ := keepB b5 hb b0 b1 b2 b3 b4
  have HB5 : Hid (Below w.heap.size w w5) := HB4.out.trans (hb.mono (by omega))
  clear a0 a1 a2 a3 a4 a5 b0 b1 b2 b3 b4 b5 hb HB4
  go_wp2_with fail
  refine (T2.out _ (HP.out.below HB5.out) (HN.out.below HB5.out)).mono ?_
  rintro e w6 ⟨rfl, hb⟩
  obtain ⟨a0, a1, a2, a3, a4, a5⟩ := keepB c5 hb c0 c1 c2 c3 c4
  obtain ⟨b0, b1, b2, b3, b4, b5⟩ := keepB d5 hb d0 d1 d2 d3 d4
  have HB6 : Hid (Below w.heap.size w w6) := HB5.out.trans (hb.mono (by omega))
  clear c0 c1 c2 c3 c4 c5 d0 d1 d2 d3 d4 d5 hb HB5
  go_wp2_with fail
  refine (small12 _ (HT.out.below HB6.out)).mono ?_
  rintro e w7 ⟨rfl, hb⟩
  go_wp2
  go_ret
  exact ⟨ret_bool (by simpa using hX), HB6.out.trans (hb.mono (by omega))⟩
end Go.Proofs.YtndbkkldfinggaaDoor
