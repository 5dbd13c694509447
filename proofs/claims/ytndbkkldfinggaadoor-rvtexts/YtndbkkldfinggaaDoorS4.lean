/- Walks of an instruction's text. -/
import Derived.Test.YtndbkkldfinggaaDoorS3
namespace Go.Proofs.YtndbkkldfinggaaDoor
open Go.RowKit
theorem reg_len (r : Int) (h0 : 0 ≤ r) (h1 : r ≤ 31) : (regT r).length ≤ 3 := by have := reg_size r h0 h1; rwa [tx_size] at this
theorem itoa_len (n : Int) (h0 : -1048576 ≤ n) (h1 : n ≤ 1048574) : (Lib.itoa n).length ≤ 8 := by have := itoa_size n h0 h1; rwa [tx_size] at this
theorem join_two (a b : List UInt8) : Lib.join [a, b] [44] = a ++ (44 :: b) := by simp [Lib.join, List.intercalate, List.intersperse]
theorem join_three (a b c : List UInt8) : Lib.join [a, b, c] [44] = a ++ (44 :: (b ++ (44 :: c))) := by simp [Lib.join, List.intercalate, List.intersperse]
theorem join_len {op rd r1 r2 n : Int} (h : rightB op rd r1 r2 n = true) : (Lib.join (opsT (nth plL op) rd r1 r2 n) [44]).length ≤ 40 := by
  obtain ⟨⟨d0, d1⟩, ⟨a0, a1⟩, ⟨b0, b1⟩, ⟨n0, n1⟩⟩ := right_ranges h
  have t1 := reg_len rd d0 d1
  have t2 := reg_len r1 a0 a1
  have t3 := reg_len r2 b0 b1
  have t4 := itoa_len n n0 n1
  unfold opsT offT
  split
  · simp [join_two]; omega
  split
  · simp [join_three]; omega
  split
  · simp [join_two]; omega
  split
  · simp [join_two]; omega
  split
  · simp [join_three]; omega
  split
  · simp [join_three]; omega
  · simp [Lib.join, List.intercalate]
theorem map_tx (L : List (List UInt8)) : (L.map tx).map (fun x => x.data.toList) = L := by simp [tx, Function.comp_def]
theorem join35 (L : List (List UInt8)) (bk : Nat) (w : World) (hL : ∀ (j : Nat) x, (L.map tx)[j]? = some x → w.cell? ⟨bk, 0 + j, none⟩ = some (.string x)) (hbk : bk < w.heap.size) (hk : L.length ≤ 3) (hs : (Lib.join L [44]).length ≤ 40) :
    Calls Tryd.prog 35 #[.slice (some ⟨bk, 0, none⟩) L.length L.length, .string ⟨#[44]⟩] w fun e w' => e = .returned (.string (tx (Lib.join L [44]))) ∧ Below w.heap.size w w' := by
  have t := Tryd.strings_Join bk 0 L.length (L.map tx) ⟨#[44]⟩ w hL hbk (by simp; omega) (by simp) (by rw [map_tx]; exact Nat.le_trans hs (by decide))
  rw [map_tx, List.length_map] at t
  exact t
theorem text_tx (a b : List UInt8) : tx a ++ ⟨#[32]⟩ ++ tx b = tx (a ++ 32 :: b) := by
  rw [show (⟨#[32]⟩ : ByteArray) = tx [32] from rfl, tx_app, tx_app, List.append_assoc]; rfl
theorem ret_twoS {a b : ByteArray} {k : Value} (h : a = b) : Ending.returned (.tuple #[.string a, k]) = .returned (.tuple #[.string b, k]) := by rw [h]
theorem sums (a b : List UInt8) (ha : a.length ≤ 6) (hb : b.length ≤ 40) : ¬ 9223372036854775807 < (tx a).size + (⟨#[32]⟩ : ByteArray).size ∧ ¬ 9223372036854775807 < (tx a ++ (⟨#[32]⟩ : ByteArray)).size + (tx b).size := by
  rw [show (⟨#[32]⟩ : ByteArray) = tx [32] from rfl, tx_app, tx_size, tx_size, tx_size, tx_size, List.length_append]
  simp only [List.length_cons, List.length_nil]
  omega
/-- A right instruction's text. -/
def textT (op rd r1 r2 n : Int) : List UInt8 := if nth plL op = 78 then nameT op else nameT op ++ 32 :: Lib.join (opsT (nth plL op) rd r1 r2 n) [44]
set_option maxHeartbeats 1000000 in
theorem text15_N (op rd r1 r2 n : Int) (h : rightB op rd r1 r2 n = true) (hl : nth plL op = 78) (w : World) (hp : Pow w) (hN : Nam w) :
    Calls Tryd.prog 15 #[.agg #[.int .i64 op, .int .i64 rd, .int .i64 r1, .int .i64 r2, .int .i64 n]] w fun e w' => e = .returned (.tuple #[.string (tx (nameT op)), .int .i64 0]) ∧ Below w.heap.size w w' := by
  have HP : Hid (Pow w) := hp
  have HN : Hid (Nam w) := hN
  have HR : Hid (rightB op rd r1 r2 n = true) := h
  have HL : Hid (nth plL op = 78) := hl
  obtain ⟨o1, o2⟩ := ops_of_right h
  obtain ⟨⟨d0, d1⟩, ⟨a0, a1⟩, ⟨b0, b1⟩, ⟨n0, n1⟩⟩ := right_ranges h
  clear hp hN h hl
  go_enter Tryd.func15, Tryd.ntmps15
  go_wp2_with fail
  refine (check10_yes op rd r1 r2 n HR.out _).mono ?_
  rintro e w1 ⟨rfl, hb⟩
  obtain ⟨x0, x1, x2, x3, x4, x5⟩ := box5 w (.int .i64 op) (.int .i64 rd) (.int .i64 r1) (.int .i64 r2) (.int .i64 n) 23
  obtain ⟨c0, c1, c2, c3, c4, c5⟩ := keep5 (w := w) x5 hb x0 x1 x2 x3 x4
  have HB1 : Hid (Below w.heap.size w w1) := belowA hb
  clear x0 x1 x2 x3 x4 x5 hb
  go_wp2_with fail
  refine (operands34_78 op rd r1 r2 n HL.out d0 d1 a0 a1 b0 b1 n0 n1 _ (HP.out.below HB1.out)).mono ?_
  rintro e w2 ⟨rfl, hb⟩
  obtain ⟨e0, e1, e2, e3, e4, e5⟩ := keep5 (w := w) c5 hb c0 c1 c2 c3 c4
  have HB2 : Hid (Below w.heap.size w w2) := HB1.out.trans (hb.mono (by omega))
  have hc := (HN.out.below HB2.out).2 op (by omega) (by omega)
  clear c0 c1 c2 c3 c4 c5 hb HB1
  go_wp2
  go_ret2
  exact ⟨rfl, HB2.out⟩
set_option maxHeartbeats 1000000 in
theorem text15_L (op rd r1 r2 n : Int) (h : rightB op rd r1 r2 n = true) (hl : nth plL op ≠ 78) (w : World) (hp : Pow w) (hN : Nam w) :
    Calls Tryd.prog 15 #[.agg #[.int .i64 op, .int .i64 rd, .int .i64 r1, .int .i64 r2, .int .i64 n]] w fun e w' => e = .returned (.tuple #[.string (tx (textT op rd r1 r2 n)), .int .i64 0]) ∧ Below w.heap.size w w' := by
  have HP : Hid (Pow w) := hp
  have HN : Hid (Nam w) := hN
  have HR : Hid (rightB op rd r1 r2 n = true) := h
  have HL : Hid (nth plL op ≠ 78) := hl
  obtain ⟨o1, o2⟩ := ops_of_right h
  have HO : Hid (∀ (W : World), Pow W → Calls Tryd.prog 34 #[.agg #[.int .i64 op, .int .i64 rd, .int .i64 r1, .int .i64 r2, .int .i64 n]] W fun e w' => ∃ bk, e = .returned (.slice (some ⟨bk, 0, none⟩) (opsT (nth plL op) rd r1 r2 n).length (opsT (nth plL op) rd r1 r2 n).length) ∧ (∀ (j : Nat) x, ((opsT (nth plL op) rd r1 r2 n).map tx)[j]? = some x → w'.cell? ⟨bk, 0 + j, none⟩ = some (.string x)) ∧ bk < w'.heap.size ∧ Below W.heap.size W w') := fun W hW => operands34 op rd r1 r2 n h hl W hW
  have hk : (opsT (nth plL op) rd r1 r2 n).length = 2 ∨ (opsT (nth plL op) rd r1 r2 n).length = 3 := (opsT_len _ rd r1 r2 n (isL_of o1 o2)).resolve_left hl
  have hj := join_len h
  have ht : textT op rd r1 r2 n = nameT op ++ 32 :: Lib.join (opsT (nth plL op) rd r1 r2 n) [44] := if_neg hl
  rw [ht]
  clear hp hN h hl ht
  generalize opsT (nth plL op) rd r1 r2 n = L at *
  have k0 : ¬ L.length = 0 := by omega
  have z1 : (tx (nameT op)).size ≤ 6 := by rw [tx_size]; exact name_len op
  have z2 : (tx (Lib.join L [44])).size ≤ 40 := by rw [tx_size]; exact hj
  have q0 : 0 ≤ op := by omega
  have q1 : op < 66 := by omega
  obtain ⟨q2, q3⟩ := sums (nameT op) (Lib.join L [44]) (name_len op) hj
  have q4 : ¬ 9223372036854775807 ≤ (tx (nameT op)).size := by omega
  have q5 : ¬ 9223372036854775807 < (tx (nameT op)).size + 1 := by omega
  have q6 : ¬ 9223372036854775807 < (tx (nameT op)).size + 1 + (tx (Lib.join L [44])).size := by omega
  go_enter Tryd.func15, Tryd.ntmps15
  go_wp2_with fail
  refine (check10_yes op rd r1 r2 n HR.out _).mono ?_
  rintro e w1 ⟨rfl, hb⟩
  obtain ⟨x0, x1, x2, x3, x4, x5⟩ := box5 w (.int .i64 op) (.int .i64 rd) (.int .i64 r1) (.int .i64 r2) (.int .i64 n) 23
  obtain ⟨c0, c1, c2, c3, c4, c5⟩ := keep5 (w := w) x5 hb x0 x1 x2 x3 x4
  have HB1 : Hid (Below w.heap.size w w1) := belowA hb
  clear x0 x1 x2 x3 x4 x5 hb
  go_wp2_with fail
  refine (HO.out _ (HP.out.below HB1.out)).mono ?_
  rintro e w2 ⟨bk, rfl, hL, hbk, hb⟩
  obtain ⟨e0, e1, e2, e3, e4, e5⟩ := keep5 (w := w) c5 hb c0 c1 c2 c3 c4
  have HB2 : Hid (Below w.heap.size w w2) := HB1.out.trans (hb.mono (by omega))
  have hc := (HN.out.below HB2.out).2 op (by omega) (by omega)
  have HLL : Hid (∀ (j : Nat) x, (L.map tx)[j]? = some x → w2.cell? ⟨bk, 0 + j, none⟩ = some (.string x)) := hL
  clear c0 c1 c2 c3 c4 c5 hb HB1 hL
  go_wp2_with fail
  go_region_held3 (fun w' => w'.cell? ⟨w.heap.size, 0, none⟩ = some (.int .i64 op) ∧ w'.cell? ⟨1, op.toNat, none⟩ = some (.string (tx (nameT op)))) (go_keep)
    ((go_at_call 35; refine (join35 L bk w2.drew HLL.out hbk (by omega) hj).mono ?_; rintro e w3 ⟨rfl, hbw3⟩; have _g0 := (hbw3.cell (p := ⟨w.heap.size, 0, none⟩) e5).trans e0; have _g1 := (hbw3.cell (p := ⟨1, op.toNat, none⟩) (HN.out.below HB2.out).1).trans hc))
  all_goals
    go_wp2
    go_ret2
    exact ⟨ret_twoS (text_tx _ _), HB2.out.drew.trans (hbw3.mono HB2.out.size)⟩
end Go.Proofs.YtndbkkldfinggaaDoor
