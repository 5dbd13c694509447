/- The walk of the statement RvTexts. -/
import Derived.Test.YtndbkkldfinggaaDoorT4
import Derived.Test.YtndbkkldfinggaaDoorS6
namespace Go.Proofs.YtndbkkldfinggaaDoor
open Go.RowKit
theorem owns_below {W W' : World} {B : Nat} {e : TypeId} {s n : Nat} {v : Value} {xs : List Value} (h : W.ownsRow B e s v n xs) (hb : Below W.heap.size W W') : W'.ownsRow B e s v n xs :=
  h.kept (row := none) ⟨hb.os, hb.tape, hb.output, hb.size, fun k hk _ => hb.block k hk⟩ (by cases hv : v.ownBlock <;> simp)
theorem Pow.new {w : World} (h : Pow w) (o : Obj) : Pow (w.alloc o) := h.below ((Below.refl w.heap.size w).alloc (Nat.le_refl _) o)
theorem Nam.new {w : World} (h : Nam w) (o : Obj) : Nam (w.alloc o) := h.below ((Below.refl w.heap.size w).alloc (Nat.le_refl _) o)
theorem rdI_len (op r1 r2 : Int) : (rdI op r1 r2).length ≤ 31 := by
  unfold rdI lhI
  split
  · simp
  · split <;> split <;> simp
set_option maxRecDepth 20000 in
set_option maxHeartbeats 2000000 in
theorem texts_yes (op rd r1 r2 n o : Int) (h : rightB op rd r1 r2 n = true) (w : World) (hT : Tab w) (hN : Nam w) (hP : Pow w) :
    Calls Tryd.prog 5 #[.agg #[.int .i64 op, .int .i64 rd, .int .i64 r1, .int .i64 r2, .int .i64 n], .int .i64 o] w fun e w' => e = .returned (.bool true) ∧ Below w.heap.size w w' := by
  have HT : Hid (Tab w) := hT
  have HN : Hid (Nam w) := hN
  have HP : Hid (Pow w) := hP
  have HR : Hid (rightB op rd r1 r2 n = true) := h
  have K1 : Hid (∀ (W : World), Pow W → Nam W → Calls Tryd.prog 15 #[.agg #[.int .i64 op, .int .i64 rd, .int .i64 r1, .int .i64 r2, .int .i64 n]] W fun e w' => e = .returned (.tuple #[.string (tx (textT op rd r1 r2 n)), .int .i64 0]) ∧ Below W.heap.size W w') := fun W a b => text15_yes op rd r1 r2 n HR.out W a b
  have K2 : Hid (∀ (W : World), Pow W → Calls Tryd.prog 16 #[.agg #[.int .i64 op, .int .i64 rd, .int .i64 r1, .int .i64 r2, .int .i64 n]] W fun e w' => e = .returned (.tuple #[.string (tx (textT op rd r1 r2 n)), .int .i64 0]) ∧ Below W.heap.size W w') := fun W a => text16_yes op rd r1 r2 n HR.out W a
  have K3 : Hid (∀ (W : World), Calls Tryd.prog 17 #[.agg #[.int .i64 op, .int .i64 rd, .int .i64 r1, .int .i64 r2, .int .i64 n]] W fun e w' => ∃ v, e = .returned (.tuple #[v, .int .i64 0]) ∧ w'.ownsRow W.heap.size 3 1 v (rdI op r1 r2).length ((rdI op r1 r2).map (Value.int .i64)) ∧ Below W.heap.size W w') := fun W => reads17_yes op rd r1 r2 n HR.out W
  have K4 : Hid (∀ (W : World), Calls Tryd.prog 18 #[.agg #[.int .i64 op, .int .i64 rd, .int .i64 r1, .int .i64 r2, .int .i64 n]] W fun e w' => ∃ v, e = .returned (.tuple #[v, .int .i64 0]) ∧ w'.ownsRow W.heap.size 3 1 v (rdI op r1 r2).length ((rdI op r1 r2).map (Value.int .i64)) ∧ Below W.heap.size W w') := fun W => reads18_yes op rd r1 r2 n HR.out W
  have K5 : Hid (∀ (W : World), Calls Tryd.prog 19 #[.agg #[.int .i64 op, .int .i64 rd, .int .i64 r1, .int .i64 r2, .int .i64 n]] W fun e w' => e = .returned (.tuple #[.int .i64 (wrI op rd), .int .i64 0]) ∧ Below W.heap.size W w') := fun W => writes19_yes op rd r1 r2 n HR.out W
  have K6 : Hid (∀ (W : World), Calls Tryd.prog 20 #[.agg #[.int .i64 op, .int .i64 rd, .int .i64 r1, .int .i64 r2, .int .i64 n]] W fun e w' => e = .returned (.tuple #[.int .i64 (wrI op rd), .int .i64 0]) ∧ Below W.heap.size W w') := fun W => writes20_yes op rd r1 r2 n HR.out W
  have HL : Hid ((rdI op r1 r2).length ≤ 31) := rdI_len op r1 r2
  generalize textT op rd r1 r2 n = S at *
  generalize rdI op r1 r2 = L at *
  generalize wrI op rd = X at *
  clear hT hN hP h
  go_enter Tryd.func5, Tryd.ntmps5
  go_wp2_with fail
  refine (K1.out _ (HP.out.new _) (HN.out.new _)).mono ?_
  rintro e w1 ⟨rfl, hb⟩
  obtain ⟨a0, a1, a2, a3, a4, a5⟩ := box5 w (.int .i64 op) (.int .i64 rd) (.int .i64 r1) (.int .i64 r2) (.int .i64 n) 23
  obtain ⟨c0, c1, c2, c3, c4, c5⟩ := keep5 (w := w) a5 hb a0 a1 a2 a3 a4
  have HB1 : Hid (Below w.heap.size w w1) := belowA hb
  clear hb a0 a1 a2 a3 a4 a5
  go_wp2_with fail
  refine (K2.out _ (HP.out.below HB1.out)).mono ?_
  rintro e w2 ⟨rfl, hb⟩
  obtain ⟨d0, d1, d2, d3, d4, d5⟩ := keep5 (w := w) c5 hb c0 c1 c2 c3 c4
  have HB2 : Hid (Below w.heap.size w w2) := HB1.out.trans (hb.mono (by omega))
  clear hb c0 c1 c2 c3 c4 c5 HB1 
  go_wp2_with fail
  refine (K3.out _).mono ?_
  rintro e w3 ⟨v3, rfl, ho3, hb⟩
  obtain ⟨c0, c1, c2, c3, c4, c5⟩ := keep5 (w := w) d5 hb d0 d1 d2 d3 d4
  have HB3 : Hid (Below w.heap.size w w3) := HB2.out.trans (hb.mono (by omega))
  have HO3_3 : Hid (w3.ownsRow w2.heap.size 3 1 v3 L.length (L.map (Value.int .i64))) := ho3
  clear hb d0 d1 d2 d3 d4 d5 HB2 ho3
  go_wp2_with fail
  refine (K4.out _).mono ?_
  rintro e w4 ⟨v4, rfl, ho4, hb⟩
  obtain ⟨d0, d1, d2, d3, d4, d5⟩ := keep5 (w := w) c5 hb c0 c1 c2 c3 c4
  have HB4 : Hid (Below w.heap.size w w4) := HB3.out.trans (hb.mono (by omega))
  have HO3_4 : Hid (w4.ownsRow w2.heap.size 3 1 v3 L.length (L.map (Value.int .i64))) := owns_below HO3_3.out hb
  have HO4_4 : Hid (w4.ownsRow w3.heap.size 3 1 v4 L.length (L.map (Value.int .i64))) := ho4
  clear hb c0 c1 c2 c3 c4 c5 HB3 HO3_3 ho4
  go_wp2_with fail
  refine (K5.out _).mono ?_
  rintro e w5 ⟨rfl, hb⟩
  obtain ⟨c0, c1, c2, c3, c4, c5⟩ := keep5 (w := w) d5 hb d0 d1 d2 d3 d4
  have HB5 : Hid (Below w.heap.size w w5) := HB4.out.trans (hb.mono (by omega))
  have HO3_5 : Hid (w5.ownsRow w2.heap.size 3 1 v3 L.length (L.map (Value.int .i64))) := owns_below HO3_4.out hb
  have HO4_5 : Hid (w5.ownsRow w3.heap.size 3 1 v4 L.length (L.map (Value.int .i64))) := owns_below HO4_4.out hb
  clear hb d0 d1 d2 d3 d4 d5 HB4 HO3_4 HO4_4
  go_wp2_with fail
  refine (K6.out _).mono ?_
  rintro e w6 ⟨rfl, hb⟩
  obtain ⟨d0, d1, d2, d3, d4, d5⟩ := keep5 (w := w) c5 hb c0 c1 c2 c3 c4
  have HB6 : Hid (Below w.heap.size w w6) := HB5.out.trans (hb.mono (by omega))
  have HO3_6 : Hid (w6.ownsRow w2.heap.size 3 1 v3 L.length (L.map (Value.int .i64))) := owns_below HO3_5.out hb
  have HO4_6 : Hid (w6.ownsRow w3.heap.size 3 1 v4 L.length (L.map (Value.int .i64))) := owns_below HO4_5.out hb
  clear hb c0 c1 c2 c3 c4 c5 HB5 HO3_5 HO4_5
  go_wp2_with fail
  refine (ints21 _ _ _ _ L HL.out _ HO3_6.out HO4_6.out).mono ?_
  rintro e w7 ⟨rfl, hb⟩
  have HB7 : Hid (Below w.heap.size w w7) := HB6.out.trans (hb.mono (by omega))
  have l7 : w.heap.size < w7.heap.size := by have := hb.size; omega
  clear hb d0 d1 d2 d3 d4 d5 HB6
  go_wp2_with fail
  refine (name22 o _ (HN.out.below HB7.out)).mono ?_
  rintro e w8 ⟨rfl, h8⟩
  subst h8
  go_wp2_with fail
  refine (name23 o _).mono ?_
  rintro e w9 ⟨rfl, hb⟩
  have HB9 : Hid (Below w.heap.size w w9) := HB7.out.trans (hb.mono (by omega))
  have l9 : w.heap.size < w9.heap.size := by have := hb.size; omega
  clear hb HB7 l7
  go_wp2_with fail
  refine (small12 _ (HT.out.below HB9.out)).mono ?_
  rintro e w10 ⟨rfl, hb⟩
  go_wp2
  go_ret
  exact ⟨rfl, HB9.out.trans (hb.mono (by omega))⟩
set_option maxRecDepth 20000 in
set_option maxHeartbeats 2000000 in
theorem texts_no (op rd r1 r2 n o : Int) (h : rightB op rd r1 r2 n = false) (w : World) (hT : Tab w) (hN : Nam w) (hP : Pow w) :
    Calls Tryd.prog 5 #[.agg #[.int .i64 op, .int .i64 rd, .int .i64 r1, .int .i64 r2, .int .i64 n], .int .i64 o] w fun e w' => e = .returned (.bool true) ∧ Below w.heap.size w w' := by
  have HT : Hid (Tab w) := hT
  have HN : Hid (Nam w) := hN
  have HP : Hid (Pow w) := hP
  have HR : Hid (rightB op rd r1 r2 n = false) := h
  clear hT hN hP h
  go_enter Tryd.func5, Tryd.ntmps5
  go_wp2_with fail
  refine (text15_no op rd r1 r2 n HR.out _).mono ?_
  rintro e w1 ⟨rfl, hb⟩
  obtain ⟨a0, a1, a2, a3, a4, a5⟩ := box5 w (.int .i64 op) (.int .i64 rd) (.int .i64 r1) (.int .i64 r2) (.int .i64 n) 23
  obtain ⟨c0, c1, c2, c3, c4, c5⟩ := keep5 (w := w) a5 hb a0 a1 a2 a3 a4
  have HB1 : Hid (Below w.heap.size w w1) := belowA hb
  clear hb a0 a1 a2 a3 a4 a5
  go_wp2_with fail
  refine (text16_no op rd r1 r2 n HR.out _).mono ?_
  rintro e w2 ⟨rfl, hb⟩
  obtain ⟨d0, d1, d2, d3, d4, d5⟩ := keep5 (w := w) c5 hb c0 c1 c2 c3 c4
  have HB2 : Hid (Below w.heap.size w w2) := HB1.out.trans (hb.mono (by omega))
  clear hb c0 c1 c2 c3 c4 c5 HB1 
  go_wp2_with fail
  refine (reads17_no op rd r1 r2 n HR.out _).mono ?_
  rintro e w3 ⟨rfl, hb⟩
  obtain ⟨c0, c1, c2, c3, c4, c5⟩ := keep5 (w := w) d5 hb d0 d1 d2 d3 d4
  have HB3 : Hid (Below w.heap.size w w3) := HB2.out.trans (hb.mono (by omega))
  clear hb d0 d1 d2 d3 d4 d5 HB2 
  go_wp2_with fail
  refine (reads18_no op rd r1 r2 n HR.out _).mono ?_
  rintro e w4 ⟨rfl, hb⟩
  obtain ⟨d0, d1, d2, d3, d4, d5⟩ := keep5 (w := w) c5 hb c0 c1 c2 c3 c4
  have HB4 : Hid (Below w.heap.size w w4) := HB3.out.trans (hb.mono (by omega))
  clear hb c0 c1 c2 c3 c4 c5 HB3 
  go_wp2_with fail
  refine (writes19_no op rd r1 r2 n HR.out _).mono ?_
  rintro e w5 ⟨rfl, hb⟩
  obtain ⟨c0, c1, c2, c3, c4, c5⟩ := keep5 (w := w) d5 hb d0 d1 d2 d3 d4
  have HB5 : Hid (Below w.heap.size w w5) := HB4.out.trans (hb.mono (by omega))
  clear hb d0 d1 d2 d3 d4 d5 HB4 
  go_wp2_with fail
  refine (writes20_no op rd r1 r2 n HR.out _).mono ?_
  rintro e w6 ⟨rfl, hb⟩
  obtain ⟨d0, d1, d2, d3, d4, d5⟩ := keep5 (w := w) c5 hb c0 c1 c2 c3 c4
  have HB6 : Hid (Below w.heap.size w w6) := HB5.out.trans (hb.mono (by omega))
  clear hb c0 c1 c2 c3 c4 c5 HB5 
  go_wp2_with fail
  refine (ints21_none none none 0 0 _).mono ?_
  rintro e w7 ⟨rfl, hb⟩
  have HB7 : Hid (Below w.heap.size w w7) := HB6.out.trans (hb.mono (by omega))
  have l7 : w.heap.size < w7.heap.size := by have := hb.size; omega
  clear hb d0 d1 d2 d3 d4 d5 HB6
  go_wp2_with fail
  refine (name22 o _ (HN.out.below HB7.out)).mono ?_
  rintro e w8 ⟨rfl, h8⟩
  subst h8
  go_wp2_with fail
  refine (name23 o _).mono ?_
  rintro e w9 ⟨rfl, hb⟩
  have HB9 : Hid (Below w.heap.size w w9) := HB7.out.trans (hb.mono (by omega))
  have l9 : w.heap.size < w9.heap.size := by have := hb.size; omega
  clear hb HB7 l7
  go_wp2_with fail
  refine (small12 _ (HT.out.below HB9.out)).mono ?_
  rintro e w10 ⟨rfl, hb⟩
  go_wp2
  go_ret
  exact ⟨rfl, HB9.out.trans (hb.mono (by omega))⟩
/-- RvTexts' walk. -/
theorem texts (op rd r1 r2 n o : Int) (w : World) (hT : Tab w) (hN : Nam w) (hP : Pow w) :
    Calls Tryd.prog 5 #[.agg #[.int .i64 op, .int .i64 rd, .int .i64 r1, .int .i64 r2, .int .i64 n], .int .i64 o] w fun e w' => e = .returned (.bool true) ∧ Below w.heap.size w w' := by
  cases h : rightB op rd r1 r2 n
  · exact texts_no op rd r1 r2 n o h w hT hN hP
  · exact texts_yes op rd r1 r2 n o h w hT hN hP
end Go.Proofs.YtndbkkldfinggaaDoor
