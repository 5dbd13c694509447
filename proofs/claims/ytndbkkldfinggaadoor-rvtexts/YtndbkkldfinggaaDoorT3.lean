/- Walks of the registers that an instruction reads, as the document has them. -/
import Derived.Test.YtndbkkldfinggaaDoorT2
import Derived.Test.YtndbkkldfinggaaDoorG1
import Derived.LoopTactic
namespace Go.Proofs.YtndbkkldfinggaaDoor
open Go.RowKit
/-- Those of the first k registers from 1 on that are one of two. -/
def flI (r1 r2 : Int) (k : Nat) : List Int := ((List.range k).map fun j : Nat => ((j : Int) + 1)).filter fun r => r1 == r || r2 == r
theorem flI_hit {r1 r2 : Int} {k : Nat} (h : r1 = (k : Int) + 1 ∨ r2 = (k : Int) + 1) : flI r1 r2 (k + 1) = flI r1 r2 k ++ [(k : Int) + 1] := by
  unfold flI
  rw [List.range_succ, List.map_append, List.filter_append]
  congr 1
  simp only [List.map_cons, List.map_nil]
  rw [List.filter_cons_of_pos (by simpa using h)]
  rfl
theorem flI_miss {r1 r2 : Int} {k : Nat} (h1 : ¬ r1 = (k : Int) + 1) (h2 : ¬ r2 = (k : Int) + 1) : flI r1 r2 (k + 1) = flI r1 r2 k := by
  unfold flI
  rw [List.range_succ, List.map_append, List.filter_append]
  simp only [List.map_cons, List.map_nil]
  rw [List.filter_cons_of_neg (by simp [h1, h2])]
  simp
theorem flI_len (r1 r2 : Int) (k : Nat) : (flI r1 r2 k).length ≤ k := by
  unfold flI
  refine Nat.le_trans (List.length_filter_le _ _) ?_
  simp
theorem flI_all {r1 r2 : Int} (a0 : 0 ≤ r1) (a1 : r1 ≤ 31) (b0 : 0 ≤ r2) (b1 : r2 ≤ 31) : flI r1 r2 31 = lhI r1 r2 := by
  have t : ∀ i j : Fin 32, flI (i.val : Int) (j.val : Int) 31 = lhI (i.val : Int) (j.val : Int) := by decide +kernel
  have := t ⟨r1.toNat, by omega⟩ ⟨r2.toNat, by omega⟩
  simpa [Int.toNat_of_nonneg a0, Int.toNat_of_nonneg b0] using this
theorem rel_hit {w' : World} {B : Nat} {v' : Value} {r1 r2 : Int} {k : Nat} (h : r1 = (k : Int) + 1 ∨ r2 = (k : Int) + 1) (hown : w'.ownsRow B 3 1 v' ((flI r1 r2 k).length + 1) ((flI r1 r2 k).map (Value.int .i64) ++ [.int .i64 ((k : Int) + 1)])) : w'.ownsRow B 3 1 v' (flI r1 r2 (k + 1)).length ((flI r1 r2 (k + 1)).map (Value.int .i64)) := by
  rw [flI_hit h, List.length_append, List.map_append]
  exact hown
set_option maxRecDepth 20000 in
set_option maxHeartbeats 2000000 in
theorem reads18_main (op rd r1 r2 n : Int) (a b : Bool) (h : rightB op rd r1 r2 n = true) (ho : ¬ op = 64) (ha : nR1 (pOf (nth rlL op)) = a) (hb : nR2 (pOf (nth rlL op)) = b) (za : a = false → r1 = 0) (zb : b = false → r2 = 0) (w : World) :
    Calls Tryd.prog 18 #[.agg #[.int .i64 op, .int .i64 rd, .int .i64 r1, .int .i64 r2, .int .i64 n]] w fun e w' => ∃ v, e = .returned (.tuple #[v, .int .i64 0]) ∧ w'.ownsRow w.heap.size 3 1 v (flI r1 r2 31).length ((flI r1 r2 31).map (Value.int .i64)) ∧ Below w.heap.size w w' := by
  have HR : Hid (rightB op rd r1 r2 n = true) := h
  have HF : Hid (IsR (nth rlL op)) := isR_of op
  have HA : Hid (nR1 (pOf (nth rlL op)) = a) := ha
  have HB : Hid (nR2 (pOf (nth rlL op)) = b) := hb
  have HZ : Hid ((a = false → r1 = 0) ∧ (b = false → r2 = 0)) := ⟨za, zb⟩
  have hfield := field74
  clear h ha hb za zb
  go_enter Tryd.func18, Tryd.ntmps18
  go_wp2_with fail
  refine (right24 op rd r1 r2 n _).mono ?_
  rw [HR.out]
  rintro e w1 ⟨rfl, hb⟩
  obtain ⟨a0, a1, a2, a3, a4, a5⟩ := box5 w (.int .i64 op) (.int .i64 rd) (.int .i64 r1) (.int .i64 r2) (.int .i64 n) 23
  obtain ⟨c0, c1, c2, c3, c4, c5⟩ := keep5 (w := w) a5 hb a0 a1 a2 a3 a4
  have HB1 : Hid (Below w.heap.size w w1) := belowA hb
  clear hb a0 a1 a2 a3 a4 a5
  go_wp2_with fail
  refine (formOf37 op _).mono ?_
  rintro e w2 ⟨rfl, hb⟩
  obtain ⟨a0, a1, a2, a3, a4, a5⟩ := keep5 (w := w) c5 hb c0 c1 c2 c3 c4
  have HB2 : Hid (Below w.heap.size w w2) := HB1.out.trans (hb.mono (by omega))
  clear hb c0 c1 c2 c3 c4 c5 HB1
  go_wp2_with fail
  refine (has39 _ HF.out _).mono ?_
  rw [HA.out, HB.out]
  rintro e w3 ⟨rfl, h3⟩
  subst h3
  have HA2 : Hid (w3.cell? ⟨w.heap.size, 2, none⟩ = some (.int .i64 r1)) := a2
  have HA3 : Hid (w3.cell? ⟨w.heap.size, 3, none⟩ = some (.int .i64 r2)) := a3
  have HS : Hid (w.heap.size < w3.heap.size) := a5
  go_wp2_with fail
  clear a0 a1 a2 a3 a4 a5
  go_loopw [7, 8] (fun v x wr => ∃ k : Nat, k ≤ 31 ∧ x = .int .i64 ((k : Int) + 1) ∧ wr.ownsRow w3.heap.size 3 1 v (flI r1 r2 k).length ((flI r1 r2 k).map (Value.int .i64)) ∧ wr.cell? ⟨w.heap.size, 2, none⟩ = some (.int .i64 r1) ∧ wr.cell? ⟨w.heap.size, 3, none⟩ = some (.int .i64 r2) ∧ Below w3.heap.size w3 wr) (fun _ x _ => (33 - intOf x).toNat)
  case atStart => exact ⟨0, by omega, rfl, World.ownsRow_nil _ _ _ _, HA2.out, HA3.out, Below.refl _ _⟩
  case round =>
    obtain ⟨k, hk, rfl, hown, hc1, hc2, hbk⟩ := hrel
    have HO : Hid (wr.ownsRow w3.heap.size 3 1 u7 (flI r1 r2 k).length ((flI r1 r2 k).map (Value.int .i64))) := hown
    have HK : Hid (Below w3.heap.size w3 wr) := hbk
    clear hown hbk
    obtain ⟨i0, hi, hz0, hz1, hz2⟩ := info_parts info3
    have HI : Hid (Tryd.prog.info? 3 = some i0 ∧ i0.zero = some (.int .i64 0) ∧ i0.size = 1 ∧ i0.bytes = 8) := ⟨hi, hz0, hz1, hz2⟩
    clear hi hz0 hz1 hz2
    by_cases h31 : k < 31
    · have q1 : (k : Int) + 1 < 32 := by omega
      by_cases p1 : r1 = (k : Int) + 1
      · have pa : a = true := by
          cases a
          · exact absurd (HZ.out.1 rfl) (by omega)
          · rfl
        subst pa
        have HP1 : Hid (r1 = (k : Int) + 1) := p1
        have e1 : (r1 == (k : Int) + 1) = true := by simpa using p1
        clear p1
        go_wp2_with (first
          | (at_builtin; refine wpList_append_own _ rfl _ _ 43 rfl w3.heap.size 3 i0 (.int .i64 0) 1 8 Tryd.underlying43 HI.out.1 HI.out.2.1 HI.out.2.2.1 HI.out.2.2.2 rfl (by decide) u7 (flI r1 r2 k).length ((flI r1 r2 k).map (Value.int .i64)) rfl (HO.out.alloc _) ⟨wr.heap.size, 0, none⟩ 1 1 [.int .i64 ((k : Int) + 1)] rfl rfl (fresh_cell wr _ _ rfl) (one_cell _) (by have := flI_len r1 r2 k; unfold maxLen; omega) (by have := flI_len r1 r2 k; omega) (by have := HK.out.size; simp; omega) ?_; intro v2 w2 hown2 hgrow _)
          | go_in)
        have HKn : Hid (Below w3.heap.size w3 w2) := bel_next HK.out HK.out.size HO.out hgrow
        have HR2 : Hid (w2.ownsRow w3.heap.size 3 1 v2 (flI r1 r2 (k + 1)).length ((flI r1 r2 (k + 1)).map (Value.int .i64))) := rel_hit (.inl HP1.out) hown2
        clear hown2 hgrow hc1 hc2
        go_wp2
        go_roundw
        case rel => exact ⟨k + 1, by omega, by go_num, HR2.out, (HKn.out.cell (p := ⟨w.heap.size, 2, none⟩) HS.out).trans HA2.out, (HKn.out.cell (p := ⟨w.heap.size, 3, none⟩) HS.out).trans HA3.out, HKn.out⟩
        case measure => simp [intOf]; omega
      · have e1 : (r1 == (k : Int) + 1) = false := by simpa using p1
        have HP1 : Hid (¬ r1 = (k : Int) + 1) := p1
        clear p1
        by_cases p2 : r2 = (k : Int) + 1
        · have pb : b = true := by
            cases b
            · exact absurd (HZ.out.2 rfl) (by omega)
            · rfl
          subst pb
          have HP2 : Hid (r2 = (k : Int) + 1) := p2
          have e2 : (r2 == (k : Int) + 1) = true := by simpa using p2
          clear p2
          cases a
          · go_wp2_with (first
              | (at_builtin; refine wpList_append_own _ rfl _ _ 43 rfl w3.heap.size 3 i0 (.int .i64 0) 1 8 Tryd.underlying43 HI.out.1 HI.out.2.1 HI.out.2.2.1 HI.out.2.2.2 rfl (by decide) u7 (flI r1 r2 k).length ((flI r1 r2 k).map (Value.int .i64)) rfl (HO.out.alloc _) ⟨wr.heap.size, 0, none⟩ 1 1 [.int .i64 ((k : Int) + 1)] rfl rfl (fresh_cell wr _ _ rfl) (one_cell _) (by have := flI_len r1 r2 k; unfold maxLen; omega) (by have := flI_len r1 r2 k; omega) (by have := HK.out.size; simp; omega) ?_; intro v2 w2 hown2 hgrow _)
              | go_in)
            have HKn : Hid (Below w3.heap.size w3 w2) := bel_next HK.out HK.out.size HO.out hgrow
            have HR2 : Hid (w2.ownsRow w3.heap.size 3 1 v2 (flI r1 r2 (k + 1)).length ((flI r1 r2 (k + 1)).map (Value.int .i64))) := rel_hit (.inr HP2.out) hown2
            clear hown2 hgrow hc1 hc2
            go_wp2
            go_roundw
            case rel => exact ⟨k + 1, by omega, by go_num, HR2.out, (HKn.out.cell (p := ⟨w.heap.size, 2, none⟩) HS.out).trans HA2.out, (HKn.out.cell (p := ⟨w.heap.size, 3, none⟩) HS.out).trans HA3.out, HKn.out⟩
            case measure => simp [intOf]; omega

          · go_wp2_with (first
              | (at_builtin; refine wpList_append_own _ rfl _ _ 43 rfl w3.heap.size 3 i0 (.int .i64 0) 1 8 Tryd.underlying43 HI.out.1 HI.out.2.1 HI.out.2.2.1 HI.out.2.2.2 rfl (by decide) u7 (flI r1 r2 k).length ((flI r1 r2 k).map (Value.int .i64)) rfl (HO.out.alloc _) ⟨wr.heap.size, 0, none⟩ 1 1 [.int .i64 ((k : Int) + 1)] rfl rfl (fresh_cell wr _ _ rfl) (one_cell _) (by have := flI_len r1 r2 k; unfold maxLen; omega) (by have := flI_len r1 r2 k; omega) (by have := HK.out.size; simp; omega) ?_; intro v2 w2 hown2 hgrow _)
              | go_in)
            have HKn : Hid (Below w3.heap.size w3 w2) := bel_next HK.out HK.out.size HO.out hgrow
            have HR2 : Hid (w2.ownsRow w3.heap.size 3 1 v2 (flI r1 r2 (k + 1)).length ((flI r1 r2 (k + 1)).map (Value.int .i64))) := rel_hit (.inr HP2.out) hown2
            clear hown2 hgrow hc1 hc2
            go_wp2
            go_roundw
            case rel => exact ⟨k + 1, by omega, by go_num, HR2.out, (HKn.out.cell (p := ⟨w.heap.size, 2, none⟩) HS.out).trans HA2.out, (HKn.out.cell (p := ⟨w.heap.size, 3, none⟩) HS.out).trans HA3.out, HKn.out⟩
            case measure => simp [intOf]; omega

        · have e2 : (r2 == (k : Int) + 1) = false := by simpa using p2
          have HP2 : Hid (¬ r2 = (k : Int) + 1) := p2
          clear p2
          cases a
          · cases b
            · go_wp2
              go_roundw
              case rel => exact ⟨k + 1, by omega, by go_num, by rw [flI_miss HP1.out HP2.out]; exact HO.out, (HK.out.cell (p := ⟨w.heap.size, 2, none⟩) HS.out).trans HA2.out, (HK.out.cell (p := ⟨w.heap.size, 3, none⟩) HS.out).trans HA3.out, HK.out⟩
              case measure => simp [intOf]; omega

            · go_wp2
              go_roundw
              case rel => exact ⟨k + 1, by omega, by go_num, by rw [flI_miss HP1.out HP2.out]; exact HO.out, (HK.out.cell (p := ⟨w.heap.size, 2, none⟩) HS.out).trans HA2.out, (HK.out.cell (p := ⟨w.heap.size, 3, none⟩) HS.out).trans HA3.out, HK.out⟩
              case measure => simp [intOf]; omega

          · cases b
            · go_wp2
              go_roundw
              case rel => exact ⟨k + 1, by omega, by go_num, by rw [flI_miss HP1.out HP2.out]; exact HO.out, (HK.out.cell (p := ⟨w.heap.size, 2, none⟩) HS.out).trans HA2.out, (HK.out.cell (p := ⟨w.heap.size, 3, none⟩) HS.out).trans HA3.out, HK.out⟩
              case measure => simp [intOf]; omega

            · go_wp2
              go_roundw
              case rel => exact ⟨k + 1, by omega, by go_num, by rw [flI_miss HP1.out HP2.out]; exact HO.out, (HK.out.cell (p := ⟨w.heap.size, 2, none⟩) HS.out).trans HA2.out, (HK.out.cell (p := ⟨w.heap.size, 3, none⟩) HS.out).trans HA3.out, HK.out⟩
              case measure => simp [intOf]; omega

    · obtain rfl : k = 31 := by omega
      go_wp2
      go_ret2
      exact ⟨_, rfl, owns_mono HO.out (Nat.le_of_lt HS.out), HB2.out.trans (HK.out.mono (Nat.le_of_lt HS.out))⟩
end Go.Proofs.YtndbkkldfinggaaDoor
