/- A memory of pages that came in: the walk of From. -/
import Derived.Test.YtndbkkldfinggabF3
import Derived.BigQuiet
namespace Go.Proofs.Ytndbkkldfinggab
open Go.RowKit Go.Shelf
theorem below_drewN {B : Nat} {a w : World} (h : Below B a w) (n : Nat) : Below B a (w.drewN n) := h.trans ⟨rfl, rfl, rfl, Nat.le_refl _, fun _ _ => rfl⟩
theorem drewN_below {B : Nat} {a w : World} (h : Below B a w) (n : Nat) : Below B (a.drewN n) (w.drewN n) := ⟨h.os, h.tape, h.output, h.size, h.block⟩
theorem fr_below {W W' : World} {b r i : Nat} {k p : Nat → Int} {Y : Nat → Nat → Int} {base : Nat} {ps : List Pgd} (h : Fr W b r i k p Y base ps) (hB : Below W.heap.size W W') : Fr W' b r i k p Y base ps := by
  refine ⟨h.len, (hB.cell (p := ⟨b, 0, none⟩) (lt_of_cell h.cell)).trans h.cell, (hB.block r (lt_of_some h.map)).trans h.map, h.at_, fun j x hx => ?_, h.apart, h.up⟩
  obtain ⟨⟨cur, hc, hs⟩, hd⟩ := h.data j x hx
  exact ⟨⟨cur, (hB.block _ (lt_of_some hc)).trans hc, hs⟩, fun t ht => (hB.cell (p := ⟨x.g, t, none⟩) (lt_of_some hc)).trans (hd t ht)⟩
/-- What the walk wants of a page's copy: the copy, what it keeps, and the store into the map behind it. -/
theorem copied_stored {b r i : Nat} {k p : Nat → Int} {Y : Nat → Nat → Int} {base P : Nat} {ps : List Pgd} (g o c : Nat) (W : World) (hF : Fr W b r i k p Y base ps) (hbase : base ≤ W.heap.size) (hup : 0 < i → k (i - 1) < k i) (hbr : b ≠ r) (hPr : P ≠ r) (hY : ∀ j, j < 4096 → W.cell? ⟨g, o + j, none⟩ = some (.int .u8 (Y i j)))
    (h0 : W.cell? ⟨P, 0, none⟩ = some (.int .u64 (k i))) (h1 : W.cell? ⟨P, 1, none⟩ = some (.int .i64 (p i))) (h2 : W.cell? ⟨P, 2, none⟩ = some (.slice (some ⟨g, o, none⟩) 4096 c)) :
    Calls Try.prog 29 #[.agg #[.int .u64 (k i), .int .i64 (p i), .slice (some ⟨g, o, none⟩) 4096 c]] W fun e w' => ∃ g' c' X, e = .returned (.agg #[.int .u64 (k i), .int .i64 (p i), .slice (some ⟨g', 0, none⟩) 4096 c']) ∧ w'.cell? ⟨b, 0, none⟩ = some (.map (some r)) ∧ w'.cell? ⟨P, 0, none⟩ = some (.int .u64 (k i)) ∧ w'.cell? ⟨P, 1, none⟩ = some (.int .i64 (p i)) ∧ w'.cell? ⟨P, 2, none⟩ = some (.slice (some ⟨g, o, none⟩) 4096 c) ∧
      (Instr.mapUpdate 65 (.map (some r)) (.int .u64 (k i)) (.agg #[.int .u64 (k i), .int .i64 (p i), .slice (some ⟨g', 0, none⟩) 4096 c'])).run Try.prog w' = .ok () (w'.putObj r X) ∧ (w'.putObj r X).cell? ⟨b, 0, none⟩ = some (.map (some r)) ∧ (w'.putObj r X).cell? ⟨P, 0, none⟩ = some (.int .u64 (k i)) ∧ (w'.putObj r X).cell? ⟨P, 1, none⟩ = some (.int .i64 (p i)) ∧ (w'.putObj r X).cell? ⟨P, 2, none⟩ = some (.slice (some ⟨g, o, none⟩) 4096 c) ∧ Hid (Below W.heap.size W w' ∧ Fr (w'.putObj r X) b r (i + 1) k p Y base (ps ++ [⟨k i, p i, g', c'⟩])) := by
  refine (copied29 (k i) (p i) g o c (Y i) W hY).mono ?_
  rintro e w' ⟨g', c', cur, rfl, hg, hc, hcur, hcs, hd, hB⟩
  refine ⟨g', c', _, rfl, (hB.cell (p := ⟨b, 0, none⟩) (lt_of_cell hF.cell)).trans hF.cell, (hB.cell (p := ⟨P, 0, none⟩) (lt_of_cell h0)).trans h0, (hB.cell (p := ⟨P, 1, none⟩) (lt_of_cell h0)).trans h1, (hB.cell (p := ⟨P, 2, none⟩) (lt_of_cell h0)).trans h2,
    upd42 r (k i) _ _ _ w' ((hB.block r (lt_of_some hF.map)).trans hF.map) (by rw [List.toList_toArray]; exact find_none _ _ (pg_none_of (hF.below_k hup)) 0 0), by rw [put_cell hbr]; exact (hB.cell (p := ⟨b, 0, none⟩) (lt_of_cell hF.cell)).trans hF.cell, by rw [put_cell hPr]; exact (hB.cell (p := ⟨P, 0, none⟩) (lt_of_cell h0)).trans h0, by rw [put_cell hPr]; exact (hB.cell (p := ⟨P, 1, none⟩) (lt_of_cell h0)).trans h1, by rw [put_cell hPr]; exact (hB.cell (p := ⟨P, 2, none⟩) (lt_of_cell h0)).trans h2, hB, ?_⟩
  exact hF.snoc hup g' c' cur hB hg hbase hc hcur hcs hd hbr
set_option maxHeartbeats 2000000 in
set_option maxRecDepth 100000 in
theorem from_some (lb lo len cap : Nat) (k p : Nat → Int) (ao : Nat → Option Addr) (bl bc : Nat → Nat) (Y : Nat → Nat → Int) (w : World) (hS : PgSrc w lb lo len k p ao bl bc Y) (hl : len ≤ 4096) (hl0 : 0 < len) (hlc : len ≤ cap) :
    Calls Try.prog 9 #[.slice (some ⟨lb, lo, none⟩) len cap] w fun e w' => Below w.heap.size w w' ∧ ((∃ v, ¬ v = 0 ∧ fromE k p bl len = v ∧ e = .returned (.tuple #[.pointer none, .int .i64 v])) ∨ (fromE k p bl len = 0 ∧ e = .returned (.tuple #[.pointer (some ⟨w.heap.size + 1, 0, none⟩), .int .i64 0]) ∧ ∃ ps, Fr w' (w.heap.size + 1) w.heap.size len k p Y w.heap.size ps)) := by
  have HS : Hid (PgSrc w lb lo len k p ao bl bc Y) := hS
  clear hS
  go_enter Try.func9, Try.ntmps9
  go_wp2_with fail
  refine (new21 w).mono ?_
  rintro e w0 ⟨rfl, e0⟩
  have hs0 : w0.heap.size = w.heap.size + 2 := by rw [e0]; simp
  have HB0 : Hid (Below w.heap.size w w0) := (by rw [e0]; exact ((Below.refl _ w).alloc (Nat.le_refl _) _).alloc (by simp) _ : Below w.heap.size w w0)
  have HF0 : Hid (Fr w0 (w.heap.size + 1) w.heap.size 0 k p Y w.heap.size []) := by
    refine (⟨rfl, ?_, ?_, fun j x h => by simp at h, fun j x h => by simp at h, List.Pairwise.nil, List.Pairwise.nil⟩ : Fr w0 (w.heap.size + 1) w.heap.size 0 k p Y w.heap.size [])
    · rw [e0]
      have := World.alloc_heap_new (w.alloc (.map #[] 0)) (.cells #[.map (some w.heap.size)] 67)
      simp at this
      simp [World.cell?, this]
    · rw [e0]; exact heap_on (heap_at w _) _
  clear e0
  go_wp2_with fail
  go_loopw [13] (fun x wr => ∃ i : Nat, i ≤ len ∧ x = .int .i64 i ∧ fromE k p bl i = 0 ∧ Below w.heap.size w wr ∧ w.heap.size + 2 ≤ wr.heap.size ∧ ∃ ps, Fr wr (w.heap.size + 1) w.heap.size i k p Y w.heap.size ps) (fun x _ => len - (intOf x).toNat)
  case atStart => exact ⟨0, Nat.zero_le _, rfl, rfl, HB0.out, by omega, [], HF0.out⟩
  case round =>
    obtain ⟨i, hi, rfl, h0, hbl, hsz, ps, hfr⟩ := hrel
    have HB : Hid (Below w.heap.size w wr) := hbl
    have HF : Hid (Fr wr (w.heap.size + 1) w.heap.size i k p Y w.heap.size ps) := hfr
    have H0 : Hid (fromE k p bl i = 0) := h0
    clear hbl hfr h0
    by_cases hlt : i < len
    · have hSr := HS.out.below HB.out
      have d0 := hSr.c0 i hlt
      have d1 := hSr.c1 i hlt
      have d2 := hSr.c2 i hlt
      have hlb : lb < wr.heap.size := lt_of_cell d0
      have rk := hSr.rk i hlt
      have HC : Hid (bl i = 4096 → ∃ g o, ao i = some ⟨g, o, none⟩ ∧ ∀ j, j < 4096 → wr.cell? ⟨g, o + j, none⟩ = some (.int .u8 (Y i j))) := hSr.cs i hlt
      have HE : Hid (stepE k p bl i = if badB k bl i then 20 else if permB (p i) then 0 else 21) := rfl
      have HK1 : Hid (badB k bl i = (decide (¬ k i % 4096 = 0) || (decide (281474976710656 ≤ k i) || ((decide (0 < i) && decide (k i ≤ k (i - 1))) || decide (¬ bl i = 4096))))) := rfl
      clear hSr
      obtain ⟨rk0, rk1⟩ := rk
      have HX : Hid (∀ v, ¬ v = 0 → stepE k p bl i = v → fromE k p bl len = v) := fun v hv he => fromE_bad H0.out hlt he hv
      by_cases hk : k i % 4096 = 0
      · have hkb : (k i % 4096 != 0) = false := by simpa using hk
        by_cases hk2 : 281474976710656 ≤ k i
        · have hk2b : decide (281474976710656 ≤ k i) = true := by simpa using hk2
          go_wp2_with fail
          go_quiet (fail)
          go_wp2
          go_ret2
          exact ⟨below_drewN (HB.out.alloc HB.out.size _) _, .inl ⟨20, by decide, HX.out 20 (by decide) (by rw [HE.out, HK1.out]; simp [hk2]), rfl⟩⟩
        · have hk2b : decide (281474976710656 ≤ k i) = false := by simpa using hk2
          by_cases hi0 : 0 < i
          · have dm : wr.cell? ⟨lb, lo + (i - 1) * 3, none⟩ = some (.int .u64 (k (i - 1))) := (HS.out.below HB.out).c0 (i - 1) (by omega)
            by_cases hk3 : k i ≤ k (i - 1)
            · have hk3b : decide (k i ≤ k (i - 1)) = true := by simpa using hk3
              go_wp2_with fail
              go_quiet (fail)
              go_wp2
              go_ret2
              exact ⟨below_drewN (HB.out.alloc HB.out.size _) _, .inl ⟨20, by decide, HX.out 20 (by decide) (by rw [HE.out, HK1.out]; simp [hi0, hk3]), rfl⟩⟩
            · have hk3b : decide (k i ≤ k (i - 1)) = false := by simpa using hk3
              by_cases hb : bl i = 4096
              · have hbb : (((bl i : Nat) : Int) != 4096) = false := by simp [hb]
                have HOK : Hid (badB k bl i = false) := (by rw [HK1.out]; simp [hk, hk2, hk3, hb] : badB k bl i = false)
                obtain ⟨g, o, hao, hY⟩ := HC.out hb
                have HY : Hid (∀ j, j < 4096 → wr.cell? ⟨g, o + j, none⟩ = some (.int .u8 (Y i j))) := hY
                have HUP : Hid (0 < i → k (i - 1) < k i) := fun _ => by omega
                rw [hao, hb] at d2
                clear hY
                go_wp2_with fail
                go_quiet (fail)
                go_wp2_with fail
                refine (perm28 (p i) _).mono ?_
                rintro e w5 ⟨rfl, e5⟩
                have HB5 : Hid (Below wr.heap.size wr w5) := (by rw [e5]; exact below_drewN ((Below.refl _ wr).alloc (Nat.le_refl _) _) _ : Below wr.heap.size wr w5)
                have x0 : w5.cell? ⟨wr.heap.size, 0, none⟩ = some (.int .u64 (k i)) := by rw [e5]; simp
                have x1 : w5.cell? ⟨wr.heap.size, 1, none⟩ = some (.int .i64 (p i)) := by rw [e5]; simp
                have x2 : w5.cell? ⟨wr.heap.size, 2, none⟩ = some (.slice (some ⟨g, o, none⟩) 4096 (bc i)) := by rw [e5]; simp
                have HB6 : Hid (Below w.heap.size w w5) := HB.out.trans (HB5.out.mono HB.out.size)
                have HF5 : Hid (Fr w5 (w.heap.size + 1) w.heap.size i k p Y w.heap.size ps) := fr_below HF.out HB5.out
                have xb : w5.cell? ⟨w.heap.size + 1, 0, none⟩ = some (.map (some w.heap.size)) := HF5.out.cell
                clear e5 d0 d1 d2
                cases hpm : permB (p i)
                · go_wp2
                  go_ret2
                  exact ⟨HB6.out, .inl ⟨21, by decide, HX.out 21 (by decide) (by rw [HE.out, HOK.out, hpm]; rfl), rfl⟩⟩
                · have HC2 : Hid (∀ W1, Below w5.heap.size w5 W1 → Calls Try.prog 29 #[.agg #[.int .u64 (k i), .int .i64 (p i), .slice (some ⟨g, o, none⟩) 4096 (bc i)]] W1 fun e w' => ∃ g' c' X, e = .returned (.agg #[.int .u64 (k i), .int .i64 (p i), .slice (some ⟨g', 0, none⟩) 4096 c']) ∧ w'.cell? ⟨w.heap.size + 1, 0, none⟩ = some (.map (some w.heap.size)) ∧ w'.cell? ⟨wr.heap.size, 0, none⟩ = some (.int .u64 (k i)) ∧ w'.cell? ⟨wr.heap.size, 1, none⟩ = some (.int .i64 (p i)) ∧ w'.cell? ⟨wr.heap.size, 2, none⟩ = some (.slice (some ⟨g, o, none⟩) 4096 (bc i)) ∧
                      (Instr.mapUpdate 65 (.map (some w.heap.size)) (.int .u64 (k i)) (.agg #[.int .u64 (k i), .int .i64 (p i), .slice (some ⟨g', 0, none⟩) 4096 c'])).run Try.prog w' = .ok () (w'.putObj w.heap.size X) ∧ (w'.putObj w.heap.size X).cell? ⟨w.heap.size + 1, 0, none⟩ = some (.map (some w.heap.size)) ∧ (w'.putObj w.heap.size X).cell? ⟨wr.heap.size, 0, none⟩ = some (.int .u64 (k i)) ∧ (w'.putObj w.heap.size X).cell? ⟨wr.heap.size, 1, none⟩ = some (.int .i64 (p i)) ∧ (w'.putObj w.heap.size X).cell? ⟨wr.heap.size, 2, none⟩ = some (.slice (some ⟨g, o, none⟩) 4096 (bc i)) ∧ Hid (Below W1.heap.size W1 w' ∧ Fr (w'.putObj w.heap.size X) (w.heap.size + 1) w.heap.size (i + 1) k p Y w.heap.size (ps ++ [⟨k i, p i, g', c'⟩]))) := fun W1 hb1 =>
                    copied_stored g o (bc i) W1 (fr_below HF5.out hb1) (Nat.le_trans HB6.out.size hb1.size) HUP.out (by omega) (by omega) (fun j hj => by have t := HY.out j hj; have t5 := (HB5.out.cell (p := ⟨g, o + j, none⟩) (lt_of_cell t)).trans t; exact (hb1.cell (p := ⟨g, o + j, none⟩) (lt_of_cell t5)).trans t5) ((hb1.cell (p := ⟨wr.heap.size, 0, none⟩) (lt_of_cell x0)).trans x0) ((hb1.cell (p := ⟨wr.heap.size, 1, none⟩) (lt_of_cell x0)).trans x1) ((hb1.cell (p := ⟨wr.heap.size, 2, none⟩) (lt_of_cell x0)).trans x2)
                  have HST : Hid (fromE k p bl (i + 1) = 0) := (by rw [fromE, if_pos H0.out, HE.out, HOK.out, hpm]; rfl : fromE k p bl (i + 1) = 0)
                  have s5 := HB6.out.size
                  go_wp2_with fail
                  go_region_held3 (fun w' => w'.cell? ⟨w.heap.size + 1, 0, none⟩ = some (.map (some w.heap.size)) ∧ w'.cell? ⟨wr.heap.size, 0, none⟩ = some (.int .u64 (k i)) ∧ w'.cell? ⟨wr.heap.size, 1, none⟩ = some (.int .i64 (p i)) ∧ w'.cell? ⟨wr.heap.size, 2, none⟩ = some (.slice (some ⟨g, o, none⟩) 4096 (bc i))) (first | (go_keep; done) | (refine ⟨?_, ?_, ?_, ?_⟩ <;> (first | (go_keep; done) | assumption | (simp; done))))
                    (first | (go_at_call 29; refine (HC2.out _ (by first | exact Below.refl _ _ | exact (Below.refl _ _).drew)).mono ?_; rintro e w6 ⟨g', c', X, rfl, _y0, _y1, _y2, _y3, _yu, _y4, _y5, _y6, _y7, _yh⟩))
                  go_wp2
                  go_roundw
                  case rel => exact ⟨i + 1, by omega, by go_num, HST.out, below_putObj (HB6.out.drew.trans (_yh.out.1.mono HB6.out.size)) (Nat.le_refl _) _, by have := _yh.out.1.size; have := HB5.out.size; simp [World.putObj] at *; omega, _, _yh.out.2⟩
                  case measure => simp [intOf]; omega
              · have hbb : (((bl i : Nat) : Int) != 4096) = true := by simp; omega
                go_wp2_with fail
                go_quiet (fail)
                go_wp2
                go_ret2
                exact ⟨below_drewN (HB.out.alloc HB.out.size _) _, .inl ⟨20, by decide, HX.out 20 (by decide) (by rw [HE.out, HK1.out]; simp [hb]), rfl⟩⟩
          · have hi1 : decide (0 < (i : Int)) = false := by simp; omega
            by_cases hb : bl i = 4096
            · have hbb : (((bl i : Nat) : Int) != 4096) = false := by simp [hb]
              have HOK : Hid (badB k bl i = false) := (by rw [HK1.out]; simp [hk, hk2, hi0, hb] : badB k bl i = false)
              obtain ⟨g, o, hao, hY⟩ := HC.out hb
              have HY : Hid (∀ j, j < 4096 → wr.cell? ⟨g, o + j, none⟩ = some (.int .u8 (Y i j))) := hY
              have HUP : Hid (0 < i → k (i - 1) < k i) := fun h => absurd h hi0
              rw [hao, hb] at d2
              clear hY
              go_wp2_with fail
              go_quiet (fail)
              go_wp2_with fail
              refine (perm28 (p i) _).mono ?_
              rintro e w5 ⟨rfl, e5⟩
              have HB5 : Hid (Below wr.heap.size wr w5) := (by rw [e5]; exact below_drewN ((Below.refl _ wr).alloc (Nat.le_refl _) _) _ : Below wr.heap.size wr w5)
              have x0 : w5.cell? ⟨wr.heap.size, 0, none⟩ = some (.int .u64 (k i)) := by rw [e5]; simp
              have x1 : w5.cell? ⟨wr.heap.size, 1, none⟩ = some (.int .i64 (p i)) := by rw [e5]; simp
              have x2 : w5.cell? ⟨wr.heap.size, 2, none⟩ = some (.slice (some ⟨g, o, none⟩) 4096 (bc i)) := by rw [e5]; simp
              have HB6 : Hid (Below w.heap.size w w5) := HB.out.trans (HB5.out.mono HB.out.size)
              have HF5 : Hid (Fr w5 (w.heap.size + 1) w.heap.size i k p Y w.heap.size ps) := fr_below HF.out HB5.out
              have xb : w5.cell? ⟨w.heap.size + 1, 0, none⟩ = some (.map (some w.heap.size)) := HF5.out.cell
              clear e5 d0 d1 d2
              cases hpm : permB (p i)
              · go_wp2
                go_ret2
                exact ⟨HB6.out, .inl ⟨21, by decide, HX.out 21 (by decide) (by rw [HE.out, HOK.out, hpm]; rfl), rfl⟩⟩
              · have HC2 : Hid (∀ W1, Below w5.heap.size w5 W1 → Calls Try.prog 29 #[.agg #[.int .u64 (k i), .int .i64 (p i), .slice (some ⟨g, o, none⟩) 4096 (bc i)]] W1 fun e w' => ∃ g' c' X, e = .returned (.agg #[.int .u64 (k i), .int .i64 (p i), .slice (some ⟨g', 0, none⟩) 4096 c']) ∧ w'.cell? ⟨w.heap.size + 1, 0, none⟩ = some (.map (some w.heap.size)) ∧ w'.cell? ⟨wr.heap.size, 0, none⟩ = some (.int .u64 (k i)) ∧ w'.cell? ⟨wr.heap.size, 1, none⟩ = some (.int .i64 (p i)) ∧ w'.cell? ⟨wr.heap.size, 2, none⟩ = some (.slice (some ⟨g, o, none⟩) 4096 (bc i)) ∧
                    (Instr.mapUpdate 65 (.map (some w.heap.size)) (.int .u64 (k i)) (.agg #[.int .u64 (k i), .int .i64 (p i), .slice (some ⟨g', 0, none⟩) 4096 c'])).run Try.prog w' = .ok () (w'.putObj w.heap.size X) ∧ (w'.putObj w.heap.size X).cell? ⟨w.heap.size + 1, 0, none⟩ = some (.map (some w.heap.size)) ∧ (w'.putObj w.heap.size X).cell? ⟨wr.heap.size, 0, none⟩ = some (.int .u64 (k i)) ∧ (w'.putObj w.heap.size X).cell? ⟨wr.heap.size, 1, none⟩ = some (.int .i64 (p i)) ∧ (w'.putObj w.heap.size X).cell? ⟨wr.heap.size, 2, none⟩ = some (.slice (some ⟨g, o, none⟩) 4096 (bc i)) ∧ Hid (Below W1.heap.size W1 w' ∧ Fr (w'.putObj w.heap.size X) (w.heap.size + 1) w.heap.size (i + 1) k p Y w.heap.size (ps ++ [⟨k i, p i, g', c'⟩]))) := fun W1 hb1 =>
                  copied_stored g o (bc i) W1 (fr_below HF5.out hb1) (Nat.le_trans HB6.out.size hb1.size) HUP.out (by omega) (by omega) (fun j hj => by have t := HY.out j hj; have t5 := (HB5.out.cell (p := ⟨g, o + j, none⟩) (lt_of_cell t)).trans t; exact (hb1.cell (p := ⟨g, o + j, none⟩) (lt_of_cell t5)).trans t5) ((hb1.cell (p := ⟨wr.heap.size, 0, none⟩) (lt_of_cell x0)).trans x0) ((hb1.cell (p := ⟨wr.heap.size, 1, none⟩) (lt_of_cell x0)).trans x1) ((hb1.cell (p := ⟨wr.heap.size, 2, none⟩) (lt_of_cell x0)).trans x2)
                have HST : Hid (fromE k p bl (i + 1) = 0) := (by rw [fromE, if_pos H0.out, HE.out, HOK.out, hpm]; rfl : fromE k p bl (i + 1) = 0)
                have s5 := HB6.out.size
                go_wp2_with fail
                go_region_held3 (fun w' => w'.cell? ⟨w.heap.size + 1, 0, none⟩ = some (.map (some w.heap.size)) ∧ w'.cell? ⟨wr.heap.size, 0, none⟩ = some (.int .u64 (k i)) ∧ w'.cell? ⟨wr.heap.size, 1, none⟩ = some (.int .i64 (p i)) ∧ w'.cell? ⟨wr.heap.size, 2, none⟩ = some (.slice (some ⟨g, o, none⟩) 4096 (bc i))) (first | (go_keep; done) | (refine ⟨?_, ?_, ?_, ?_⟩ <;> (first | (go_keep; done) | assumption | (simp; done))))
                  (first | (go_at_call 29; refine (HC2.out _ (by first | exact Below.refl _ _ | exact (Below.refl _ _).drew)).mono ?_; rintro e w6 ⟨g', c', X, rfl, _y0, _y1, _y2, _y3, _yu, _y4, _y5, _y6, _y7, _yh⟩))
                go_wp2
                go_roundw
                case rel => exact ⟨i + 1, by omega, by go_num, HST.out, below_putObj (HB6.out.drew.trans (_yh.out.1.mono HB6.out.size)) (Nat.le_refl _) _, by have := _yh.out.1.size; have := HB5.out.size; simp [World.putObj] at *; omega, _, _yh.out.2⟩
                case measure => simp [intOf]; omega
            · have hbb : (((bl i : Nat) : Int) != 4096) = true := by simp; omega
              go_wp2_with fail
              go_quiet (fail)
              go_wp2
              go_ret2
              exact ⟨below_drewN (HB.out.alloc HB.out.size _) _, .inl ⟨20, by decide, HX.out 20 (by decide) (by rw [HE.out, HK1.out]; simp [hb]), rfl⟩⟩
      · have hkb : (k i % 4096 != 0) = true := by simpa using hk
        go_wp2_with fail
        go_quiet (fail)
        go_wp2
        go_ret2
        exact ⟨below_drewN (HB.out.alloc HB.out.size _) _, .inl ⟨20, by decide, HX.out 20 (by decide) (by rw [HE.out, HK1.out]; simp [hk]), rfl⟩⟩
    · obtain rfl : i = len := by omega
      go_wp2
      go_ret2
      exact ⟨HB.out, .inr ⟨H0.out, rfl, ps, HF.out⟩⟩
end Go.Proofs.Ytndbkkldfinggab
