/- The walk of MemHalves. -/
import Derived.Test.YtndbkkldfinggabH1
namespace Go.Proofs.Ytndbkkldfinggab
open Go.RowKit Go.Shelf
set_option maxRecDepth 20000 in
set_option maxHeartbeats 1000000 in
theorem law7 {v : Value} {len : Nat} {k p : Nat → Int} {ao : Nat → Option Addr} {bl bc : Nat → Nat} {Y : Nat → Nat → Int} (a n u : Int) (a0 : 0 ≤ a) (w : World) (h : PgArg w v len k p ao bl bc Y) : Calls Try.prog 7 #[.agg #[v, .int .u64 a, .int .i64 n, .int .u64 u]] w fun e w' => e = .returned (.bool true) ∧ Below w.heap.size w w' := by
  obtain ⟨vA, vc, hv, -, -⟩ := h.shape
  have HH : Hid (PgArg w v len k p ao bl bc Y) := h
  clear h
  subst hv
  go_enter Try.func7, Try.ntmps7
  go_wp2_with fail
  obtain ⟨w0, hw0⟩ : ∃ w0, (w.alloc (.cells #[.slice vA len vc, .int .u64 a, .int .i64 n, .int .u64 u] 25)) = w0 := ⟨_, rfl⟩
  have k1 : w0.cell? ⟨w.heap.size, 1, none⟩ = some (.int .u64 a) := by have := World.alloc_heap_new w (.cells #[.slice vA len vc, .int .u64 a, .int .i64 n, .int .u64 u] 25); rw [hw0] at this; simp [World.cell?, this]
  have hs : w.heap.size < w0.heap.size := by rw [← hw0]; simp
  have HB : Hid (Below w.heap.size w w0) := by have : Below w.heap.size w w0 := by { rw [← hw0]; exact (Below.refl _ w).alloc (Nat.le_refl _) _ }; exact this
  rw [hw0]
  clear hw0
  refine (from_any w0 (HH.out.below HB.out)).mono ?_
  rintro e w1 ⟨hb, hcs⟩
  have HB1 : Hid (Below w.heap.size w w1) := HB.out.trans (hb.mono HB.out.size)
  have j1 : w1.cell? ⟨w.heap.size, 1, none⟩ = some (.int .u64 a) := (hb.cell (p := ⟨w.heap.size, 1, none⟩) hs).trans k1
  have hs1 : w.heap.size < w1.heap.size := Nat.lt_of_lt_of_le hs hb.size
  have HSp : Hid (∀ W, Calls Try.prog 10 #[] W fun e w' => e = .returned (.bool true) ∧ Below W.heap.size W w') := speaks11
  clear hb k1 HB
  rcases hcs with ⟨hne, rfl⟩ | ⟨hz, hl, rfl, ps, hF⟩
  · have hnb : (errE len k p bl != 0) = true := by simpa using hne
    generalize errE len k p bl = er at *
    go_wp2_with fail
    refine (HSp.out _).mono ?_
    rintro e w2 ⟨rfl, hb⟩
    have HB2 : Hid (Below w.heap.size w w2) := HB1.out.trans (hb.mono HB1.out.size)
    clear hb
    go_wp2
    go_ret
    exact ⟨rfl, HB2.out⟩
  · have HM : Hid (Mm w1 (w0.heap.size + 1) w0.heap.size ps (btOf w1)) := hF.mm HH.out.by_
    generalize btOf w1 = bt at *
    clear hF hz
    by_cases ha : 140737488355328 ≤ a
    · have hab : decide (140737488355328 ≤ a) = true := by simpa using ha
      go_wp2_with fail
      refine (HSp.out _).mono ?_
      rintro e w2 ⟨rfl, hb⟩
      have HB2 : Hid (Below w.heap.size w w2) := HB1.out.trans (hb.mono HB1.out.size)
      clear hb
      go_wp2
      go_ret
      exact ⟨rfl, HB2.out⟩
    · have hab : decide (140737488355328 ≤ a) = false := by simpa using ha
      have HL8 : Hid (∀ W, Mm W (w0.heap.size + 1) w0.heap.size ps bt → Calls Try.prog 11 #[.pointer (some ⟨w0.heap.size + 1, 0, none⟩), .int .u64 a, .int .i64 8] W fun e w' => e = .returned (.tuple #[.int .u64 (loadV ps bt a 8), .int .i64 (useE ps a ((8 : Nat) : Int) 4)]) ∧ Below W.heap.size W w') := fun W hM => load_any _ _ ps bt a 8 W hM a0 (by unfold isN; omega) (by omega)
      have HL4 : Hid (∀ W, Mm W (w0.heap.size + 1) w0.heap.size ps bt → Calls Try.prog 11 #[.pointer (some ⟨w0.heap.size + 1, 0, none⟩), .int .u64 a, .int .i64 4] W fun e w' => e = .returned (.tuple #[.int .u64 (loadV ps bt a 4), .int .i64 (useE ps a ((4 : Nat) : Int) 4)]) ∧ Below W.heap.size W w') := fun W hM => load_any _ _ ps bt a 4 W hM a0 (by unfold isN; omega) (by omega)
      have HLh : Hid (∀ W, Mm W (w0.heap.size + 1) w0.heap.size ps bt → Calls Try.prog 11 #[.pointer (some ⟨w0.heap.size + 1, 0, none⟩), .int .u64 (a + 4), .int .i64 4] W fun e w' => e = .returned (.tuple #[.int .u64 (loadV ps bt (a + 4) 4), .int .i64 (useE ps (a + 4) ((4 : Nat) : Int) 4)]) ∧ Below W.heap.size W w') := fun W hM => load_any _ _ ps bt (a + 4) 4 W hM (by omega) (by unfold isN; omega) (by omega)
      have HU : Hid (useE ps a ((8 : Nat) : Int) 4 = 0 ↔ useE ps a ((4 : Nat) : Int) 4 = 0 ∧ useE ps (a + 4) ((4 : Nat) : Int) 4 = 0) := use_halves ps a 4 a0
      have HZ : Hid (¬ useE ps a ((8 : Nat) : Int) 4 = 0 → loadV ps bt a 8 = 0) := fun h => if_neg h
      have HQ : Hid (useE ps a ((8 : Nat) : Int) 4 = 0 → loadV ps bt a 8 = loadV ps bt a 4 + 4294967296 * loadV ps bt (a + 4) 4 ∧ 0 ≤ loadV ps bt a 4 ∧ loadV ps bt a 4 < 4294967296 ∧ 0 ≤ loadV ps bt (a + 4) 4 ∧ loadV ps bt (a + 4) 4 < 4294967296) := fun h => by
        have h2 := (use_halves ps a 4 a0).1 h
        unfold loadV
        rw [if_pos h, if_pos h2.1, if_pos h2.2]
        have s1 := sum_small HM.out a
        have s2 := sum_small HM.out (a + 4)
        exact ⟨sum_halves ps bt a, s1.1, s1.2, s2.1, s2.2⟩
      generalize useE ps a ((8 : Nat) : Int) 4 = x8 at *
      generalize useE ps a ((4 : Nat) : Int) 4 = x4 at *
      generalize useE ps (a + 4) ((4 : Nat) : Int) 4 = xh at *
      generalize loadV ps bt a 8 = v8 at *
      generalize loadV ps bt a 4 = v4 at *
      generalize loadV ps bt (a + 4) 4 = vh at *
      go_wp2_with fail
      refine (HL8.out _ HM.out).mono ?_
      rintro e w2 ⟨rfl, hb⟩
      have HB2 : Hid (Below w.heap.size w w2) := HB1.out.trans (hb.mono HB1.out.size)
      have HM2 : Hid (Mm w2 (w0.heap.size + 1) w0.heap.size ps bt) := HM.out.below hb
      have j2 : w2.cell? ⟨w.heap.size, 1, none⟩ = some (.int .u64 a) := (hb.cell (p := ⟨w.heap.size, 1, none⟩) hs1).trans j1
      have hs2 : w.heap.size < w2.heap.size := Nat.lt_of_lt_of_le hs1 hb.size
      clear hb j1
      go_wp2_with fail
      refine (HL4.out _ HM2.out).mono ?_
      rintro e w3 ⟨rfl, hb⟩
      have HB3 : Hid (Below w.heap.size w w3) := HB2.out.trans (hb.mono HB2.out.size)
      have HM3 : Hid (Mm w3 (w0.heap.size + 1) w0.heap.size ps bt) := HM2.out.below hb
      have j3 : w3.cell? ⟨w.heap.size, 1, none⟩ = some (.int .u64 a) := (hb.cell (p := ⟨w.heap.size, 1, none⟩) hs2).trans j2
      clear hb j2
      go_wp2_with fail
      refine (HLh.out _ HM3.out).mono ?_
      rintro e w4 ⟨rfl, hb⟩
      have HB4 : Hid (Below w.heap.size w w4) := HB3.out.trans (hb.mono HB3.out.size)
      clear hb j3
      by_cases h8 : x8 = 0
      · subst h8
        obtain ⟨rfl, rfl⟩ := HU.out.1 rfl
        obtain ⟨q1, q2, q3, q4, q5⟩ := HQ.out rfl
        have hvv : v8 = v4 + vh * 4294967296 := by omega
        subst hvv
        clear q1
        go_wp2_with fail
        refine (HSp.out _).mono ?_
        rintro e w5 ⟨rfl, hb⟩
        have HB5 : Hid (Below w.heap.size w w5) := HB4.out.trans (hb.mono HB4.out.size)
        clear hb
        go_wp2
        go_ret
        exact ⟨rfl, HB5.out⟩
      · obtain rfl := HZ.out h8
        have h8b : (x8 != 0) = true := by simpa using h8
        by_cases h4 : x4 = 0
        · have h4b : (x4 != 0) = false := by simpa using h4
          have hhb : (xh != 0) = true := by
            have : ¬ xh = 0 := fun e => h8 (HU.out.2 ⟨h4, e⟩)
            simpa using this
          go_wp2_with fail
          refine (HSp.out _).mono ?_
          rintro e w5 ⟨rfl, hb⟩
          have HB5 : Hid (Below w.heap.size w w5) := HB4.out.trans (hb.mono HB4.out.size)
          clear hb
          go_wp2
          go_ret
          exact ⟨rfl, HB5.out⟩
        · have h4b : (x4 != 0) = true := by simpa using h4
          go_wp2_with fail
          refine (HSp.out _).mono ?_
          rintro e w5 ⟨rfl, hb⟩
          have HB5 : Hid (Below w.heap.size w w5) := HB4.out.trans (hb.mono HB4.out.size)
          clear hb
          go_wp2
          go_ret
          exact ⟨rfl, HB5.out⟩
end Go.Proofs.Ytndbkkldfinggab
