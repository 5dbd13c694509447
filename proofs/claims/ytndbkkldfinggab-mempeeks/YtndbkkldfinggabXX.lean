/- Fetch, the program's and the document's; the walk of MemLoads (X1 to X3 in one). -/
import Derived.Test.YtndbkkldfinggabWW
import Derived.Test.YtndbkkldfinggabP4
namespace Go.Proofs.Ytndbkkldfinggab
open Go.RowKit Go.Shelf
def fE (ps : List Pgd) (a : Int) : Int := if a % 4 = 0 then (if 281474976710656 ≤ a then 1 else useE ps a 4 1) else 1
def fV (ps : List Pgd) (bt : Nat → Nat → Int) (a : Int) : Int := if fE ps a = 0 then sumV (byts ps bt a 4) else 0
theorem sum4_bound (ps : List Pgd) (bt : Nat → Nat → Int) (hbt : ∀ g j, 0 ≤ bt g j ∧ bt g j < 256) (a : Int) : 0 ≤ sumV (byts ps bt a 4) ∧ sumV (byts ps bt a 4) < 4294967296 := by
  have t := sumV_bound (byts ps bt a 4) (fun x hx => by obtain ⟨j, _, rfl⟩ := List.mem_map.1 hx; exact hbt _ _)
  rw [byts_len] at t
  exact t
set_option maxHeartbeats 1000000 in
theorem fetch_odd (v : Value) (a : Int) (w : World) (a0 : 0 ≤ a) (h : ¬ a % 4 = 0) : Calls Try.prog 13 #[v, .int .u64 a] w fun e w' => e = .returned (.tuple #[.int .u32 0, .int .i64 1]) ∧ w' = w := by
  have hb : (a % 4 != 0) = true := by simpa using h
  go_enter Try.func13, Try.ntmps13
  go_wp2
  go_ret2
  exact ⟨rfl, rfl⟩
set_option maxHeartbeats 1000000 in
theorem fetch_err (v : Value) (a x : Int) (w : World) (a0 : 0 ≤ a) (h : a % 4 = 0) (hx : ¬ x = 0) (hN : Calls Try.prog 30 #[v, .int .u64 a, .int .i64 4, .int .i64 1] w fun e w' => e = .returned (.int .i64 x) ∧ Below w.heap.size w w') : Calls Try.prog 13 #[v, .int .u64 a] w fun e w' => e = .returned (.tuple #[.int .u32 0, .int .i64 x]) ∧ Below w.heap.size w w' := by
  have HN : Hid (Calls Try.prog 30 #[v, .int .u64 a, .int .i64 4, .int .i64 1] w fun e w' => e = .returned (.int .i64 x) ∧ Below w.heap.size w w') := hN
  have hxb : (x != 0) = true := by simpa using hx
  have hb : (a % 4 != 0) = false := by simpa using h
  clear hN
  go_enter Try.func13, Try.ntmps13
  go_wp2_with fail
  refine HN.out.mono ?_
  rintro e w1 ⟨rfl, hb1⟩
  have HB : Hid (Below w.heap.size w w1) := hb1
  clear hb1
  go_wp2
  go_ret2
  exact ⟨rfl, HB.out⟩
set_option maxHeartbeats 1000000 in
theorem fetch_ok (v : Value) (a y : Int) (w : World) (a0 : 0 ≤ a) (h : a % 4 = 0) (y0 : 0 ≤ y) (y1 : y < 4294967296) (hN : Calls Try.prog 30 #[v, .int .u64 a, .int .i64 4, .int .i64 1] w fun e w' => e = .returned (.int .i64 0) ∧ Below w.heap.size w w') (hV : ∀ W, Below w.heap.size w W → Calls Try.prog 31 #[v, .int .u64 a, .int .i64 4] W fun e w' => e = .returned (.int .u64 y) ∧ Below W.heap.size W w') : Calls Try.prog 13 #[v, .int .u64 a] w fun e w' => e = .returned (.tuple #[.int .u32 y, .int .i64 0]) ∧ Below w.heap.size w w' := by
  have HN : Hid (Calls Try.prog 30 #[v, .int .u64 a, .int .i64 4, .int .i64 1] w fun e w' => e = .returned (.int .i64 0) ∧ Below w.heap.size w w') := hN
  have HV : Hid (∀ W, Below w.heap.size w W → Calls Try.prog 31 #[v, .int .u64 a, .int .i64 4] W fun e w' => e = .returned (.int .u64 y) ∧ Below W.heap.size W w') := hV
  have hb : (a % 4 != 0) = false := by simpa using h
  clear hN hV
  go_enter Try.func13, Try.ntmps13
  go_wp2_with fail
  refine HN.out.mono ?_
  rintro e w1 ⟨rfl, hb1⟩
  have HB : Hid (Below w.heap.size w w1) := hb1
  clear hb1
  go_wp2_with fail
  refine (HV.out w1 HB.out).mono ?_
  rintro e w2 ⟨rfl, hb2⟩
  have HB2 : Hid (Below w.heap.size w w2) := HB.out.trans (hb2.mono HB.out.size)
  clear hb2
  go_wp2
  go_ret2
  exact ⟨rfl, HB2.out⟩
theorem fetch_all (b r : Nat) (ps : List Pgd) (bt : Nat → Nat → Int) (a : Int) (w : World) (h : Mm w b r ps bt) (a0 : 0 ≤ a) (a1 : a < 18446744073709551616) : Calls Try.prog 13 #[.pointer (some ⟨b, 0, none⟩), .int .u64 a] w fun e w' => e = .returned (.tuple #[.int .u32 (fV ps bt a), .int .i64 (fE ps a)]) ∧ Below w.heap.size w w' := by
  unfold fV
  have h4 : isN 4 := by unfold isN; omega
  by_cases hm : a % 4 = 0
  · by_cases hf : 281474976710656 ≤ a
    · have e : fE ps a = 1 := by unfold fE; rw [if_pos hm, if_pos hf]
      rw [e, if_neg (by decide)]
      exact fetch_err _ a 1 w a0 hm (by decide) (number_far _ a 1 4 w a0 a1 h4 (.inl hf))
    · have e : fE ps a = useE ps a 4 1 := by unfold fE; rw [if_pos hm, if_neg hf]
      rw [e]
      have hN := number_any b r ps bt a 4 1 w h a0 h4 (by omega)
      by_cases hu : useE ps a 4 1 = 0
      · rw [if_pos hu]
        have hu' : useE ps a ((4 : Nat) : Int) 1 = 0 := hu
        rw [hu'] at hN
        rw [hu]
        have bd := sum4_bound ps bt h.small a
        refine fetch_ok _ a _ w a0 hm bd.1 bd.2 hN (fun W hb => ?_)
        have t := value_any b r ps bt a 4 (pM a 4) (pgX ps a) W (h.below hb) a0 (by omega) (by omega) (by omega) (pM_iff a0 (by omega) (by omega)) (by unfold pM; split <;> omega) (useE_zero hu')
        have pb := pieces_byts (ps := ps) (bt := bt) (n := 4) a0 (by omega) (by omega)
        have pb' : ((List.finRange (pM a 4)).flatMap fun x => pBy a 4 (pgX ps a) bt x.1) = byts ps bt a 4 := pb
        rw [pb', accV_sum _ _ rfl (fun x hx => by obtain ⟨j, _, rfl⟩ := List.mem_map.1 hx; exact h.small _ _) (by rw [byts_len]; omega)] at t
        exact t
      · rw [if_neg hu]
        exact fetch_err _ a _ w a0 hm hu hN
  · have e : fE ps a = 1 := by unfold fE; rw [if_neg hm]
    rw [e, if_neg (by decide)]
    exact (fetch_odd _ a w a0 hm).mono fun e w' ⟨h1, h2⟩ => ⟨h1, h2 ▸ Below.refl _ _⟩
set_option maxHeartbeats 1000000 in
theorem rfetch_odd (v : Value) (a : Int) (w : World) (a0 : 0 ≤ a) (h : ¬ (a % 4 = 0 ∧ a < 281474976710656)) : Calls Try.prog 14 #[v, .int .u64 a] w fun e w' => e = .returned (.tuple #[.int .u32 0, .int .i64 1]) ∧ w' = w := by
  by_cases hm : a % 4 = 0
  · have hb : (a % 4 != 0) = false := by simpa using hm
    have h2 : decide (281474976710656 ≤ a) = true := by simp; omega
    go_enter Try.func14, Try.ntmps14
    go_wp2
    go_ret2
    exact ⟨rfl, rfl⟩
  · have hb : (a % 4 != 0) = true := by simpa using hm
    go_enter Try.func14, Try.ntmps14
    go_wp2
    go_ret2
    exact ⟨rfl, rfl⟩
set_option maxHeartbeats 1000000 in
theorem rfetch_err (v : Value) (a x : Int) (w : World) (a0 : 0 ≤ a) (h : a % 4 = 0) (hl : a < 281474976710656) (hx : ¬ x = 0) (hA : Calls Try.prog 32 #[v, .int .u64 a, .int .i64 4, .int .i64 1] w fun e w' => e = .returned (.int .i64 x) ∧ w' = w) : Calls Try.prog 14 #[v, .int .u64 a] w fun e w' => e = .returned (.tuple #[.int .u32 0, .int .i64 x]) ∧ w' = w := by
  have HA : Hid (Calls Try.prog 32 #[v, .int .u64 a, .int .i64 4, .int .i64 1] w fun e w' => e = .returned (.int .i64 x) ∧ w' = w) := hA
  have hxb : (x != 0) = true := by simpa using hx
  have hb : (a % 4 != 0) = false := by simpa using h
  have h2 : decide (281474976710656 ≤ a) = false := by simp; omega
  clear hA
  go_enter Try.func14, Try.ntmps14
  go_wp2_with fail
  refine HA.out.mono ?_
  rintro e w1 ⟨rfl, e1⟩
  subst e1
  go_wp2
  go_ret2
  exact ⟨rfl, rfl⟩
set_option maxHeartbeats 1000000 in
theorem rfetch_ok (v : Value) (a y : Int) (w : World) (a0 : 0 ≤ a) (h : a % 4 = 0) (hl : a < 281474976710656) (y0 : 0 ≤ y) (y1 : y < 4294967296) (hA : Calls Try.prog 32 #[v, .int .u64 a, .int .i64 4, .int .i64 1] w fun e w' => e = .returned (.int .i64 0) ∧ w' = w) (hN : Calls Try.prog 33 #[v, .int .u64 a, .int .i64 4] w fun e w' => e = .returned (.int .u64 y) ∧ Below w.heap.size w w') : Calls Try.prog 14 #[v, .int .u64 a] w fun e w' => e = .returned (.tuple #[.int .u32 y, .int .i64 0]) ∧ Below w.heap.size w w' := by
  have HA : Hid (Calls Try.prog 32 #[v, .int .u64 a, .int .i64 4, .int .i64 1] w fun e w' => e = .returned (.int .i64 0) ∧ w' = w) := hA
  have HN : Hid (Calls Try.prog 33 #[v, .int .u64 a, .int .i64 4] w fun e w' => e = .returned (.int .u64 y) ∧ Below w.heap.size w w') := hN
  have hb : (a % 4 != 0) = false := by simpa using h
  have h2 : decide (281474976710656 ≤ a) = false := by simp; omega
  clear hA hN
  go_enter Try.func14, Try.ntmps14
  go_wp2_with fail
  refine HA.out.mono ?_
  rintro e w1 ⟨rfl, e1⟩
  subst e1
  go_wp2_with fail
  refine HN.out.mono ?_
  rintro e w2 ⟨rfl, hb2⟩
  have HB : Hid (Below w1.heap.size w1 w2) := hb2
  clear hb2
  go_wp2
  go_ret2
  exact ⟨rfl, HB.out⟩
theorem rfetch_all {W0 w : World} {v : Value} {b r len : Nat} {k p : Nat → Int} {ao : Nat → Option Addr} {bl bc : Nat → Nat} {Y : Nat → Nat → Int} {base : Nat} {ps : List Pgd} (hF : Fr W0 b r len k p Y base ps) (ha : ∀ i, i < len → k i % 4096 = 0) (hbl : ∀ i, i < len → bl i = 4096) (hY : ∀ i j, 0 ≤ Y i j ∧ Y i j < 256) (h : PgArg w v len k p ao bl bc Y) (hlen : len ≤ 4096) (a : Int) (a0 : 0 ≤ a) :
    Calls Try.prog 14 #[v, .int .u64 a] w fun e w' => e = .returned (.tuple #[.int .u32 (fV ps (btOf W0) a), .int .i64 (fE ps a)]) ∧ Below w.heap.size w w' := by
  unfold fV
  have h4 : isN 4 := by unfold isN; omega
  by_cases hc : a % 4 = 0 ∧ a < 281474976710656
  · obtain ⟨hm, hl⟩ := hc
    have e : fE ps a = useE ps a 4 1 := by unfold fE; rw [if_pos hm, if_neg (by omega)]
    rw [e]
    have hA := asked_use hF ha h hlen a 1 4 a0 (by omega) h4
    by_cases hu : useE ps a 4 1 = 0
    · rw [if_pos hu]
      have hu' : useE ps a ((4 : Nat) : Int) 1 = 0 := hu
      have hN := number_use hF ha hbl hY h hlen a 1 4 a0 (by omega) h4 hu'
      rw [hu'] at hA
      rw [hu]
      have bd := sum4_bound ps (btOf W0) (btOf_small W0) a
      exact rfetch_ok v a _ w a0 hm hl bd.1 bd.2 hA hN
    · rw [if_neg hu]
      exact (rfetch_err v a _ w a0 hm hl hu hA).mono fun e w' ⟨h1, h2⟩ => ⟨h1, h2 ▸ Below.refl _ _⟩
  · have e : fE ps a = 1 := by
      unfold fE
      by_cases hm : a % 4 = 0
      · rw [if_pos hm, if_pos (by omega)]
      · rw [if_neg hm]
    rw [e, if_neg (by decide)]
    exact (rfetch_odd v a w a0 hc).mono fun e w' ⟨h1, h2⟩ => ⟨h1, h2 ▸ Below.refl _ _⟩
theorem arg_row {W0 w : World} {v : Value} {b r len : Nat} {k p : Nat → Int} {ao : Nat → Option Addr} {bl bc : Nat → Nat} {Y : Nat → Nat → Int} {base : Nat} {ps : List Pgd} (hF : Fr W0 b r len k p Y base ps) (hbl : ∀ i, i < len → bl i = 4096) (hY : ∀ i j, 0 ≤ Y i j ∧ Y i j < 256) (h : PgArg w v len k p ao bl bc Y) :
    ∃ a cap, v = .slice a ps.length cap ∧ (0 < ps.length → ∃ lb lo g o c, a = some ⟨lb, lo, none⟩ ∧ Row w lb lo ps.length (fun i => (ordP ps i).k) (fun i => (ordP ps i).p) (fun i j => btOf W0 (ordP ps i).g j) g o c) := by
  have hl := hF.len
  obtain ⟨⟨x, cap, rfl, _, hs⟩, _⟩ := h
  refine ⟨x, cap, by rw [hl], fun h0 => ?_⟩
  obtain ⟨lb, lo, rfl, hS⟩ := hs (by omega)
  have H : ∀ i, ∃ g : Nat, ∃ o : Nat, i < len → ao i = some ⟨g, o, none⟩ ∧ ∀ j, j < 4096 → w.cell? ⟨g, o + j, none⟩ = some (.int .u8 (Y i j)) := fun i => by
    by_cases hi : i < len
    · obtain ⟨g, o, h1, h2⟩ := hS.cs i hi (hbl i hi)
      exact ⟨g, o, fun _ => ⟨h1, h2⟩⟩
    · exact ⟨0, 0, fun h => absurd h hi⟩
  obtain ⟨g, hg⟩ := Classical.axiomOfChoice H
  obtain ⟨o, ho⟩ := Classical.axiomOfChoice hg
  refine ⟨lb, lo, g, o, bc, rfl, ?_⟩
  have R : Row w lb lo ps.length k p Y g o bc := ⟨fun i hi => hS.c0 i (by omega), fun i hi => hS.c1 i (by omega), fun i hi => by rw [hS.c2 i (by omega), (ho i (by omega)).1, hbl i (by omega)], fun i hi => (ho i (by omega)).2⟩
  refine R.congr (fun i hi => ?_) (fun i hi => ?_) (fun i hi j hj => ?_)
  · rw [hF.ordP i hi, (hF.at_ i _ (List.getElem?_eq_getElem hi)).1]
  · rw [hF.ordP i hi, (hF.at_ i _ (List.getElem?_eq_getElem hi)).2.1]
  · rw [hF.ordP i hi, btOf_at ((hF.data i _ (List.getElem?_eq_getElem hi)).2 j hj) (hY i j)]
set_option maxRecDepth 20000 in
set_option maxHeartbeats 1000000 in
theorem law3 {v : Value} {len : Nat} {k p : Nat → Int} {ao : Nat → Option Addr} {bl bc : Nat → Nat} {Y : Nat → Nat → Int} (a n u : Int) (a0 : 0 ≤ a) (a1 : a < 18446744073709551616) (w : World) (h : PgArg w v len k p ao bl bc Y) : Calls Try.prog 3 #[.agg #[v, .int .u64 a, .int .i64 n, .int .u64 u]] w fun e w' => e = .returned (.bool true) ∧ Below w.heap.size w w' := by
  obtain ⟨vA, vc, hv, -, -⟩ := h.shape
  have HH : Hid (PgArg w v len k p ao bl bc Y) := h
  clear h
  subst hv
  go_enter Try.func3, Try.ntmps3
  go_wp2_with fail
  obtain ⟨w0, hw0⟩ : ∃ w0, (w.alloc (.cells #[.slice vA len vc, .int .u64 a, .int .i64 n, .int .u64 u] 25)) = w0 := ⟨_, rfl⟩
  have hnew := World.alloc_heap_new w (.cells #[.slice vA len vc, .int .u64 a, .int .i64 n, .int .u64 u] 25)
  rw [hw0] at hnew
  have k0 : w0.cell? ⟨w.heap.size, 0, none⟩ = some (.slice vA len vc) := by simp [World.cell?, hnew]
  have k1 : w0.cell? ⟨w.heap.size, 1, none⟩ = some (.int .u64 a) := by simp [World.cell?, hnew]
  have k2 : w0.cell? ⟨w.heap.size, 2, none⟩ = some (.int .i64 n) := by simp [World.cell?, hnew]
  have hs : w.heap.size + 1 = w0.heap.size := by rw [← hw0]; simp
  have HB : Hid (Below w.heap.size w w0) := by have : Below w.heap.size w w0 := by { rw [← hw0]; exact (Below.refl _ w).alloc (Nat.le_refl _) _ }; exact this
  rw [hw0]
  clear hw0 hnew
  refine (from_any w0 (HH.out.below HB.out)).mono ?_
  rintro e w1 ⟨hb, hcs⟩
  have HB1 : Hid (Below w0.heap.size w0 w1) := hb
  have j0 : w1.cell? ⟨w.heap.size, 0, none⟩ = some (.slice vA len vc) := (hb.cell (p := ⟨w.heap.size, 0, none⟩) (by show w.heap.size < _; omega)).trans k0
  have j1 : w1.cell? ⟨w.heap.size, 1, none⟩ = some (.int .u64 a) := (hb.cell (p := ⟨w.heap.size, 1, none⟩) (by show w.heap.size < _; omega)).trans k1
  have j2 : w1.cell? ⟨w.heap.size, 2, none⟩ = some (.int .i64 n) := (hb.cell (p := ⟨w.heap.size, 2, none⟩) (by show w.heap.size < _; omega)).trans k2
  have hz1 := hb.size
  have HW1 : Hid (Below w.heap.size w w1) := HB.out.trans (hb.mono (by omega))
  clear hb k0 k1 k2
  have HSp : Hid (∀ W, Calls Try.prog 10 #[] W fun e w' => e = .returned (.bool true) ∧ Below W.heap.size W w') := speaks11
  rcases hcs with ⟨hne, rfl⟩ | ⟨hz, hl, rfl, ps, hF⟩
  · have hnb : (errE len k p bl != 0) = true := by simpa using hne
    generalize errE len k p bl = er at *
    go_wp2_with fail
    refine (HSp.out _).mono ?_
    rintro e w2 ⟨rfl, hb⟩
    have HB2 : Hid (Below w.heap.size w w2) := HW1.out.trans (hb.mono HW1.out.size)
    clear hb
    go_wp2
    go_ret
    exact ⟨rfl, HB2.out⟩
  · have hfe : fromE k p bl len = 0 := by unfold errE at hz; rw [if_neg (by omega)] at hz; exact hz
    have hal := fromE_al len hfe
    have hbl := fromE_bl len hfe
    have hY := HH.out.by_
    have hM1 := hF.mm hY
    have HA1 : PgArg w1 (.slice vA len vc) len k p ao bl bc Y := HH.out.below HW1.out
    have hln := hF.len
    have HLd : Hid (∀ W, Below w1.heap.size w1 W → Calls Try.prog 11 #[.pointer (some ⟨w0.heap.size + 1, 0, none⟩), .int .u64 a, .int .i64 n] W fun e w' => e = .returned (.tuple #[.int .u64 (lV ps (btOf w1) a n), .int .i64 (lE ps a n)]) ∧ Below W.heap.size W w') := fun W hb => load_all _ _ ps _ a n W (hM1.below hb) a0 a1
    have HRl : Hid (∀ W, Below w1.heap.size w1 W → Calls Try.prog 12 #[.slice vA len vc, .int .u64 a, .int .i64 n] W fun e w' => e = .returned (.tuple #[.int .u64 (lV ps (btOf w1) a n), .int .i64 (lE ps a n)]) ∧ Below W.heap.size W w') := fun W hb => rload_all hF hal hbl hY (HA1.below hb) hl a n a0 a1
    have HFt : Hid (∀ W, Below w1.heap.size w1 W → Calls Try.prog 13 #[.pointer (some ⟨w0.heap.size + 1, 0, none⟩), .int .u64 a] W fun e w' => e = .returned (.tuple #[.int .u32 (fV ps (btOf w1) a), .int .i64 (fE ps a)]) ∧ Below W.heap.size W w') := fun W hb => fetch_all _ _ ps _ a W (hM1.below hb) a0 a1
    have HRf : Hid (∀ W, Below w1.heap.size w1 W → Calls Try.prog 14 #[.slice vA len vc, .int .u64 a] W fun e w' => e = .returned (.tuple #[.int .u32 (fV ps (btOf w1) a), .int .i64 (fE ps a)]) ∧ Below W.heap.size W w') := fun W hb => rfetch_all hF hal hbl hY (HA1.below hb) hl a a0
    have HSm : Hid (∀ W, Below w1.heap.size w1 W → Calls Try.prog 15 #[.pointer (some ⟨w0.heap.size + 1, 0, none⟩), .slice vA len vc] W fun e w' => e = .returned (.bool true) ∧ Below W.heap.size W w') := fun W hb => same15 _ _ ps _ _ W (hM1.below hb) (by omega) (arg_row hF hbl hY (HA1.below hb))
    clear hF hM1 HA1 hal hbl hfe hz HH
    generalize lV ps (btOf w1) a n = v1 at *
    generalize lE ps a n = x1 at *
    generalize fV ps (btOf w1) a = v2 at *
    generalize fE ps a = x2 at *
    have wl : w.heap.size < w1.heap.size := by omega
    go_wp2_with fail
    refine (HLd.out w1 (Below.refl _ _)).mono ?_
    rintro e w2 ⟨rfl, hb⟩
    have C2 : Hid (Below w1.heap.size w1 w2) := hb
    have p0 : w2.cell? ⟨w.heap.size, 0, none⟩ = some (.slice vA len vc) := (hb.cell (p := ⟨w.heap.size, 0, none⟩) wl).trans j0
    have p1 : w2.cell? ⟨w.heap.size, 1, none⟩ = some (.int .u64 a) := (hb.cell (p := ⟨w.heap.size, 1, none⟩) wl).trans j1
    have p2 : w2.cell? ⟨w.heap.size, 2, none⟩ = some (.int .i64 n) := (hb.cell (p := ⟨w.heap.size, 2, none⟩) wl).trans j2
    clear hb
    go_wp2_with fail
    refine (HRl.out w2 C2.out).mono ?_
    rintro e w3 ⟨rfl, hb⟩
    have C3 : Hid (Below w1.heap.size w1 w3) := C2.out.trans (hb.mono C2.out.size)
    clear hb p0 p1 p2
    have p0 : w3.cell? ⟨w.heap.size, 0, none⟩ = some (.slice vA len vc) := (C3.out.cell (p := ⟨w.heap.size, 0, none⟩) wl).trans j0
    have p1 : w3.cell? ⟨w.heap.size, 1, none⟩ = some (.int .u64 a) := (C3.out.cell (p := ⟨w.heap.size, 1, none⟩) wl).trans j1
    go_wp2_with fail
    refine (HFt.out w3 C3.out).mono ?_
    rintro e w4 ⟨rfl, hb⟩
    have C4 : Hid (Below w1.heap.size w1 w4) := C3.out.trans (hb.mono C3.out.size)
    clear hb p0 p1
    have p0 : w4.cell? ⟨w.heap.size, 0, none⟩ = some (.slice vA len vc) := (C4.out.cell (p := ⟨w.heap.size, 0, none⟩) wl).trans j0
    have p1 : w4.cell? ⟨w.heap.size, 1, none⟩ = some (.int .u64 a) := (C4.out.cell (p := ⟨w.heap.size, 1, none⟩) wl).trans j1
    go_wp2_with fail
    refine (HRf.out w4 C4.out).mono ?_
    rintro e w5 ⟨rfl, hb⟩
    have C5 : Hid (Below w1.heap.size w1 w5) := C4.out.trans (hb.mono C4.out.size)
    clear hb p0 p1
    have p0 : w5.cell? ⟨w.heap.size, 0, none⟩ = some (.slice vA len vc) := (C5.out.cell (p := ⟨w.heap.size, 0, none⟩) wl).trans j0
    go_wp2_with fail
    refine (HSm.out w5 C5.out).mono ?_
    rintro e w6 ⟨rfl, hb⟩
    have C6 : Hid (Below w1.heap.size w1 w6) := C5.out.trans (hb.mono C5.out.size)
    clear hb p0
    go_wp2_with fail
    refine (HSp.out _).mono ?_
    rintro e w7 ⟨rfl, hb⟩
    have C7 : Hid (Below w.heap.size w w7) := HW1.out.trans ((C6.out.trans (hb.mono C6.out.size)).mono (by omega))
    clear hb
    go_wp2
    go_ret
    exact ⟨rfl, C7.out⟩
end Go.Proofs.Ytndbkkldfinggab
