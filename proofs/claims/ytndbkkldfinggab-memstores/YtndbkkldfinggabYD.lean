/- What a store leaves; the walk of MemStores. -/
import Derived.Test.YtndbkkldfinggabYB
import Derived.Test.YtndbkkldfinggabYC
namespace Go.Proofs.Ytndbkkldfinggab
open Go.RowKit Go.Shelf
set_option maxHeartbeats 1000000 in
theorem store_bad (v : Value) (a n u x : Int) (w : World) (hx : ¬ x = 0) (h : ∀ W, Calls Try.prog 30 #[v, .int .u64 a, .int .i64 n, .int .i64 2] W fun e w' => e = .returned (.int .i64 x) ∧ Below W.heap.size W w') : Calls Try.prog 17 #[v, .int .u64 a, .int .i64 n, .int .u64 u] w fun e w' => e = .returned (.int .i64 x) ∧ Below w.heap.size w w' := by
  have HU : Hid (∀ W, Calls Try.prog 30 #[v, .int .u64 a, .int .i64 n, .int .i64 2] W fun e w' => e = .returned (.int .i64 x) ∧ Below W.heap.size W w') := h
  have HB : Hid (Below w.heap.size w (w.alloc (.cells #[.int .u64 u] 23))) := (Below.refl _ w).alloc (Nat.le_refl _) _
  clear h
  go_enter Try.func17, Try.ntmps17
  go_wp2_with fail
  refine (HU.out _).mono ?_
  rintro e w1 ⟨rfl, hb⟩
  have HB1 : Hid (Below w.heap.size w w1) := HB.out.trans (hb.mono (by simp))
  clear hb
  go_wp2
  go_ret
  exact ⟨rfl, HB1.out⟩
/-- Whatever the pages' bytes are to be, a world has them. -/
theorem Fr.reY {W : World} {b r len : Nat} {k p : Nat → Int} {Y : Nat → Nat → Int} {base : Nat} {ps : List Pgd} (h : Fr W b r len k p Y base ps) (Z : Nat → Nat → Int) : ∀ m, m ≤ len → ∃ W', Fr W' b r len k p (fun t => if t < m then Z t else Y t) base ps
  | 0, _ => ⟨W, by simpa using h⟩
  | m + 1, hm => by
    obtain ⟨V, hV⟩ := Fr.reY h Z m (by omega)
    have hl := hV.len
    have hx : ps[m]? = some ps[m] := List.getElem?_eq_getElem (by omega)
    obtain ⟨⟨cur, hcur, hcs⟩, hd⟩ := hV.data m _ hx
    have hcap := (hV.at_ m _ hx).2.2.1
    have hne : ∀ y : Nat, y ≠ ps[m].g → (V.putObj ps[m].g (.cells (Array.ofFn (n := ps[m].c) fun j => Value.int .u8 (Z m j.1)) 5 (0, 0))).heap[y]? = V.heap[y]? := fun y hy => World.putObj_heap_other hy
    have hsame : (V.putObj ps[m].g (.cells (Array.ofFn (n := ps[m].c) fun j => Value.int .u8 (Z m j.1)) 5 (0, 0))).heap[ps[m].g]? = some (.cells (Array.ofFn (n := ps[m].c) fun j => Value.int .u8 (Z m j.1)) 5 (0, 0)) := World.putObj_heap_same (lt_of_some hcur)
    have nb : b ≠ ps[m].g := fun e => by
      have := hV.cell
      rw [e, hd 0 (by omega)] at this
      cases this
    have nr : r ≠ ps[m].g := fun e => by
      have := hV.map
      rw [e, hcur] at this
      cases this
    refine ⟨_, hV.len, ?_, (hne r nr).trans hV.map, hV.at_, fun j x hj => ?_, hV.apart, hV.up⟩
    · have := hV.cell
      simp only [World.cell?, hne b nb] at this ⊢
      exact this
    · by_cases e : j = m
      · subst e
        rw [hx] at hj
        cases hj
        refine ⟨⟨_, hsame, by simp⟩, fun t ht => ?_⟩
        simp only [World.cell?, hsame]
        have ht2 : t < ps[j].c := by omega
        simp [ht2]
      · obtain ⟨⟨cu, hc, hs⟩, hdd⟩ := hV.data j x hj
        have hlt := (List.getElem?_eq_some_iff.1 hj).1
        have hxg : x.g ≠ ps[m].g := by
          have hxe := (List.getElem?_eq_some_iff.1 hj).2
          rw [← hxe]
          rcases Nat.lt_or_gt_of_ne e with e | e
          · exact Nat.ne_of_lt ((List.pairwise_iff_getElem.1 hV.apart) j m (by omega) (by omega) e)
          · exact Nat.ne_of_gt ((List.pairwise_iff_getElem.1 hV.apart) m j (by omega) (by omega) e)
        refine ⟨⟨cu, (hne _ hxg).trans hc, hs⟩, fun t ht => ?_⟩
        have := hdd t ht
        simp only [World.cell?, hne _ hxg] at this ⊢
        rw [this]
        by_cases e2 : j < m
        · rw [if_pos e2, if_pos (by omega)]
        · rw [if_neg e2, if_neg (by omega)]
theorem Fr.ofY {W : World} {b r len : Nat} {k p : Nat → Int} {Y : Nat → Nat → Int} {base : Nat} {ps : List Pgd} (h : Fr W b r len k p Y base ps) (Z : Nat → Nat → Int) : ∃ W', Fr W' b r len k p Z base ps := by
  obtain ⟨W', h'⟩ := h.reY Z len (Nat.le_refl _)
  refine ⟨W', h'.len, h'.cell, h'.map, h'.at_, fun j x hj => ?_, h'.apart, h'.up⟩
  have hlt := (List.getElem?_eq_some_iff.1 hj).1
  have := h'.data j x hj
  rw [if_pos (by have := h'.len; omega)] at this
  exact this
/-- The byte of a page's place. -/
theorem Fr.byt_at {W : World} {b r len : Nat} {k p : Nat → Int} {Y : Nat → Nat → Int} {base : Nat} {ps : List Pgd} (h : Fr W b r len k p Y base ps) (hal : ∀ i, i < len → k i % 4096 = 0) (X : Nat → Nat → Int) {i j : Nat} (hi : i < ps.length) (hj : j < 4096) : pg ps (bs (k i + j)) = some ps[i] ∧ byt ps X (k i + j) = X ps[i].g j := by
  have hl := h.len
  have ha := hal i (by omega)
  have e : bs (k i + j) = k i := by unfold bs; omega
  have e1 : pg ps (bs (k i + j)) = some ps[i] := by rw [e]; exact h.pg_at hi
  refine ⟨e1, ?_⟩
  rw [byt_eq, gOf, oOf, e1, e]
  congr 1
  omega
theorem Fr.yw_st {W : World} {b r len : Nat} {k p : Nat → Int} {Y : Nat → Nat → Int} {base : Nat} {ps : List Pgd} (h : Fr W b r len k p Y base ps) (hal : ∀ i, i < len → k i % 4096 = 0) (hY : ∀ i j, 0 ≤ Y i j ∧ Y i j < 256) (a u : Int) (n : Nat) (a0 : 0 ≤ a) (n1 : n ≤ 8) (u0 : 0 ≤ u) (hu : useE ps a n 2 = 0) {i j : Nat} (hi : i < ps.length) (hj : j < 4096) : Yw k Y a (bytV u) n i j = stB ps (btOf W) a n u ps[i].g j := by
  obtain ⟨e1, e2⟩ := h.byt_at hal (stB ps (btOf W) a n u) hi hj
  obtain ⟨_, e3⟩ := h.byt_at hal (btOf W) hi hj
  rw [← e2, byt_st h.apart' (btOf W) a u n a0 n1 u0 _ (by rw [e1]; simp), e3]
  unfold Yw bytV
  have hd := (h.data i _ (List.getElem?_eq_getElem hi)).2 j hj
  rw [btOf_at hd (hY i j)]
  by_cases q : a ≤ k i + j ∧ k i + j < a + n
  · rw [if_pos q, if_pos ⟨hu, q⟩]
  · rw [if_neg q, if_neg (fun x => q x.2)]
theorem sum_bytV : ∀ (n : Nat) (u : Int), 0 ≤ u → sumV ((List.range n).map (bytV u)) = u % 256 ^ n
  | 0, u, _ => by simp [sumV]
  | n + 1, u, h => by
    have ih := sum_bytV n (u / 256) (Int.ediv_nonneg h (by decide))
    have e : (List.range (n + 1)).map (bytV u) = u % 256 :: (List.range n).map (bytV (u / 256)) := by
      rw [List.range_succ_eq_map, List.map_cons, List.map_map]
      congr 1
      · simp [bytV]
      · apply List.map_congr_left
        intro j _
        simp only [bytV, Function.comp, Int.pow_succ]
        rw [Int.mul_comm, Int.ediv_ediv_of_nonneg (by decide)]
    rw [e, sumV, ih, Int.pow_succ, Int.mul_comm (256 ^ n) 256]
    obtain ⟨m, rfl⟩ := Int.eq_ofNat_of_zero_le h
    have hq : (256 : Int) ^ n = ((256 ^ n : Nat) : Int) := by simp
    rw [hq]
    generalize 256 ^ n = q
    have t := congrArg (fun z : Nat => (z : Int)) (Nat.mod_mul (x := m) (a := 256) (b := q))
    simp only [Int.natCast_add, Int.natCast_mul, Int.natCast_emod, Int.natCast_ediv] at t
    exact t.symm
theorem mask64 (k : Nat) (msk p a : Int) (hp : p = ((2 ^ k : Nat) : Int)) (hm : msk = p - 1) (hk : k ≤ 64) (h0 : 0 ≤ a) (h1 : a < 18446744073709551616) : bits .and .u64 a msk = a % p := by
  have e2 : 0 < 2 ^ k := Nat.two_pow_pos k
  have e3 : 2 ^ k ≤ 2 ^ 64 := Nat.pow_le_pow_right (by omega) hk
  subst hm
  rw [u64_and a (p - 1) h0 (by omega) (by omega) (by omega)]
  have e : (p - 1).toNat = 2 ^ k - 1 := by omega
  rw [e, Nat.and_two_pow_sub_one_eq_mod, Int.natCast_emod, Int.toNat_of_nonneg h0, hp]
theorem cases4 {w : World} {vA : Option Addr} {vc b r len : Nat} {k p : Nat → Int} {ao : Nat → Option Addr} {bl bc : Nat → Nat} {Y : Nat → Nat → Int} {base : Nat} {ps : List Pgd} (hF : Fr w b r len k p Y base ps) (hal : ∀ i, i < len → k i % 4096 = 0) (hY : ∀ i j, 0 ≤ Y i j ∧ Y i j < 256) (hA : PgArg w (.slice vA len vc) len k p ao bl bc Y) (hlen : len ≤ 4096) (a n u : Int) (a0 : 0 ≤ a) (a1 : a < 18446744073709551616) :
    (∃ x : Int, ¬ x = 0 ∧ (Calls Try.prog 17 #[.pointer (some ⟨b, 0, none⟩), .int .u64 a, .int .i64 n, .int .u64 u] w fun e w' => e = .returned (.int .i64 x) ∧ Below w.heap.size w w') ∧ ∀ W, Below w.heap.size w W → Calls Try.prog 18 #[.slice vA len vc, .int .u64 a, .int .i64 n, .int .u64 u] W fun e w' => e = .returned (.tuple #[.slice vA len vc, .int .i64 x]) ∧ w' = W) ∨
    (∃ m : Nat, n = m ∧ isN m ∧ a + m ≤ 281474976710656 ∧ useE ps a m 2 = 0 ∧ ∀ W, Below w.heap.size w W → Calls Try.prog 32 #[.slice vA len vc, .int .u64 a, .int .i64 m, .int .i64 2] W fun e w' => e = .returned (.int .i64 0) ∧ w' = W) := by
  by_cases hn : n = 1 ∨ n = 2 ∨ n = 4 ∨ n = 8
  · obtain ⟨m, hm, hN⟩ : ∃ m : Nat, n = m ∧ isN m := by
      rcases hn with rfl | rfl | rfl | rfl
      · exact ⟨1, rfl, .inl rfl⟩
      · exact ⟨2, rfl, .inr (.inl rfl)⟩
      · exact ⟨4, rfl, .inr (.inr (.inl rfl))⟩
      · exact ⟨8, rfl, .inr (.inr (.inr rfl))⟩
    subst hm
    have m1 : 1 ≤ m ∧ m ≤ 8 := by unfold isN at hN; omega
    by_cases hf : 281474976710656 ≤ a ∨ 281474976710656 - a < (m : Int)
    · exact .inl ⟨1, by decide, store_bad _ a m u 1 w (by decide) (fun W => number_far _ a 2 m W a0 a1 hN hf), fun W _ => rstore_err _ a u 1 m W hN (by decide) (asked_far _ a 2 m W a0 a1 m1.2 hf)⟩
    · by_cases hu : useE ps a m 2 = 0
      · exact .inr ⟨m, rfl, hN, by omega, hu, fun W hb => by have t := asked_use hF hal (hA.below hb) hlen a 2 m a0 (by omega) hN; rw [hu] at t; exact t⟩
      · exact .inl ⟨useE ps a m 2, hu, store_err _ _ ps _ a u m w (hF.mo hY) a0 hN (by omega) hu, fun W hb => rstore_err _ a u _ m W hN hu (asked_use hF hal (hA.below hb) hlen a 2 m a0 (by omega) hN)⟩
  · exact .inl ⟨1, by decide, store_bad _ a n u 1 w (by decide) (fun W => (number_odd _ a n 2 W hn).mono fun e w' ⟨h1, h2⟩ => ⟨h1, h2 ▸ Below.refl _ _⟩), fun W _ => rstore_odd _ a n u W hn⟩
theorem Fr.k_inj {W : World} {b r len : Nat} {k p : Nat → Int} {Y : Nat → Nat → Int} {base : Nat} {ps : List Pgd} (h : Fr W b r len k p Y base ps) : ∀ t t', t < len → t' < len → k t = k t' → t = t' := by
  have hl := h.len
  have up : ∀ t t', t < t' → t' < len → k t < k t' := fun t t' h1 h2 => by
    have e := (List.pairwise_iff_getElem.1 h.up) t t' (by omega) (by omega) h1
    rw [(h.at_ t _ (List.getElem?_eq_getElem (by omega))).1, (h.at_ t' _ (List.getElem?_eq_getElem (by omega))).1] at e
    exact e
  intro t t' h1 h2 e
  rcases Nat.lt_trichotomy t t' with q | q | q
  · have := up t t' q h2; omega
  · exact q
  · have := up t' t q h1; omega
/-- Each byte that is written has its page. -/
theorem Fr.places {W : World} {b r len : Nat} {k p : Nat → Int} {Y : Nat → Nat → Int} {base : Nat} {ps : List Pgd} (h : Fr W b r len k p Y base ps) (hal : ∀ i, i < len → k i % 4096 = 0) {a : Int} {m : Nat} (a0 : 0 ≤ a) (m1 : m ≤ 8) (hu : useE ps a m 2 = 0) (j : Nat) (hj : j < m) : ∃ t : Nat, t < len ∧ fi k len (a + (j : Int)) = t ∧ k t ≤ a + j ∧ a + j < k t + 4096 := by
  have hp := use_all a0 m1 hu j hj
  cases e : pg ps (bs (a + (j : Int))) with
  | none => exact absurd e hp
  | some x =>
    obtain ⟨t, ht, _, hk⟩ := h.pg_idx e
    have hl := h.len
    refine ⟨t, by omega, h.fi_some hal (by omega) hk, ?_, ?_⟩ <;> rw [hk] <;> unfold bs <;> omega
theorem lv_both {W : World} {b r len : Nat} {k p : Nat → Int} {Y : Nat → Nat → Int} {base : Nat} {ps : List Pgd} (h : Fr W b r len k p Y base ps) (hal : ∀ i, i < len → k i % 4096 = 0) (a u : Int) (m : Nat) (a0 : 0 ≤ a) (m1 : m ≤ 8) (u0 : 0 ≤ u) (hu : useE ps a m 2 = 0) (X : Nat → Nat → Int) (hX : ∀ (i : Nat) (hi : i < ps.length) (j : Nat), j < 4096 → X ps[i].g j = Yw k Y a (bytV u) m i j) : lV ps X a m = if lE ps a m = 0 then u % 256 ^ m else 0 := by
  unfold lV
  have e : byts ps X a (m : Int).toNat = (List.range m).map (bytV u) := by
    unfold byts
    rw [Int.toNat_natCast]
    apply List.map_congr_left
    intro j hj
    have hj := List.mem_range.1 hj
    obtain ⟨t, ht, _, h1, h2⟩ := h.places hal a0 m1 hu j hj
    have hl := h.len
    obtain ⟨q, hq⟩ : ∃ q : Nat, a + (j : Int) = k t + q := ⟨(a + j - k t).toNat, by omega⟩
    rw [hq, (h.byt_at hal X (i := t) (j := q) (by omega) (by omega)).2, hX t (by omega) q (by omega)]
    unfold Yw
    rw [if_pos (by omega)]
    congr 1
    omega
  rw [e, sum_bytV m u u0]
theorem fr_but {W W' : World} {b r i : Nat} {k p : Nat → Int} {Y : Nat → Nat → Int} {base : Nat} {ps qs : List Pgd} (h : Fr W b r i k p Y base qs) (hB : But ps W.heap.size W W') (hg : ∀ x ∈ ps, x.g < base) (hb : base ≤ b) (hr : base ≤ r) : Fr W' b r i k p Y base qs := by
  have eb := hB.block b (lt_of_cell h.cell) (fun x hx e => by have := hg x hx; omega)
  refine ⟨h.len, ?_, (hB.block r (lt_of_some h.map) (fun x hx e => by have := hg x hx; omega)).trans h.map, h.at_, fun j x hx => ?_, h.apart, h.up⟩
  · have t := h.cell
    simp only [World.cell?, eb] at t ⊢
    exact t
  · obtain ⟨⟨cur, hc, hs⟩, hd⟩ := h.data j x hx
    have hxb := (h.at_ j x hx).2.2.2
    have e := hB.block x.g (lt_of_some hc) (fun y hy e => by have := hg y hy; omega)
    exact ⟨⟨cur, e.trans hc, hs⟩, fun t ht => by have q := hd t ht; simp only [World.cell?, e] at q ⊢; exact q⟩
/-- The document's Store, where it writes. -/
theorem rstore_good {w : World} {v : Value} {b r len : Nat} {k p : Nat → Int} {ao : Nat → Option Addr} {bl bc : Nat → Nat} {Y : Nat → Nat → Int} {base : Nat} {ps : List Pgd} {W0 : World} (hF : Fr W0 b r len k p Y base ps) (hal : ∀ i, i < len → k i % 4096 = 0) (hbl : ∀ i, i < len → bl i = 4096) (hA : PgArg w v len k p ao bl bc Y) (hlen : len ≤ 4096) (a u : Int) (m : Nat) (a0 : 0 ≤ a) (hN : isN m) (h48 : a + m ≤ 281474976710656) (u0 : 0 ≤ u) (u1 : u < 18446744073709551616) (hu : useE ps a m 2 = 0) (has : Calls Try.prog 32 #[v, .int .u64 a, .int .i64 m, .int .i64 2] w fun e w' => e = .returned (.int .i64 0) ∧ w' = w) :
    Calls Try.prog 18 #[v, .int .u64 a, .int .i64 m, .int .u64 u] w fun e w' => ∃ x, e = .returned (.tuple #[x, .int .i64 0]) ∧ ∃ la lc g o c, x = .slice (some ⟨la, 0, none⟩) len lc ∧ len ≤ lc ∧ Row w' la 0 len k p (Yw k Y a (bytV u) m) g o c ∧ Below w.heap.size w w' := by
  have m1 : 1 ≤ m ∧ m ≤ 8 := by unfold isN at hN; omega
  refine rstore_ok v a u m w (fun x w' => ∃ la lc g o c, x = .slice (some ⟨la, 0, none⟩) len lc ∧ len ≤ lc ∧ Row w' la 0 len k p (Yw k Y a (bytV u) m) g o c ∧ Below w.heap.size w w') hN u0 u1 has ?_
  intro bb bcap W hb hB
  obtain ⟨t, ht, _⟩ := hF.places hal a0 m1.2 hu 0 (by omega)
  obtain ⟨⟨x, cap, rfl, _, hs⟩, _⟩ := hA.below hb
  obtain ⟨lb, lo, rfl, hS⟩ := hs (by omega)
  refine (written38 lb lo len cap k p ao bl bc Y a m bb 0 bcap (bytV u) W hS hbl a0 h48 (by omega) (by omega) (by omega) hal hF.k_inj hB (fun j => by unfold bytV; omega) (hF.places hal a0 m1.2 hu)).mono ?_
  rintro e w' ⟨la, lc, g, o, c, rfl, h1, h2, h3⟩
  exact ⟨_, rfl, la, lc, g, o, c, rfl, h1, h2, hb.trans (h3.mono hb.size)⟩
set_option maxRecDepth 20000 in
set_option maxHeartbeats 8000000 in
theorem law4 {v : Value} {len : Nat} {k p : Nat → Int} {ao : Nat → Option Addr} {bl bc : Nat → Nat} {Y : Nat → Nat → Int} (a n u : Int) (a0 : 0 ≤ a) (a1 : a < 18446744073709551616) (u0 : 0 ≤ u) (u1 : u < 18446744073709551616) (w : World) (h : PgArg w v len k p ao bl bc Y) : Calls Try.prog 4 #[.agg #[v, .int .u64 a, .int .i64 n, .int .u64 u]] w fun e w' => e = .returned (.bool true) ∧ Below w.heap.size w w' := by
  obtain ⟨vA, vc, hv, -, -⟩ := h.shape
  have HH : Hid (PgArg w v len k p ao bl bc Y) := h
  clear h
  subst hv
  go_enter Try.func4, Try.ntmps4
  go_wp2_with fail
  obtain ⟨w0, hw0⟩ : ∃ w0, (w.alloc (.cells #[.slice vA len vc, .int .u64 a, .int .i64 n, .int .u64 u] 25)) = w0 := ⟨_, rfl⟩
  have hnew := World.alloc_heap_new w (.cells #[.slice vA len vc, .int .u64 a, .int .i64 n, .int .u64 u] 25)
  rw [hw0] at hnew
  have k0 : w0.cell? ⟨w.heap.size, 0, none⟩ = some (.slice vA len vc) := by simp [World.cell?, hnew]
  have k1 : w0.cell? ⟨w.heap.size, 1, none⟩ = some (.int .u64 a) := by simp [World.cell?, hnew]
  have k2 : w0.cell? ⟨w.heap.size, 2, none⟩ = some (.int .i64 n) := by simp [World.cell?, hnew]
  have k3 : w0.cell? ⟨w.heap.size, 3, none⟩ = some (.int .u64 u) := by simp [World.cell?, hnew]
  have hs : w.heap.size + 1 = w0.heap.size := by rw [← hw0]; simp
  have HB : Hid (Below w.heap.size w w0) := by have : Below w.heap.size w w0 := by { rw [← hw0]; exact (Below.refl _ w).alloc (Nat.le_refl _) _ }; exact this
  rw [hw0]
  clear hw0 hnew
  have HL : Hid (∀ W, Below w0.heap.size w0 W → W.cell? ⟨w.heap.size, 0, none⟩ = some (.slice vA len vc) ∧ W.cell? ⟨w.heap.size, 1, none⟩ = some (.int .u64 a) ∧ W.cell? ⟨w.heap.size, 2, none⟩ = some (.int .i64 n) ∧ W.cell? ⟨w.heap.size, 3, none⟩ = some (.int .u64 u)) := fun W hb => ⟨(hb.cell (p := ⟨w.heap.size, 0, none⟩) (by show w.heap.size < _; omega)).trans k0, (hb.cell (p := ⟨w.heap.size, 1, none⟩) (by show w.heap.size < _; omega)).trans k1, (hb.cell (p := ⟨w.heap.size, 2, none⟩) (by show w.heap.size < _; omega)).trans k2, (hb.cell (p := ⟨w.heap.size, 3, none⟩) (by show w.heap.size < _; omega)).trans k3⟩
  refine (from_any w0 (HH.out.below HB.out)).mono ?_
  rintro e w1 ⟨hb, hcs⟩
  have HB1 : Hid (Below w0.heap.size w0 w1) := hb
  have hz1 := hb.size
  have HW1 : Hid (Below w.heap.size w w1) := HB.out.trans (hb.mono (by omega))
  clear hb k0 k1 k2 k3
  have HSp : Hid (∀ W, Calls Try.prog 10 #[] W fun e w' => e = .returned (.bool true) ∧ Below W.heap.size W w') := speaks11
  rcases hcs with ⟨hne, rfl⟩ | ⟨hz, hl, rfl, ps, hF⟩
  · have hnb : (errE len k p bl != 0) = true := by simpa using hne
    generalize errE len k p bl = er at *
    go_wp2_with fail
    refine (HSp.out _).mono ?_
    rintro e w2 ⟨rfl, hb⟩
    have HB2 : Hid (Below w.heap.size w w2) := HW1.out.trans (hb.mono HW1.out.size)
    clear hb
    go_wp2
    go_ret
    exact ⟨rfl, HB2.out⟩
  · have hfe : fromE k p bl len = 0 := by unfold errE at hz; rw [if_neg (by omega)] at hz; exact hz
    have HK : Hid ((∀ i, i < len → k i % 4096 = 0) ∧ (∀ i, i < len → bl i = 4096) ∧ (∀ i j, 0 ≤ Y i j ∧ Y i j < 256)) := ⟨fromE_al len hfe, fromE_bl len hfe, HH.out.by_⟩
    have HF1 : Hid (Fr w1 (w0.heap.size + 1) w0.heap.size len k p Y w0.heap.size ps) := hF
    have hln := hF.len
    clear hF hfe hz
    have HCl : Hid (Calls Try.prog 16 #[.pointer (some ⟨w0.heap.size + 1, 0, none⟩)] w1 fun e w' => e = .returned (.pointer (some ⟨w1.heap.size + 1, 0, none⟩)) ∧ (∃ qs, Fr w' (w1.heap.size + 1) w1.heap.size len k p Y w1.heap.size qs) ∧ Below w1.heap.size w1 w') := clone16 _ _ _ _ _ _ _ _ w1 HF1.out (by omega)
    go_wp2_with fail
    refine HCl.out.mono ?_
    rintro e w2 ⟨rfl, ⟨qs, hq⟩, hb⟩
    have HB2 : Hid (Below w0.heap.size w0 w2) := HB1.out.trans (hb.mono HB1.out.size)
    have HA2 : Hid (PgArg w2 (.slice vA len vc) len k p ao bl bc Y) := HH.out.below (HW1.out.trans (hb.mono HW1.out.size))
    have HP2 : Hid (Fr w2 (w0.heap.size + 1) w0.heap.size len k p Y w0.heap.size ps) := fr_below HF1.out hb
    have HQ2 : Hid (Fr w2 (w1.heap.size + 1) w1.heap.size len k p Y w1.heap.size qs) := hq
    have hz2 := hb.size
    have HG : Hid (∀ x ∈ ps, x.g < w1.heap.size) := HF1.out.lt
    clear hb hq HCl
    obtain ⟨j0, j1, j2, j3⟩ := HL.out w2 HB2.out
    rcases cases4 HP2.out HK.out.1 HK.out.2.2 HA2.out hl a n u a0 a1 with ⟨x, hx, hst, hrs⟩ | ⟨m, rfl, hN, h48, hu, has⟩
    · have HSt : Hid (Calls Try.prog 17 #[.pointer (some ⟨w0.heap.size + 1, 0, none⟩), .int .u64 a, .int .i64 n, .int .u64 u] w2 fun e w' => e = .returned (.int .i64 x) ∧ Below w2.heap.size w2 w') := hst
      have HRs : Hid (∀ W, Below w2.heap.size w2 W → Calls Try.prog 18 #[.slice vA len vc, .int .u64 a, .int .i64 n, .int .u64 u] W fun e w' => e = .returned (.tuple #[.slice vA len vc, .int .i64 x]) ∧ w' = W) := hrs
      have S1 : Hid (∀ W, Below w2.heap.size w2 W → Calls Try.prog 15 #[.pointer (some ⟨w0.heap.size + 1, 0, none⟩), .slice vA len vc] W fun e w' => e = .returned (.bool true) ∧ Below W.heap.size W w') := fun W hb => same15 _ _ ps _ _ W ((HP2.out.mm HK.out.2.2).below hb) (by omega) (arg_row HP2.out HK.out.2.1 HK.out.2.2 (HA2.out.below hb))
      have S3 : Hid (∀ W, Below w2.heap.size w2 W → Calls Try.prog 15 #[.pointer (some ⟨w1.heap.size + 1, 0, none⟩), .slice vA len vc] W fun e w' => e = .returned (.bool true) ∧ Below W.heap.size W w') := fun W hb => same15 _ _ qs _ _ W ((HQ2.out.mm HK.out.2.2).below hb) (by have := HQ2.out.len; omega) (arg_row HQ2.out HK.out.2.1 HK.out.2.2 (HA2.out.below hb))
      have S2 : Hid (∀ W, Below w2.heap.size w2 W → Calls Try.prog 19 #[.pointer (some ⟨w0.heap.size + 1, 0, none⟩), .pointer (some ⟨w1.heap.size + 1, 0, none⟩)] W fun e w' => e = .returned (.bool true) ∧ Below W.heap.size W w') := fun W hb => same_true _ _ _ _ ps qs _ _ W ((HP2.out.mm HK.out.2.2).below hb) ((HQ2.out.mm HK.out.2.2).below hb) (by rw [HP2.out.len, HQ2.out.len]) (by omega) (same_places (HP2.out.alike HQ2.out) (fun x hx => by obtain ⟨t, ht, rfl⟩ := List.getElem_of_mem hx; rw [(HP2.out.at_ t _ (List.getElem?_eq_getElem ht)).1]; exact HK.out.1 t (by omega)) (HP2.out.byts HQ2.out HK.out.2.2))
      have hxb : (x != 0) = true := by simpa using hx
      clear hst hrs HP2 HQ2 HA2 HF1 HK HH
      go_wp2_with fail
      refine HSt.out.mono ?_
      rintro e w3 ⟨rfl, hb⟩
      have C3 : Hid (Below w2.heap.size w2 w3) := hb
      clear hb j0 j1 j2 j3
      obtain ⟨j0, j1, j2, j3⟩ := HL.out w3 (HB2.out.trans (C3.out.mono HB2.out.size))
      go_wp2_with fail
      refine (HRs.out w3 C3.out).mono ?_
      rintro e w4 ⟨rfl, e4⟩
      have e4' := e4.symm
      subst e4'
      go_wp2_with fail
      refine (S1.out w3 C3.out).mono ?_
      rintro e w5 ⟨rfl, hb⟩
      have C5 : Hid (Below w2.heap.size w2 w5) := C3.out.trans (hb.mono C3.out.size)
      clear hb j0 j1 j2 j3
      obtain ⟨j0, j1, j2, j3⟩ := HL.out w5 (HB2.out.trans (C5.out.mono HB2.out.size))
      go_wp2_with fail
      refine (S3.out w5 C5.out).mono ?_
      rintro e w6 ⟨rfl, hb⟩
      have C6 : Hid (Below w2.heap.size w2 w6) := C5.out.trans (hb.mono C5.out.size)
      clear hb j0 j1 j2 j3
      obtain ⟨j0, j1, j2, j3⟩ := HL.out w6 (HB2.out.trans (C6.out.mono HB2.out.size))
      go_wp2_with fail
      refine (S2.out w6 C6.out).mono ?_
      rintro e w7 ⟨rfl, hb⟩
      have C7 : Hid (Below w2.heap.size w2 w7) := C6.out.trans (hb.mono C6.out.size)
      clear hb j0 j1 j2 j3
      go_wp2_with fail
      refine (HSp.out _).mono ?_
      rintro e w8 ⟨rfl, hb⟩
      have C8 : Hid (Below w.heap.size w w8) := HB.out.trans ((HB2.out.trans ((C7.out.trans (hb.mono C7.out.size)).mono HB2.out.size)).mono (by omega))
      clear hb
      go_wp2
      go_ret
      exact ⟨rfl, C8.out⟩
    · have RK : Hid (∀ i, i < len → 0 ≤ k i ∧ k i < 18446744073709551616) := by
        intro i hi
        obtain ⟨⟨_, _, _, _, hs'⟩, _⟩ := HH.out
        obtain ⟨_, _, _, hS⟩ := hs' (by omega)
        exact hS.rk i hi
      rcases hN with rfl | rfl | rfl | rfl
      · have HU : Hid (useE ps a (1 : Nat) 2 = 0) := hu
        have HSt : Hid (Calls Try.prog 17 #[.pointer (some ⟨w0.heap.size + 1, 0, none⟩), .int .u64 a, .int .i64 1, .int .u64 u] w2 fun e w' => e = .returned (.int .i64 0) ∧ But ps w2.heap.size w2 w' ∧ Mo w' (w0.heap.size + 1) w0.heap.size ps (stB ps (btOf w2) a 1 u)) := by
          have t := store_any _ _ ps _ a u 1 w2 (HP2.out.mo HK.out.2.2) a0 (.inl rfl : isN 1) h48 u0 u1
          rw [hu] at t
          exact t
        have HAs : Hid (∀ W, Below w2.heap.size w2 W → Calls Try.prog 32 #[.slice vA len vc, .int .u64 a, .int .i64 (1 : Nat), .int .i64 2] W fun e w' => e = .returned (.int .i64 0) ∧ w' = W) := has
        clear hu has
        go_wp2_with fail
        refine HSt.out.mono ?_
        rintro e w3 ⟨rfl, hbut, hmo⟩
        have HBt : Hid (But ps w2.heap.size w2 w3) := hbut
        have HMo : Hid (Mo w3 (w0.heap.size + 1) w0.heap.size ps (stB ps (btOf w2) a 1 u)) := hmo
        have HB3 : Hid (Below w0.heap.size w0 w3) := HB2.out.trans (hbut.below HB2.out.size (fun x hx => by obtain ⟨t, ht, rfl⟩ := List.getElem_of_mem hx; exact (HP2.out.at_ t _ (List.getElem?_eq_getElem ht)).2.2.2))
        have HA3 : Hid (PgArg w3 (.slice vA len vc) len k p ao bl bc Y) := (HH.out.below HB.out).below (HB3.out)
        have HQ3 : Hid (Fr w3 (w1.heap.size + 1) w1.heap.size len k p Y w1.heap.size qs) := fr_but HQ2.out hbut HG.out (by omega) (Nat.le_refl _)
        have HAs3 : Hid (Calls Try.prog 32 #[.slice vA len vc, .int .u64 a, .int .i64 (1 : Nat), .int .i64 2] w3 fun e w' => e = .returned (.int .i64 0) ∧ w' = w3) := by
          have t := asked_use HP2.out HK.out.1 HA3.out hl a 2 1 a0 h48 (.inl rfl : isN 1)
          rw [HU.out] at t
          exact t
        have HRs : Hid (Calls Try.prog 18 #[.slice vA len vc, .int .u64 a, .int .i64 1, .int .u64 u] w3 fun e w' => ∃ x, e = .returned (.tuple #[x, .int .i64 0]) ∧ ∃ la lc g o c, x = .slice (some ⟨la, 0, none⟩) len lc ∧ len ≤ lc ∧ Row w' la 0 len k p (Yw k Y a (bytV u) 1) g o c ∧ Below w3.heap.size w3 w') := rstore_good HP2.out HK.out.1 HK.out.2.1 HA3.out hl a u 1 a0 (.inl rfl : isN 1) h48 u0 u1 HU.out HAs3.out
        clear hbut hmo j0 j1 j2 j3
        obtain ⟨j0, j1, j2, j3⟩ := HL.out w3 HB3.out
        go_wp2_with fail
        refine HRs.out.mono ?_
        rintro e w4 ⟨x, rfl, la, lc, g, o, c, rfl, hlc, hrow, hb⟩
        have C4 : Hid (Below w3.heap.size w3 w4) := hb
        have HRow : Hid (Row w4 la 0 len k p (Yw k Y a (bytV u) 1) g o c) := hrow
        have YS : Hid (∀ (i : Nat) (hi : i < ps.length) (j : Nat), j < 4096 → stB ps (btOf w2) a 1 u ps[i].g j = Yw k Y a (bytV u) 1 i j) := fun i hi j hj => (HP2.out.yw_st HK.out.1 HK.out.2.2 a u 1 a0 (by omega) u0 HU.out hi hj).symm
        have S1 : Hid (∀ W, Below w4.heap.size w4 W → Calls Try.prog 15 #[.pointer (some ⟨w0.heap.size + 1, 0, none⟩), .slice (some ⟨la, 0, none⟩) len lc] W fun e w' => e = .returned (.bool true) ∧ Below W.heap.size W w') := fun W hb => by
          refine same15 _ _ ps (stB ps (btOf w2) a 1 u) _ W ((HMo.out.mm.below C4.out).below hb) (by omega) ⟨_, lc, by rw [hln], fun _ => ⟨la, 0, g, o, c, rfl, ?_⟩⟩
          rw [hln]
          refine (HRow.out.below hb).congr (fun i hi => ?_) (fun i hi => ?_) (fun i hi j hj => ?_)
          · rw [HP2.out.ordP i (by omega), (HP2.out.at_ i _ (List.getElem?_eq_getElem (by omega))).1]
          · rw [HP2.out.ordP i (by omega), (HP2.out.at_ i _ (List.getElem?_eq_getElem (by omega))).2.1]
          · rw [HP2.out.ordP i (by omega), YS.out i (by omega) j hj]
        have S3 : Hid (∀ W, Below w4.heap.size w4 W → Calls Try.prog 15 #[.pointer (some ⟨w1.heap.size + 1, 0, none⟩), .slice vA len vc] W fun e w' => e = .returned (.bool true) ∧ Below W.heap.size W w') := fun W hb => same15 _ _ qs _ _ W ((((fr_below HQ3.out C4.out).mm HK.out.2.2)).below hb) (by have := HQ3.out.len; omega) (arg_row (fr_below HQ3.out C4.out) HK.out.2.1 HK.out.2.2 ((HA3.out.below C4.out).below hb))
        have L1 : Hid (∀ W, Below w4.heap.size w4 W → Calls Try.prog 11 #[.pointer (some ⟨w0.heap.size + 1, 0, none⟩), .int .u64 a, .int .i64 1] W fun e w' => e = .returned (.tuple #[.int .u64 (if lE ps a 1 = 0 then u % 256 ^ 1 else 0), .int .i64 (lE ps a 1)]) ∧ Below W.heap.size W w') := fun W hb => by
          have t := load_all _ _ ps (stB ps (btOf w2) a 1 u) a ((1 : Nat) : Int) W ((HMo.out.mm.below C4.out).below hb) a0 a1
          rw [lv_both HP2.out HK.out.1 a u 1 a0 (by omega) u0 HU.out _ YS.out] at t
          exact t
        have L2 : Hid (∀ W, Below w4.heap.size w4 W → Calls Try.prog 12 #[.slice (some ⟨la, 0, none⟩) len lc, .int .u64 a, .int .i64 1] W fun e w' => e = .returned (.tuple #[.int .u64 (if lE ps a 1 = 0 then u % 256 ^ 1 else 0), .int .i64 (lE ps a 1)]) ∧ Below W.heap.size W w') := fun W hb => by
          have hYw := Yw_small (k := k) (a := a) HK.out.2.2 (B := bytV u) (fun j => by unfold bytV; omega) 1
          obtain ⟨V, hV⟩ := HP2.out.ofY (Yw k Y a (bytV u) 1)
          have t := rload_all (w := W) (v := .slice (some ⟨la, 0, none⟩) len lc) hV HK.out.1 (fun _ _ => rfl) hYw ⟨⟨_, lc, rfl, hlc, fun _ => ⟨la, 0, rfl, (HRow.out.below hb).src hYw RK.out⟩⟩, hYw⟩ hl a ((1 : Nat) : Int) a0 a1
          rw [lv_both HP2.out HK.out.1 a u 1 a0 (by omega) u0 HU.out (btOf V) (fun i hi j hj => btOf_at ((hV.data i _ (List.getElem?_eq_getElem hi)).2 j hj) (hYw i j))] at t
          exact t
        have HV : Hid (0 ≤ u % 256 ^ 1) := Int.emod_nonneg _ (by decide)
        clear hrow hb j0 j1 j2 j3 HSt HRs HAs3 HMo HRow YS HBt
        obtain ⟨j0, j1, j2, j3⟩ := HL.out w4 (HB3.out.trans (C4.out.mono HB3.out.size))
        go_wp2_with fail
        refine (S1.out w4 (Below.refl _ _)).mono ?_
        rintro e w5 ⟨rfl, hb⟩
        have C5 : Hid (Below w4.heap.size w4 w5) := hb
        clear hb j0 j1 j2 j3
        obtain ⟨j0, j1, j2, j3⟩ := HL.out w5 (HB3.out.trans ((C4.out.trans (C5.out.mono C4.out.size)).mono HB3.out.size))
        go_wp2_with fail
        refine (S3.out w5 C5.out).mono ?_
        rintro e w6 ⟨rfl, hb⟩
        have C6 : Hid (Below w4.heap.size w4 w6) := C5.out.trans (hb.mono C5.out.size)
        clear hb j0 j1 j2 j3
        obtain ⟨j0, j1, j2, j3⟩ := HL.out w6 (HB3.out.trans ((C4.out.trans (C6.out.mono C4.out.size)).mono HB3.out.size))
        go_wp2_with fail
        refine (L1.out w6 C6.out).mono ?_
        rintro e w7 ⟨rfl, hb⟩
        have C7 : Hid (Below w4.heap.size w4 w7) := C6.out.trans (hb.mono C6.out.size)
        clear hb j0 j1 j2 j3
        obtain ⟨j0, j1, j2, j3⟩ := HL.out w7 (HB3.out.trans ((C4.out.trans (C7.out.mono C4.out.size)).mono HB3.out.size))
        generalize lE ps a 1 = y at *
        by_cases hy : y = 0
        · subst hy
          have hmk : bits .and .u64 u 255 = u % 256 := mask64 8 255 256 u rfl rfl (by omega) u0 u1
          go_wp2_with fail
          refine (L2.out w7 C7.out).mono ?_
          rintro e w8 ⟨rfl, hb⟩
          have C8 : Hid (Below w.heap.size w w8) := HB.out.trans ((HB3.out.trans ((C4.out.trans ((C7.out.trans (hb.mono C7.out.size)).mono C4.out.size)).mono HB3.out.size)).mono (by omega))
          clear hb
          go_wp2_with fail
          refine (HSp.out _).mono ?_
          rintro e w9 ⟨rfl, hb⟩
          have C9 : Hid (Below w.heap.size w w9) := C8.out.trans (hb.mono C8.out.size)
          clear hb
          go_wp2
          go_ret
          exact ⟨rfl, C9.out⟩
        · have hyb : (y != 0) = true := by simpa using hy
          have hmk : bits .and .u64 u 255 = u % 256 := mask64 8 255 256 u rfl rfl (by omega) u0 u1
          go_wp2_with fail
          refine (L2.out w7 C7.out).mono ?_
          rintro e w8 ⟨rfl, hb⟩
          have C8 : Hid (Below w.heap.size w w8) := HB.out.trans ((HB3.out.trans ((C4.out.trans ((C7.out.trans (hb.mono C7.out.size)).mono C4.out.size)).mono HB3.out.size)).mono (by omega))
          clear hb
          go_wp2_with fail
          refine (HSp.out _).mono ?_
          rintro e w9 ⟨rfl, hb⟩
          have C9 : Hid (Below w.heap.size w w9) := C8.out.trans (hb.mono C8.out.size)
          clear hb
          go_wp2
          go_ret
          exact ⟨rfl, C9.out⟩
      · have HU : Hid (useE ps a (2 : Nat) 2 = 0) := hu
        have HSt : Hid (Calls Try.prog 17 #[.pointer (some ⟨w0.heap.size + 1, 0, none⟩), .int .u64 a, .int .i64 2, .int .u64 u] w2 fun e w' => e = .returned (.int .i64 0) ∧ But ps w2.heap.size w2 w' ∧ Mo w' (w0.heap.size + 1) w0.heap.size ps (stB ps (btOf w2) a 2 u)) := by
          have t := store_any _ _ ps _ a u 2 w2 (HP2.out.mo HK.out.2.2) a0 (.inr (.inl rfl) : isN 2) h48 u0 u1
          rw [hu] at t
          exact t
        have HAs : Hid (∀ W, Below w2.heap.size w2 W → Calls Try.prog 32 #[.slice vA len vc, .int .u64 a, .int .i64 (2 : Nat), .int .i64 2] W fun e w' => e = .returned (.int .i64 0) ∧ w' = W) := has
        clear hu has
        go_wp2_with fail
        refine HSt.out.mono ?_
        rintro e w3 ⟨rfl, hbut, hmo⟩
        have HBt : Hid (But ps w2.heap.size w2 w3) := hbut
        have HMo : Hid (Mo w3 (w0.heap.size + 1) w0.heap.size ps (stB ps (btOf w2) a 2 u)) := hmo
        have HB3 : Hid (Below w0.heap.size w0 w3) := HB2.out.trans (hbut.below HB2.out.size (fun x hx => by obtain ⟨t, ht, rfl⟩ := List.getElem_of_mem hx; exact (HP2.out.at_ t _ (List.getElem?_eq_getElem ht)).2.2.2))
        have HA3 : Hid (PgArg w3 (.slice vA len vc) len k p ao bl bc Y) := (HH.out.below HB.out).below (HB3.out)
        have HQ3 : Hid (Fr w3 (w1.heap.size + 1) w1.heap.size len k p Y w1.heap.size qs) := fr_but HQ2.out hbut HG.out (by omega) (Nat.le_refl _)
        have HAs3 : Hid (Calls Try.prog 32 #[.slice vA len vc, .int .u64 a, .int .i64 (2 : Nat), .int .i64 2] w3 fun e w' => e = .returned (.int .i64 0) ∧ w' = w3) := by
          have t := asked_use HP2.out HK.out.1 HA3.out hl a 2 2 a0 h48 (.inr (.inl rfl) : isN 2)
          rw [HU.out] at t
          exact t
        have HRs : Hid (Calls Try.prog 18 #[.slice vA len vc, .int .u64 a, .int .i64 2, .int .u64 u] w3 fun e w' => ∃ x, e = .returned (.tuple #[x, .int .i64 0]) ∧ ∃ la lc g o c, x = .slice (some ⟨la, 0, none⟩) len lc ∧ len ≤ lc ∧ Row w' la 0 len k p (Yw k Y a (bytV u) 2) g o c ∧ Below w3.heap.size w3 w') := rstore_good HP2.out HK.out.1 HK.out.2.1 HA3.out hl a u 2 a0 (.inr (.inl rfl) : isN 2) h48 u0 u1 HU.out HAs3.out
        clear hbut hmo j0 j1 j2 j3
        obtain ⟨j0, j1, j2, j3⟩ := HL.out w3 HB3.out
        go_wp2_with fail
        refine HRs.out.mono ?_
        rintro e w4 ⟨x, rfl, la, lc, g, o, c, rfl, hlc, hrow, hb⟩
        have C4 : Hid (Below w3.heap.size w3 w4) := hb
        have HRow : Hid (Row w4 la 0 len k p (Yw k Y a (bytV u) 2) g o c) := hrow
        have YS : Hid (∀ (i : Nat) (hi : i < ps.length) (j : Nat), j < 4096 → stB ps (btOf w2) a 2 u ps[i].g j = Yw k Y a (bytV u) 2 i j) := fun i hi j hj => (HP2.out.yw_st HK.out.1 HK.out.2.2 a u 2 a0 (by omega) u0 HU.out hi hj).symm
        have S1 : Hid (∀ W, Below w4.heap.size w4 W → Calls Try.prog 15 #[.pointer (some ⟨w0.heap.size + 1, 0, none⟩), .slice (some ⟨la, 0, none⟩) len lc] W fun e w' => e = .returned (.bool true) ∧ Below W.heap.size W w') := fun W hb => by
          refine same15 _ _ ps (stB ps (btOf w2) a 2 u) _ W ((HMo.out.mm.below C4.out).below hb) (by omega) ⟨_, lc, by rw [hln], fun _ => ⟨la, 0, g, o, c, rfl, ?_⟩⟩
          rw [hln]
          refine (HRow.out.below hb).congr (fun i hi => ?_) (fun i hi => ?_) (fun i hi j hj => ?_)
          · rw [HP2.out.ordP i (by omega), (HP2.out.at_ i _ (List.getElem?_eq_getElem (by omega))).1]
          · rw [HP2.out.ordP i (by omega), (HP2.out.at_ i _ (List.getElem?_eq_getElem (by omega))).2.1]
          · rw [HP2.out.ordP i (by omega), YS.out i (by omega) j hj]
        have S3 : Hid (∀ W, Below w4.heap.size w4 W → Calls Try.prog 15 #[.pointer (some ⟨w1.heap.size + 1, 0, none⟩), .slice vA len vc] W fun e w' => e = .returned (.bool true) ∧ Below W.heap.size W w') := fun W hb => same15 _ _ qs _ _ W ((((fr_below HQ3.out C4.out).mm HK.out.2.2)).below hb) (by have := HQ3.out.len; omega) (arg_row (fr_below HQ3.out C4.out) HK.out.2.1 HK.out.2.2 ((HA3.out.below C4.out).below hb))
        have L1 : Hid (∀ W, Below w4.heap.size w4 W → Calls Try.prog 11 #[.pointer (some ⟨w0.heap.size + 1, 0, none⟩), .int .u64 a, .int .i64 2] W fun e w' => e = .returned (.tuple #[.int .u64 (if lE ps a 2 = 0 then u % 256 ^ 2 else 0), .int .i64 (lE ps a 2)]) ∧ Below W.heap.size W w') := fun W hb => by
          have t := load_all _ _ ps (stB ps (btOf w2) a 2 u) a ((2 : Nat) : Int) W ((HMo.out.mm.below C4.out).below hb) a0 a1
          rw [lv_both HP2.out HK.out.1 a u 2 a0 (by omega) u0 HU.out _ YS.out] at t
          exact t
        have L2 : Hid (∀ W, Below w4.heap.size w4 W → Calls Try.prog 12 #[.slice (some ⟨la, 0, none⟩) len lc, .int .u64 a, .int .i64 2] W fun e w' => e = .returned (.tuple #[.int .u64 (if lE ps a 2 = 0 then u % 256 ^ 2 else 0), .int .i64 (lE ps a 2)]) ∧ Below W.heap.size W w') := fun W hb => by
          have hYw := Yw_small (k := k) (a := a) HK.out.2.2 (B := bytV u) (fun j => by unfold bytV; omega) 2
          obtain ⟨V, hV⟩ := HP2.out.ofY (Yw k Y a (bytV u) 2)
          have t := rload_all (w := W) (v := .slice (some ⟨la, 0, none⟩) len lc) hV HK.out.1 (fun _ _ => rfl) hYw ⟨⟨_, lc, rfl, hlc, fun _ => ⟨la, 0, rfl, (HRow.out.below hb).src hYw RK.out⟩⟩, hYw⟩ hl a ((2 : Nat) : Int) a0 a1
          rw [lv_both HP2.out HK.out.1 a u 2 a0 (by omega) u0 HU.out (btOf V) (fun i hi j hj => btOf_at ((hV.data i _ (List.getElem?_eq_getElem hi)).2 j hj) (hYw i j))] at t
          exact t
        have HV : Hid (0 ≤ u % 256 ^ 2) := Int.emod_nonneg _ (by decide)
        clear hrow hb j0 j1 j2 j3 HSt HRs HAs3 HMo HRow YS HBt
        obtain ⟨j0, j1, j2, j3⟩ := HL.out w4 (HB3.out.trans (C4.out.mono HB3.out.size))
        go_wp2_with fail
        refine (S1.out w4 (Below.refl _ _)).mono ?_
        rintro e w5 ⟨rfl, hb⟩
        have C5 : Hid (Below w4.heap.size w4 w5) := hb
        clear hb j0 j1 j2 j3
        obtain ⟨j0, j1, j2, j3⟩ := HL.out w5 (HB3.out.trans ((C4.out.trans (C5.out.mono C4.out.size)).mono HB3.out.size))
        go_wp2_with fail
        refine (S3.out w5 C5.out).mono ?_
        rintro e w6 ⟨rfl, hb⟩
        have C6 : Hid (Below w4.heap.size w4 w6) := C5.out.trans (hb.mono C5.out.size)
        clear hb j0 j1 j2 j3
        obtain ⟨j0, j1, j2, j3⟩ := HL.out w6 (HB3.out.trans ((C4.out.trans (C6.out.mono C4.out.size)).mono HB3.out.size))
        go_wp2_with fail
        refine (L1.out w6 C6.out).mono ?_
        rintro e w7 ⟨rfl, hb⟩
        have C7 : Hid (Below w4.heap.size w4 w7) := C6.out.trans (hb.mono C6.out.size)
        clear hb j0 j1 j2 j3
        obtain ⟨j0, j1, j2, j3⟩ := HL.out w7 (HB3.out.trans ((C4.out.trans (C7.out.mono C4.out.size)).mono HB3.out.size))
        generalize lE ps a 2 = y at *
        by_cases hy : y = 0
        · subst hy
          have hmk : bits .and .u64 u 65535 = u % 65536 := mask64 16 65535 65536 u rfl rfl (by omega) u0 u1
          go_wp2_with fail
          refine (L2.out w7 C7.out).mono ?_
          rintro e w8 ⟨rfl, hb⟩
          have C8 : Hid (Below w.heap.size w w8) := HB.out.trans ((HB3.out.trans ((C4.out.trans ((C7.out.trans (hb.mono C7.out.size)).mono C4.out.size)).mono HB3.out.size)).mono (by omega))
          clear hb
          go_wp2_with fail
          refine (HSp.out _).mono ?_
          rintro e w9 ⟨rfl, hb⟩
          have C9 : Hid (Below w.heap.size w w9) := C8.out.trans (hb.mono C8.out.size)
          clear hb
          go_wp2
          go_ret
          exact ⟨rfl, C9.out⟩
        · have hyb : (y != 0) = true := by simpa using hy
          have hmk : bits .and .u64 u 65535 = u % 65536 := mask64 16 65535 65536 u rfl rfl (by omega) u0 u1
          go_wp2_with fail
          refine (L2.out w7 C7.out).mono ?_
          rintro e w8 ⟨rfl, hb⟩
          have C8 : Hid (Below w.heap.size w w8) := HB.out.trans ((HB3.out.trans ((C4.out.trans ((C7.out.trans (hb.mono C7.out.size)).mono C4.out.size)).mono HB3.out.size)).mono (by omega))
          clear hb
          go_wp2_with fail
          refine (HSp.out _).mono ?_
          rintro e w9 ⟨rfl, hb⟩
          have C9 : Hid (Below w.heap.size w w9) := C8.out.trans (hb.mono C8.out.size)
          clear hb
          go_wp2
          go_ret
          exact ⟨rfl, C9.out⟩
      · have HU : Hid (useE ps a (4 : Nat) 2 = 0) := hu
        have HSt : Hid (Calls Try.prog 17 #[.pointer (some ⟨w0.heap.size + 1, 0, none⟩), .int .u64 a, .int .i64 4, .int .u64 u] w2 fun e w' => e = .returned (.int .i64 0) ∧ But ps w2.heap.size w2 w' ∧ Mo w' (w0.heap.size + 1) w0.heap.size ps (stB ps (btOf w2) a 4 u)) := by
          have t := store_any _ _ ps _ a u 4 w2 (HP2.out.mo HK.out.2.2) a0 (.inr (.inr (.inl rfl)) : isN 4) h48 u0 u1
          rw [hu] at t
          exact t
        have HAs : Hid (∀ W, Below w2.heap.size w2 W → Calls Try.prog 32 #[.slice vA len vc, .int .u64 a, .int .i64 (4 : Nat), .int .i64 2] W fun e w' => e = .returned (.int .i64 0) ∧ w' = W) := has
        clear hu has
        go_wp2_with fail
        refine HSt.out.mono ?_
        rintro e w3 ⟨rfl, hbut, hmo⟩
        have HBt : Hid (But ps w2.heap.size w2 w3) := hbut
        have HMo : Hid (Mo w3 (w0.heap.size + 1) w0.heap.size ps (stB ps (btOf w2) a 4 u)) := hmo
        have HB3 : Hid (Below w0.heap.size w0 w3) := HB2.out.trans (hbut.below HB2.out.size (fun x hx => by obtain ⟨t, ht, rfl⟩ := List.getElem_of_mem hx; exact (HP2.out.at_ t _ (List.getElem?_eq_getElem ht)).2.2.2))
        have HA3 : Hid (PgArg w3 (.slice vA len vc) len k p ao bl bc Y) := (HH.out.below HB.out).below (HB3.out)
        have HQ3 : Hid (Fr w3 (w1.heap.size + 1) w1.heap.size len k p Y w1.heap.size qs) := fr_but HQ2.out hbut HG.out (by omega) (Nat.le_refl _)
        have HAs3 : Hid (Calls Try.prog 32 #[.slice vA len vc, .int .u64 a, .int .i64 (4 : Nat), .int .i64 2] w3 fun e w' => e = .returned (.int .i64 0) ∧ w' = w3) := by
          have t := asked_use HP2.out HK.out.1 HA3.out hl a 2 4 a0 h48 (.inr (.inr (.inl rfl)) : isN 4)
          rw [HU.out] at t
          exact t
        have HRs : Hid (Calls Try.prog 18 #[.slice vA len vc, .int .u64 a, .int .i64 4, .int .u64 u] w3 fun e w' => ∃ x, e = .returned (.tuple #[x, .int .i64 0]) ∧ ∃ la lc g o c, x = .slice (some ⟨la, 0, none⟩) len lc ∧ len ≤ lc ∧ Row w' la 0 len k p (Yw k Y a (bytV u) 4) g o c ∧ Below w3.heap.size w3 w') := rstore_good HP2.out HK.out.1 HK.out.2.1 HA3.out hl a u 4 a0 (.inr (.inr (.inl rfl)) : isN 4) h48 u0 u1 HU.out HAs3.out
        clear hbut hmo j0 j1 j2 j3
        obtain ⟨j0, j1, j2, j3⟩ := HL.out w3 HB3.out
        go_wp2_with fail
        refine HRs.out.mono ?_
        rintro e w4 ⟨x, rfl, la, lc, g, o, c, rfl, hlc, hrow, hb⟩
        have C4 : Hid (Below w3.heap.size w3 w4) := hb
        have HRow : Hid (Row w4 la 0 len k p (Yw k Y a (bytV u) 4) g o c) := hrow
        have YS : Hid (∀ (i : Nat) (hi : i < ps.length) (j : Nat), j < 4096 → stB ps (btOf w2) a 4 u ps[i].g j = Yw k Y a (bytV u) 4 i j) := fun i hi j hj => (HP2.out.yw_st HK.out.1 HK.out.2.2 a u 4 a0 (by omega) u0 HU.out hi hj).symm
        have S1 : Hid (∀ W, Below w4.heap.size w4 W → Calls Try.prog 15 #[.pointer (some ⟨w0.heap.size + 1, 0, none⟩), .slice (some ⟨la, 0, none⟩) len lc] W fun e w' => e = .returned (.bool true) ∧ Below W.heap.size W w') := fun W hb => by
          refine same15 _ _ ps (stB ps (btOf w2) a 4 u) _ W ((HMo.out.mm.below C4.out).below hb) (by omega) ⟨_, lc, by rw [hln], fun _ => ⟨la, 0, g, o, c, rfl, ?_⟩⟩
          rw [hln]
          refine (HRow.out.below hb).congr (fun i hi => ?_) (fun i hi => ?_) (fun i hi j hj => ?_)
          · rw [HP2.out.ordP i (by omega), (HP2.out.at_ i _ (List.getElem?_eq_getElem (by omega))).1]
          · rw [HP2.out.ordP i (by omega), (HP2.out.at_ i _ (List.getElem?_eq_getElem (by omega))).2.1]
          · rw [HP2.out.ordP i (by omega), YS.out i (by omega) j hj]
        have S3 : Hid (∀ W, Below w4.heap.size w4 W → Calls Try.prog 15 #[.pointer (some ⟨w1.heap.size + 1, 0, none⟩), .slice vA len vc] W fun e w' => e = .returned (.bool true) ∧ Below W.heap.size W w') := fun W hb => same15 _ _ qs _ _ W ((((fr_below HQ3.out C4.out).mm HK.out.2.2)).below hb) (by have := HQ3.out.len; omega) (arg_row (fr_below HQ3.out C4.out) HK.out.2.1 HK.out.2.2 ((HA3.out.below C4.out).below hb))
        have L1 : Hid (∀ W, Below w4.heap.size w4 W → Calls Try.prog 11 #[.pointer (some ⟨w0.heap.size + 1, 0, none⟩), .int .u64 a, .int .i64 4] W fun e w' => e = .returned (.tuple #[.int .u64 (if lE ps a 4 = 0 then u % 256 ^ 4 else 0), .int .i64 (lE ps a 4)]) ∧ Below W.heap.size W w') := fun W hb => by
          have t := load_all _ _ ps (stB ps (btOf w2) a 4 u) a ((4 : Nat) : Int) W ((HMo.out.mm.below C4.out).below hb) a0 a1
          rw [lv_both HP2.out HK.out.1 a u 4 a0 (by omega) u0 HU.out _ YS.out] at t
          exact t
        have L2 : Hid (∀ W, Below w4.heap.size w4 W → Calls Try.prog 12 #[.slice (some ⟨la, 0, none⟩) len lc, .int .u64 a, .int .i64 4] W fun e w' => e = .returned (.tuple #[.int .u64 (if lE ps a 4 = 0 then u % 256 ^ 4 else 0), .int .i64 (lE ps a 4)]) ∧ Below W.heap.size W w') := fun W hb => by
          have hYw := Yw_small (k := k) (a := a) HK.out.2.2 (B := bytV u) (fun j => by unfold bytV; omega) 4
          obtain ⟨V, hV⟩ := HP2.out.ofY (Yw k Y a (bytV u) 4)
          have t := rload_all (w := W) (v := .slice (some ⟨la, 0, none⟩) len lc) hV HK.out.1 (fun _ _ => rfl) hYw ⟨⟨_, lc, rfl, hlc, fun _ => ⟨la, 0, rfl, (HRow.out.below hb).src hYw RK.out⟩⟩, hYw⟩ hl a ((4 : Nat) : Int) a0 a1
          rw [lv_both HP2.out HK.out.1 a u 4 a0 (by omega) u0 HU.out (btOf V) (fun i hi j hj => btOf_at ((hV.data i _ (List.getElem?_eq_getElem hi)).2 j hj) (hYw i j))] at t
          exact t
        have HV : Hid (0 ≤ u % 256 ^ 4) := Int.emod_nonneg _ (by decide)
        clear hrow hb j0 j1 j2 j3 HSt HRs HAs3 HMo HRow YS HBt
        obtain ⟨j0, j1, j2, j3⟩ := HL.out w4 (HB3.out.trans (C4.out.mono HB3.out.size))
        go_wp2_with fail
        refine (S1.out w4 (Below.refl _ _)).mono ?_
        rintro e w5 ⟨rfl, hb⟩
        have C5 : Hid (Below w4.heap.size w4 w5) := hb
        clear hb j0 j1 j2 j3
        obtain ⟨j0, j1, j2, j3⟩ := HL.out w5 (HB3.out.trans ((C4.out.trans (C5.out.mono C4.out.size)).mono HB3.out.size))
        go_wp2_with fail
        refine (S3.out w5 C5.out).mono ?_
        rintro e w6 ⟨rfl, hb⟩
        have C6 : Hid (Below w4.heap.size w4 w6) := C5.out.trans (hb.mono C5.out.size)
        clear hb j0 j1 j2 j3
        obtain ⟨j0, j1, j2, j3⟩ := HL.out w6 (HB3.out.trans ((C4.out.trans (C6.out.mono C4.out.size)).mono HB3.out.size))
        go_wp2_with fail
        refine (L1.out w6 C6.out).mono ?_
        rintro e w7 ⟨rfl, hb⟩
        have C7 : Hid (Below w4.heap.size w4 w7) := C6.out.trans (hb.mono C6.out.size)
        clear hb j0 j1 j2 j3
        obtain ⟨j0, j1, j2, j3⟩ := HL.out w7 (HB3.out.trans ((C4.out.trans (C7.out.mono C4.out.size)).mono HB3.out.size))
        generalize lE ps a 4 = y at *
        by_cases hy : y = 0
        · subst hy
          have hmk : bits .and .u64 u 4294967295 = u % 4294967296 := mask64 32 4294967295 4294967296 u rfl rfl (by omega) u0 u1
          go_wp2_with fail
          refine (L2.out w7 C7.out).mono ?_
          rintro e w8 ⟨rfl, hb⟩
          have C8 : Hid (Below w.heap.size w w8) := HB.out.trans ((HB3.out.trans ((C4.out.trans ((C7.out.trans (hb.mono C7.out.size)).mono C4.out.size)).mono HB3.out.size)).mono (by omega))
          clear hb
          go_wp2_with fail
          refine (HSp.out _).mono ?_
          rintro e w9 ⟨rfl, hb⟩
          have C9 : Hid (Below w.heap.size w w9) := C8.out.trans (hb.mono C8.out.size)
          clear hb
          go_wp2
          go_ret
          exact ⟨rfl, C9.out⟩
        · have hyb : (y != 0) = true := by simpa using hy
          have hmk : bits .and .u64 u 4294967295 = u % 4294967296 := mask64 32 4294967295 4294967296 u rfl rfl (by omega) u0 u1
          go_wp2_with fail
          refine (L2.out w7 C7.out).mono ?_
          rintro e w8 ⟨rfl, hb⟩
          have C8 : Hid (Below w.heap.size w w8) := HB.out.trans ((HB3.out.trans ((C4.out.trans ((C7.out.trans (hb.mono C7.out.size)).mono C4.out.size)).mono HB3.out.size)).mono (by omega))
          clear hb
          go_wp2_with fail
          refine (HSp.out _).mono ?_
          rintro e w9 ⟨rfl, hb⟩
          have C9 : Hid (Below w.heap.size w w9) := C8.out.trans (hb.mono C8.out.size)
          clear hb
          go_wp2
          go_ret
          exact ⟨rfl, C9.out⟩
      · have HU : Hid (useE ps a (8 : Nat) 2 = 0) := hu
        have HSt : Hid (Calls Try.prog 17 #[.pointer (some ⟨w0.heap.size + 1, 0, none⟩), .int .u64 a, .int .i64 8, .int .u64 u] w2 fun e w' => e = .returned (.int .i64 0) ∧ But ps w2.heap.size w2 w' ∧ Mo w' (w0.heap.size + 1) w0.heap.size ps (stB ps (btOf w2) a 8 u)) := by
          have t := store_any _ _ ps _ a u 8 w2 (HP2.out.mo HK.out.2.2) a0 (.inr (.inr (.inr rfl)) : isN 8) h48 u0 u1
          rw [hu] at t
          exact t
        have HAs : Hid (∀ W, Below w2.heap.size w2 W → Calls Try.prog 32 #[.slice vA len vc, .int .u64 a, .int .i64 (8 : Nat), .int .i64 2] W fun e w' => e = .returned (.int .i64 0) ∧ w' = W) := has
        clear hu has
        go_wp2_with fail
        refine HSt.out.mono ?_
        rintro e w3 ⟨rfl, hbut, hmo⟩
        have HBt : Hid (But ps w2.heap.size w2 w3) := hbut
        have HMo : Hid (Mo w3 (w0.heap.size + 1) w0.heap.size ps (stB ps (btOf w2) a 8 u)) := hmo
        have HB3 : Hid (Below w0.heap.size w0 w3) := HB2.out.trans (hbut.below HB2.out.size (fun x hx => by obtain ⟨t, ht, rfl⟩ := List.getElem_of_mem hx; exact (HP2.out.at_ t _ (List.getElem?_eq_getElem ht)).2.2.2))
        have HA3 : Hid (PgArg w3 (.slice vA len vc) len k p ao bl bc Y) := (HH.out.below HB.out).below (HB3.out)
        have HQ3 : Hid (Fr w3 (w1.heap.size + 1) w1.heap.size len k p Y w1.heap.size qs) := fr_but HQ2.out hbut HG.out (by omega) (Nat.le_refl _)
        have HAs3 : Hid (Calls Try.prog 32 #[.slice vA len vc, .int .u64 a, .int .i64 (8 : Nat), .int .i64 2] w3 fun e w' => e = .returned (.int .i64 0) ∧ w' = w3) := by
          have t := asked_use HP2.out HK.out.1 HA3.out hl a 2 8 a0 h48 (.inr (.inr (.inr rfl)) : isN 8)
          rw [HU.out] at t
          exact t
        have HRs : Hid (Calls Try.prog 18 #[.slice vA len vc, .int .u64 a, .int .i64 8, .int .u64 u] w3 fun e w' => ∃ x, e = .returned (.tuple #[x, .int .i64 0]) ∧ ∃ la lc g o c, x = .slice (some ⟨la, 0, none⟩) len lc ∧ len ≤ lc ∧ Row w' la 0 len k p (Yw k Y a (bytV u) 8) g o c ∧ Below w3.heap.size w3 w') := rstore_good HP2.out HK.out.1 HK.out.2.1 HA3.out hl a u 8 a0 (.inr (.inr (.inr rfl)) : isN 8) h48 u0 u1 HU.out HAs3.out
        clear hbut hmo j0 j1 j2 j3
        obtain ⟨j0, j1, j2, j3⟩ := HL.out w3 HB3.out
        go_wp2_with fail
        refine HRs.out.mono ?_
        rintro e w4 ⟨x, rfl, la, lc, g, o, c, rfl, hlc, hrow, hb⟩
        have C4 : Hid (Below w3.heap.size w3 w4) := hb
        have HRow : Hid (Row w4 la 0 len k p (Yw k Y a (bytV u) 8) g o c) := hrow
        have YS : Hid (∀ (i : Nat) (hi : i < ps.length) (j : Nat), j < 4096 → stB ps (btOf w2) a 8 u ps[i].g j = Yw k Y a (bytV u) 8 i j) := fun i hi j hj => (HP2.out.yw_st HK.out.1 HK.out.2.2 a u 8 a0 (by omega) u0 HU.out hi hj).symm
        have S1 : Hid (∀ W, Below w4.heap.size w4 W → Calls Try.prog 15 #[.pointer (some ⟨w0.heap.size + 1, 0, none⟩), .slice (some ⟨la, 0, none⟩) len lc] W fun e w' => e = .returned (.bool true) ∧ Below W.heap.size W w') := fun W hb => by
          refine same15 _ _ ps (stB ps (btOf w2) a 8 u) _ W ((HMo.out.mm.below C4.out).below hb) (by omega) ⟨_, lc, by rw [hln], fun _ => ⟨la, 0, g, o, c, rfl, ?_⟩⟩
          rw [hln]
          refine (HRow.out.below hb).congr (fun i hi => ?_) (fun i hi => ?_) (fun i hi j hj => ?_)
          · rw [HP2.out.ordP i (by omega), (HP2.out.at_ i _ (List.getElem?_eq_getElem (by omega))).1]
          · rw [HP2.out.ordP i (by omega), (HP2.out.at_ i _ (List.getElem?_eq_getElem (by omega))).2.1]
          · rw [HP2.out.ordP i (by omega), YS.out i (by omega) j hj]
        have S3 : Hid (∀ W, Below w4.heap.size w4 W → Calls Try.prog 15 #[.pointer (some ⟨w1.heap.size + 1, 0, none⟩), .slice vA len vc] W fun e w' => e = .returned (.bool true) ∧ Below W.heap.size W w') := fun W hb => same15 _ _ qs _ _ W ((((fr_below HQ3.out C4.out).mm HK.out.2.2)).below hb) (by have := HQ3.out.len; omega) (arg_row (fr_below HQ3.out C4.out) HK.out.2.1 HK.out.2.2 ((HA3.out.below C4.out).below hb))
        have L1 : Hid (∀ W, Below w4.heap.size w4 W → Calls Try.prog 11 #[.pointer (some ⟨w0.heap.size + 1, 0, none⟩), .int .u64 a, .int .i64 8] W fun e w' => e = .returned (.tuple #[.int .u64 (if lE ps a 8 = 0 then u % 256 ^ 8 else 0), .int .i64 (lE ps a 8)]) ∧ Below W.heap.size W w') := fun W hb => by
          have t := load_all _ _ ps (stB ps (btOf w2) a 8 u) a ((8 : Nat) : Int) W ((HMo.out.mm.below C4.out).below hb) a0 a1
          rw [lv_both HP2.out HK.out.1 a u 8 a0 (by omega) u0 HU.out _ YS.out] at t
          exact t
        have L2 : Hid (∀ W, Below w4.heap.size w4 W → Calls Try.prog 12 #[.slice (some ⟨la, 0, none⟩) len lc, .int .u64 a, .int .i64 8] W fun e w' => e = .returned (.tuple #[.int .u64 (if lE ps a 8 = 0 then u % 256 ^ 8 else 0), .int .i64 (lE ps a 8)]) ∧ Below W.heap.size W w') := fun W hb => by
          have hYw := Yw_small (k := k) (a := a) HK.out.2.2 (B := bytV u) (fun j => by unfold bytV; omega) 8
          obtain ⟨V, hV⟩ := HP2.out.ofY (Yw k Y a (bytV u) 8)
          have t := rload_all (w := W) (v := .slice (some ⟨la, 0, none⟩) len lc) hV HK.out.1 (fun _ _ => rfl) hYw ⟨⟨_, lc, rfl, hlc, fun _ => ⟨la, 0, rfl, (HRow.out.below hb).src hYw RK.out⟩⟩, hYw⟩ hl a ((8 : Nat) : Int) a0 a1
          rw [lv_both HP2.out HK.out.1 a u 8 a0 (by omega) u0 HU.out (btOf V) (fun i hi j hj => btOf_at ((hV.data i _ (List.getElem?_eq_getElem hi)).2 j hj) (hYw i j))] at t
          exact t
        have HV : Hid (0 ≤ u % 256 ^ 8) := Int.emod_nonneg _ (by decide)
        clear hrow hb j0 j1 j2 j3 HSt HRs HAs3 HMo HRow YS HBt
        obtain ⟨j0, j1, j2, j3⟩ := HL.out w4 (HB3.out.trans (C4.out.mono HB3.out.size))
        go_wp2_with fail
        refine (S1.out w4 (Below.refl _ _)).mono ?_
        rintro e w5 ⟨rfl, hb⟩
        have C5 : Hid (Below w4.heap.size w4 w5) := hb
        clear hb j0 j1 j2 j3
        obtain ⟨j0, j1, j2, j3⟩ := HL.out w5 (HB3.out.trans ((C4.out.trans (C5.out.mono C4.out.size)).mono HB3.out.size))
        go_wp2_with fail
        refine (S3.out w5 C5.out).mono ?_
        rintro e w6 ⟨rfl, hb⟩
        have C6 : Hid (Below w4.heap.size w4 w6) := C5.out.trans (hb.mono C5.out.size)
        clear hb j0 j1 j2 j3
        obtain ⟨j0, j1, j2, j3⟩ := HL.out w6 (HB3.out.trans ((C4.out.trans (C6.out.mono C4.out.size)).mono HB3.out.size))
        go_wp2_with fail
        refine (L1.out w6 C6.out).mono ?_
        rintro e w7 ⟨rfl, hb⟩
        have C7 : Hid (Below w4.heap.size w4 w7) := C6.out.trans (hb.mono C6.out.size)
        clear hb j0 j1 j2 j3
        obtain ⟨j0, j1, j2, j3⟩ := HL.out w7 (HB3.out.trans ((C4.out.trans (C7.out.mono C4.out.size)).mono HB3.out.size))
        generalize lE ps a 8 = y at *
        by_cases hy : y = 0
        · subst hy
          have hmk : u % 18446744073709551616 = u := Int.emod_eq_of_lt u0 u1
          go_wp2_with fail
          refine (L2.out w7 C7.out).mono ?_
          rintro e w8 ⟨rfl, hb⟩
          have C8 : Hid (Below w.heap.size w w8) := HB.out.trans ((HB3.out.trans ((C4.out.trans ((C7.out.trans (hb.mono C7.out.size)).mono C4.out.size)).mono HB3.out.size)).mono (by omega))
          clear hb
          go_wp2_with fail
          refine (HSp.out _).mono ?_
          rintro e w9 ⟨rfl, hb⟩
          have C9 : Hid (Below w.heap.size w w9) := C8.out.trans (hb.mono C8.out.size)
          clear hb
          go_wp2
          go_ret
          exact ⟨rfl, C9.out⟩
        · have hyb : (y != 0) = true := by simpa using hy
          have hmk : u % 18446744073709551616 = u := Int.emod_eq_of_lt u0 u1
          go_wp2_with fail
          refine (L2.out w7 C7.out).mono ?_
          rintro e w8 ⟨rfl, hb⟩
          have C8 : Hid (Below w.heap.size w w8) := HB.out.trans ((HB3.out.trans ((C4.out.trans ((C7.out.trans (hb.mono C7.out.size)).mono C4.out.size)).mono HB3.out.size)).mono (by omega))
          clear hb
          go_wp2_with fail
          refine (HSp.out _).mono ?_
          rintro e w9 ⟨rfl, hb⟩
          have C9 : Hid (Below w.heap.size w w9) := C8.out.trans (hb.mono C8.out.size)
          clear hb
          go_wp2
          go_ret
          exact ⟨rfl, C9.out⟩
end Go.Proofs.Ytndbkkldfinggab
