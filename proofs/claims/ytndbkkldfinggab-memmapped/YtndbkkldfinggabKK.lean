/- New pages in a memory: the program's Map, the document's, and the walk of MemMapped. -/
import Derived.Test.YtndbkkldfinggabV4
import Derived.Test.YtndbkkldfinggabXX
namespace Go.Proofs.Ytndbkkldfinggab
open Go.RowKit Go.Shelf
theorem pg_mem {ps : List Pgd} (hn : ∀ x ∈ ps, ∀ y ∈ ps, x.k = y.k → x = y) {x : Pgd} (hx : x ∈ ps) : pg ps x.k = some x := by
  cases hp : pg ps x.k with
  | none =>
    unfold pg at hp
    rw [List.find?_eq_none] at hp
    exact absurd (by simp) (hp x hx)
  | some y =>
    obtain ⟨e, hm⟩ := pg_k hp
    rw [hn y hm x hx e]
theorem keysS_perm {ps qs : List Pgd} (h : ps.Perm qs) : keysS ps = keysS qs := by
  have tr : ∀ a b c : Int, decide (a ≤ b) = true → decide (b ≤ c) = true → decide (a ≤ c) = true := fun a b c h1 h2 => by simp at *; omega
  have tot : ∀ a b : Int, (decide (a ≤ b) || decide (b ≤ a)) = true := fun a b => by simp; omega
  have s1 := List.pairwise_mergeSort (le := fun x y : Int => decide (x ≤ y)) tr tot (ps.map (·.k))
  have s2 := List.pairwise_mergeSort (le := fun x y : Int => decide (x ≤ y)) tr tot (qs.map (·.k))
  unfold keysS
  refine List.Perm.eq_of_pairwise (le := fun x y => decide (x ≤ y) = true) ?_ s1 s2 ((List.mergeSort_perm _ _).trans ((h.map _).trans (List.mergeSort_perm _ _).symm))
  intro a b _ _ h1 h2
  simp at h1 h2
  omega
theorem uniq_of {qs : List Pgd} (hu : qs.Pairwise (fun x y => x.k < y.k)) : ∀ x ∈ qs, ∀ y ∈ qs, x.k = y.k → x = y := by
  intro x hx y hy e
  obtain ⟨s, hs, rfl⟩ := List.getElem_of_mem hx
  obtain ⟨t, ht, rfl⟩ := List.getElem_of_mem hy
  have P := List.pairwise_iff_getElem.1 hu
  rcases Nat.lt_trichotomy s t with hl | rfl | hl
  · have := P s t hs ht hl; omega
  · rfl
  · have := P t s ht hs hl; omega
/-- The pages in order are those of a row that rises. -/
theorem ordP_perm {ps qs : List Pgd} (hp : ps.Perm qs) (hu : qs.Pairwise (fun x y => x.k < y.k)) (i : Nat) (hi : i < qs.length) : ordP ps i = qs[i] := by
  unfold ordP
  rw [keysS_perm hp, keysS_sorted hu]
  have e : (qs.map (·.k)).getD i 0 = qs[i].k := by simp [List.getD, hi]
  rw [e, pg_mem (fun x hx y hy h => uniq_of hu x (hp.mem_iff.1 hx) y (hp.mem_iff.1 hy) h) (hp.mem_iff.2 (List.getElem_mem hi))]
  rfl
/-- New pages from a place on, by the blocks of their bytes. -/
def nws (q perm : Int) (gs : List Nat) : List Pgd := gs.mapIdx fun i g => ⟨q + 4096 * (i : Int), perm, g, 4096⟩
theorem nws_len (q perm : Int) (gs : List Nat) : (nws q perm gs).length = gs.length := by simp [nws]
theorem nws_snoc (q perm : Int) (gs : List Nat) (g : Nat) : nws q perm (gs ++ [g]) = nws q perm gs ++ [⟨q + 4096 * (gs.length : Int), perm, g, 4096⟩] := by simp [nws, List.mapIdx_append]
theorem nws_get (q perm : Int) (gs : List Nat) (i : Nat) (h : i < (nws q perm gs).length) : (nws q perm gs)[i] = ⟨q + 4096 * (i : Int), perm, gs[i]'(by rw [nws_len] at h; exact h), 4096⟩ := by simp [nws]
theorem nws_mem {q perm : Int} {gs : List Nat} {x : Pgd} (h : x ∈ nws q perm gs) : ∃ i, i < gs.length ∧ x.k = q + 4096 * (i : Int) ∧ x.p = perm ∧ x.g ∈ gs ∧ x.c = 4096 := by
  obtain ⟨i, hi, rfl⟩ := List.getElem_of_mem h
  rw [nws_get]
  rw [nws_len] at hi
  exact ⟨i, hi, rfl, rfl, List.getElem_mem _, rfl⟩
/-- How many pages hold so many bytes. -/
def cntN (s : Int) : Nat := ((s + 4095) / 4096).toNat
theorem cntN_iff {s : Int} (i : Nat) : i < cntN s ↔ 4096 * (i : Int) < s := by unfold cntN; omega
/-- Can pages be made for s bytes from q on? -/
def freeB (ps : List Pgd) (q s : Int) : Bool := decide (s ≤ (4096 - (ps.length : Int)) * 4096) && (List.range (cntN s)).all fun i => (pg ps (q + 4096 * (i : Int))).isNone
theorem freeB_great {ps : List Pgd} {q s : Int} (h : ¬ s ≤ (4096 - (ps.length : Int)) * 4096) : freeB ps q s = false := by unfold freeB; rw [decide_eq_false h]; rfl
theorem freeB_met {ps : List Pgd} {q s : Int} {i : Nat} {x : Pgd} (hi : 4096 * (i : Int) < s) (h : pg ps (q + 4096 * (i : Int)) = some x) : freeB ps q s = false := by
  unfold freeB
  rw [Bool.and_eq_false_iff]
  refine .inr ?_
  rw [List.all_eq_false]
  exact ⟨i, List.mem_range.2 ((cntN_iff i).2 hi), by rw [h]; simp⟩
theorem freeB_true {ps : List Pgd} {q s : Int} (h : s ≤ (4096 - (ps.length : Int)) * 4096) (hn : ∀ i : Nat, 4096 * (i : Int) < s → pg ps (q + 4096 * (i : Int)) = none) : freeB ps q s = true := by
  unfold freeB
  rw [decide_eq_true h, Bool.true_and, List.all_eq_true]
  intro i hi
  rw [hn i ((cntN_iff i).1 (List.mem_range.1 hi))]
  rfl
theorem freeB_of {ps : List Pgd} {q s : Int} (h : freeB ps q s = true) : s ≤ (4096 - (ps.length : Int)) * 4096 ∧ ∀ i : Nat, 4096 * (i : Int) < s → pg ps (q + 4096 * (i : Int)) = none := by
  unfold freeB at h
  rw [Bool.and_eq_true, decide_eq_true_eq, List.all_eq_true] at h
  refine ⟨h.1, fun i hi => ?_⟩
  have := h.2 i (List.mem_range.2 ((cntN_iff i).2 hi))
  simpa using this
set_option maxRecDepth 20000 in
set_option maxHeartbeats 1000000 in
theorem free_any (b r : Nat) (ps : List Pgd) (bt : Nat → Nat → Int) (q s : Int) (w : World) (h : Mm w b r ps bt) (q0 : 0 ≤ q) (s0 : 1 ≤ s) (h48 : q + s ≤ 281474976710656) (hlen : ps.length ≤ 4096) : Calls Try.prog 45 #[.pointer (some ⟨b, 0, none⟩), .int .u64 q, .int .u64 s] w fun e w' => e = .returned (.bool (freeB ps q s)) ∧ Below w.heap.size w w' := by
  have HH : Hid (Mm w b r ps bt) := h
  have HG : Hid (¬ s ≤ (4096 - (ps.length : Int)) * 4096 → freeB ps q s = false) := freeB_great
  have HM : Hid (∀ (i : Nat) x, 4096 * (i : Int) < s → pg ps (q + 4096 * (i : Int)) = some x → freeB ps q s = false) := fun i x h1 h2 => freeB_met h1 h2
  have HT : Hid (s ≤ (4096 - (ps.length : Int)) * 4096 → (∀ i : Nat, 4096 * (i : Int) < s → pg ps (q + 4096 * (i : Int)) = none) → freeB ps q s = true) := freeB_true
  have HC : Hid (∀ W, Below w.heap.size w W → Calls Try.prog 39 #[.pointer (some ⟨b, 0, none⟩)] W fun e w' => e = .returned (.int .i64 ps.length) ∧ w' = W) := fun W hb => count_any b r ps W (h.below hb).cell (h.below hb).map
  generalize freeB ps q s = res at *
  obtain ⟨L, hL⟩ : ∃ L : Nat, ps.length = L := ⟨_, rfl⟩
  rw [hL] at HC HG HT hlen
  clear h hL
  have l0 : 0 ≤ 4096 - (L : Int) := by omega
  have l1 : (4096 - (L : Int)) ≤ 4096 := by omega
  by_cases hs : s ≤ (4096 - (L : Int)) * 4096
  · go_enter Try.func45, Try.ntmps45
    go_wp2_with fail
    refine (HC.out _ (Below.refl _ _)).mono ?_
    rintro e w1 ⟨rfl, e1⟩
    subst e1
    go_wp2_with fail
    go_loopw [7] (fun x wr => ∃ i : Nat, x = .int .u64 (q + 4096 * (i : Int)) ∧ 4096 * (i : Int) < s + 4096 ∧ (∀ j : Nat, j < i → pg ps (q + 4096 * (j : Int)) = none) ∧ Below w1.heap.size w1 wr) (fun x _ => (q + s + 4096 - intOf x).toNat)
    case atStart => exact ⟨0, by simp, by omega, fun j hj => by omega, Below.refl _ _⟩
    case round =>
      obtain ⟨i, rfl, hi, hno, hbl⟩ := hrel
      have HB : Hid (Below w1.heap.size w1 wr) := hbl
      have HN : Hid (∀ j : Nat, j < i → pg ps (q + 4096 * (j : Int)) = none) := hno
      clear hbl hno
      obtain ⟨z, hz⟩ : ∃ z : Int, 4096 * (i : Int) = z := ⟨_, rfl⟩
      have HZ : Hid (4096 * (i : Int) = z) := hz
      have z0 : 0 ≤ z := by omega
      rw [hz] at hi ⊢
      by_cases hlt : z < s
      · have hlt2 : q + z < q + s := by omega
        rcases hp : pg ps (q + z) with _ | x1
        · have HP : Hid (pg ps (q + z) = none) := hp
          clear hz hp
          go_wp2_with fail
          refine (page_none (HH.out.below HB.out) HP.out).mono ?_
          rintro e w2 ⟨rfl, hb2⟩
          have HB2 : Hid (Below w1.heap.size w1 w2) := HB.out.trans (hb2.mono HB.out.size)
          clear hb2
          go_wp2
          go_roundw
          case rel => exact ⟨i + 1, by congr 1; have := HZ.out; omega, by have := HZ.out; omega, fun j hj => by rcases (by omega : j < i ∨ j = i) with h | rfl; exact HN.out j h; rw [HZ.out]; exact HP.out, HB2.out.alloc HB2.out.size _⟩
          case measure => simp [intOf]; omega
        · have HP : Hid (pg ps (q + z) = some x1) := hp
          clear hz hp
          go_wp2_with fail
          refine (page_some (HH.out.below HB.out) HP.out).mono ?_
          rintro e w2 ⟨rfl, hb2⟩
          have HB2 : Hid (Below w1.heap.size w1 w2) := HB.out.trans (hb2.mono HB.out.size)
          clear hb2
          go_wp2
          go_ret
          exact ⟨ret_bool (HM.out i x1 (by rw [HZ.out]; exact hlt) (by rw [HZ.out]; exact HP.out)).symm, HB2.out.alloc HB2.out.size _⟩
      · have hlt2 : ¬ q + z < q + s := by omega
        go_wp2
        go_ret
        exact ⟨ret_bool (HT.out hs (fun j hj => HN.out j (by omega))).symm, HB.out⟩
  · have hs2 : (4096 - (L : Int)) * 4096 < s := by omega
    go_enter Try.func45, Try.ntmps45
    go_wp2_with fail
    refine (HC.out _ (Below.refl _ _)).mono ?_
    rintro e w1 ⟨rfl, e1⟩
    subst e1
    go_wp2
    go_ret
    exact ⟨ret_bool (HG.out hs).symm, Below.refl _ _⟩
/-- Are a place and a count those of new pages? -/
def argB (q s : Int) : Prop := q % 4096 = 0 ∧ ¬ s = 0 ∧ q < 281474976710656 ∧ s ≤ 281474976710656 - q
theorem beyond_yes (q s : Int) (q0 : 0 ≤ q) (q1 : q < 18446744073709551616) (s0 : 0 ≤ s) (s1 : s < 18446744073709551616) (h : ¬ (q < 281474976710656 ∧ s ≤ 281474976710656 - q)) (W : World) : Calls Try.prog 44 #[.int .u64 q, .int .u64 s] W fun e w' => e = .returned (.bool true) ∧ w' = W := by
  have t := beyond12 q s q0 q1 s0 s1 W
  rw [decide_eq_true (by omega)] at t
  exact t
theorem beyond_no (q s : Int) (q0 : 0 ≤ q) (q1 : q < 18446744073709551616) (s0 : 0 ≤ s) (s1 : s < 18446744073709551616) (h : q < 281474976710656 ∧ s ≤ 281474976710656 - q) (W : World) : Calls Try.prog 44 #[.int .u64 q, .int .u64 s] W fun e w' => e = .returned (.bool false) ∧ w' = W := by
  have t := beyond12 q s q0 q1 s0 s1 W
  rw [decide_eq_false (by omega)] at t
  exact t
set_option maxHeartbeats 1000000 in
theorem map_arg (v : Value) (q perm s : Int) (q0 : 0 ≤ q) (q1 : q < 18446744073709551616) (s0 : 0 ≤ s) (s1 : s < 18446744073709551616) (h : ¬ argB q s) (w : World) : Calls Try.prog 25 #[v, .int .u64 q, .int .i64 perm, .int .u64 s] w fun e w' => e = .returned (.int .i64 1) ∧ w' = w := by
  unfold argB at h
  by_cases h1 : q % 4096 = 0
  · have h1b : (q % 4096 != 0) = false := by simpa using h1
    by_cases h2 : s = 0
    · have h2b : (s == 0) = true := by simpa using h2
      have h2c : decide (s = 0) = true := by simpa using h2
      clear h
      go_enter Try.func25, Try.ntmps25
      go_wp2
      go_ret
      exact ⟨rfl, rfl⟩
    · have h2b : (s == 0) = false := by simpa using h2
      have h2c : decide (s = 0) = false := by simpa using h2
      have HX : Hid (∀ W, Calls Try.prog 44 #[.int .u64 q, .int .u64 s] W fun e w' => e = .returned (.bool true) ∧ w' = W) := beyond_yes q s q0 q1 s0 s1 (by intro hh; exact h ⟨h1, h2, hh.1, hh.2⟩)
      clear h
      go_enter Try.func25, Try.ntmps25
      go_wp2_with fail
      refine (HX.out _).mono ?_
      rintro e w1 ⟨rfl, e1⟩
      subst e1
      go_wp2
      go_ret
      exact ⟨rfl, rfl⟩
  · have h1b : (q % 4096 != 0) = true := by simpa using h1
    clear h
    go_enter Try.func25, Try.ntmps25
    go_wp2
    go_ret
    exact ⟨rfl, rfl⟩
set_option maxHeartbeats 1000000 in
theorem map_perm (v : Value) (q perm s : Int) (q0 : 0 ≤ q) (s0 : 0 ≤ s) (h : argB q s) (hp : permB perm = false) (w : World) : Calls Try.prog 25 #[v, .int .u64 q, .int .i64 perm, .int .u64 s] w fun e w' => e = .returned (.int .i64 21) ∧ w' = w := by
  obtain ⟨h1, h2, h3, h4⟩ := h
  have h1b : (q % 4096 != 0) = false := by simpa using h1
  have h2b : (s == 0) = false := by simpa using h2
  have h2c : decide (s = 0) = false := by simpa using h2
  have HX : Hid (∀ W, Calls Try.prog 44 #[.int .u64 q, .int .u64 s] W fun e w' => e = .returned (.bool false) ∧ w' = W) := beyond_no q s q0 (by omega) s0 (by omega) ⟨h3, h4⟩
  have HP : Hid (∀ W, Calls Try.prog 28 #[.int .i64 perm] W fun e w' => e = .returned (.bool false) ∧ w' = W) := fun W => hp ▸ perm28 perm W
  clear hp
  go_enter Try.func25, Try.ntmps25
  go_wp2_with fail
  refine (HX.out _).mono ?_
  rintro e w1 ⟨rfl, e1⟩
  subst e1
  go_wp2_with fail
  refine (HP.out _).mono ?_
  rintro e w1 ⟨rfl, e1⟩
  subst e1
  go_wp2
  go_ret
  exact ⟨rfl, rfl⟩
set_option maxHeartbeats 1000000 in
theorem map_page (b r : Nat) (ps : List Pgd) (bt : Nat → Nat → Int) (q perm s : Int) (w : World) (hM : Mm w b r ps bt) (hlen : ps.length ≤ 4096) (q0 : 0 ≤ q) (s0 : 0 ≤ s) (h : argB q s) (hp : permB perm = true) (hf : freeB ps q s = false) : Calls Try.prog 25 #[.pointer (some ⟨b, 0, none⟩), .int .u64 q, .int .i64 perm, .int .u64 s] w fun e w' => e = .returned (.int .i64 20) ∧ Below w.heap.size w w' := by
  obtain ⟨h1, h2, h3, h4⟩ := h
  have h1b : (q % 4096 != 0) = false := by simpa using h1
  have h2b : (s == 0) = false := by simpa using h2
  have h2c : decide (s = 0) = false := by simpa using h2
  have HX : Hid (∀ W, Calls Try.prog 44 #[.int .u64 q, .int .u64 s] W fun e w' => e = .returned (.bool false) ∧ w' = W) := beyond_no q s q0 (by omega) s0 (by omega) ⟨h3, h4⟩
  have HP : Hid (∀ W, Calls Try.prog 28 #[.int .i64 perm] W fun e w' => e = .returned (.bool true) ∧ w' = W) := fun W => hp ▸ perm28 perm W
  have HF : Hid (Calls Try.prog 45 #[.pointer (some ⟨b, 0, none⟩), .int .u64 q, .int .u64 s] w fun e w' => e = .returned (.bool false) ∧ Below w.heap.size w w') := hf ▸ free_any b r ps bt q s w hM q0 (by omega) (by omega) hlen
  clear hp hf hM
  go_enter Try.func25, Try.ntmps25
  go_wp2_with fail
  refine (HX.out _).mono ?_
  rintro e w1 ⟨rfl, e1⟩
  have e1' := e1.symm
  subst e1'
  go_wp2_with fail
  refine (HP.out _).mono ?_
  rintro e w1 ⟨rfl, e1⟩
  have e1' := e1.symm
  subst e1'
  go_wp2_with fail
  refine HF.out.mono ?_
  rintro e w1 ⟨rfl, hb⟩
  go_wp2
  go_ret
  exact ⟨rfl, hb⟩
/-- What lies behind a Map that has made pages: the map has them, each has bytes of its own, all 0. -/
structure Mpd (w W : World) (b r : Nat) (ps : List Pgd) (q perm : Int) (gs : List Nat) : Prop where
  cell : W.cell? ⟨b, 0, none⟩ = some (.map (some r))
  map : W.heap[r]? = some (.map (entsFrom 0 (ps ++ nws q perm gs)).toArray (ps ++ nws q perm gs).length)
  old : ∀ k, k < w.heap.size → k ≠ r → W.heap[k]? = w.heap[k]?
  new : ∀ g ∈ gs, w.heap.size ≤ g ∧ W.heap[g]? = some (.cells zB 5)
  below : Below r w W
theorem Mpd.step {w W : World} {b r : Nat} {ps : List Pgd} {q perm : Int} {gs : List Nat} (h : Mpd w W b r ps q perm gs) (hbr : b ≠ r) (hr : r < w.heap.size) :
    Mpd w ((W.alloc (.cells zB 5)).drew.putObj r (.map ((entsFrom 0 (ps ++ nws q perm gs)).toArray.push { key := .int .u64 (q + 4096 * (gs.length : Int)), val := .agg #[.int .u64 (q + 4096 * (gs.length : Int)), .int .i64 perm, .slice (some ⟨W.heap.size, 0, none⟩) 4096 4096], born := (ps ++ nws q perm gs).length }) ((ps ++ nws q perm gs).length + 1))) b r ps q perm (gs ++ [W.heap.size]) := by
  have hs := h.below.size
  have hne : ∀ (y : Nat) (x : Obj), y ≠ r → ((W.alloc (.cells zB 5)).drew.putObj r x).heap[y]? = (W.alloc (.cells zB 5)).heap[y]? := fun y x hy => World.putObj_heap_other hy
  refine ⟨?_, ?_, fun k hk hkr => ?_, fun g hg => ?_, below_putObj ((h.below.alloc (by omega) _).drew) (Nat.le_refl _) _⟩
  · rw [put_cell hbr]
    exact (((Below.refl _ W).alloc (Nat.le_refl _) _).cell (p := ⟨b, 0, none⟩) (lt_of_cell h.cell)).trans h.cell
  · rw [World.putObj_heap_same (by simp; omega), nws_snoc, ← List.append_assoc, entsFrom_snoc]
    simp [pval]
    omega
  · rw [hne k _ hkr, Below.heap_alloc W _ k (by omega)]
    exact h.old k hk hkr
  · rcases List.mem_append.1 hg with hg | hg
    · obtain ⟨h1, h2⟩ := h.new g hg
      exact ⟨h1, by rw [hne g _ (by omega)]; exact heap_on h2 _⟩
    · obtain rfl := List.mem_singleton.1 hg
      exact ⟨hs, by rw [hne _ _ (by omega)]; exact heap_at W _⟩
theorem pg_app_none {ps : List Pgd} {q perm : Int} {gs : List Nat} (h : pg ps (q + 4096 * (gs.length : Int)) = none) : pg (ps ++ nws q perm gs) (q + 4096 * (gs.length : Int)) = none := by
  unfold pg at h ⊢
  rw [List.find?_eq_none] at h ⊢
  intro x hx
  rcases List.mem_append.1 hx with hx | hx
  · exact h x hx
  · obtain ⟨i, hi, e, _⟩ := nws_mem hx
    simp only [beq_iff_eq]
    omega
set_option maxRecDepth 20000 in
set_option maxHeartbeats 2000000 in
theorem map_ok (b r : Nat) (ps : List Pgd) (bt : Nat → Nat → Int) (q perm s : Int) (w : World) (hM : Mm w b r ps bt) (hbr : r < b) (hlen : ps.length ≤ 4096) (q0 : 0 ≤ q) (s0 : 0 ≤ s) (h : argB q s) (hp : permB perm = true) (hf : freeB ps q s = true) : Calls Try.prog 25 #[.pointer (some ⟨b, 0, none⟩), .int .u64 q, .int .i64 perm, .int .u64 s] w fun e w' => e = .returned (.int .i64 0) ∧ ∃ gs, gs.length = cntN s ∧ Mpd w w' b r ps q perm gs := by
  obtain ⟨h1, h2, h3, h4⟩ := h
  have h1b : (q % 4096 != 0) = false := by simpa using h1
  have h2b : (s == 0) = false := by simpa using h2
  have h2c : decide (s = 0) = false := by simpa using h2
  have HX : Hid (∀ W, Calls Try.prog 44 #[.int .u64 q, .int .u64 s] W fun e w' => e = .returned (.bool false) ∧ w' = W) := beyond_no q s q0 (by omega) s0 (by omega) ⟨h3, h4⟩
  have HP : Hid (∀ W, Calls Try.prog 28 #[.int .i64 perm] W fun e w' => e = .returned (.bool true) ∧ w' = W) := fun W => hp ▸ perm28 perm W
  have HF : Hid (Calls Try.prog 45 #[.pointer (some ⟨b, 0, none⟩), .int .u64 q, .int .u64 s] w fun e w' => e = .returned (.bool true) ∧ Below w.heap.size w w') := hf ▸ free_any b r ps bt q s w hM q0 (by omega) (by omega) hlen
  have HN : Hid (∀ i : Nat, 4096 * (i : Int) < s → pg ps (q + 4096 * (i : Int)) = none) := (freeB_of hf).2
  have HC : Hid (w.cell? ⟨b, 0, none⟩ = some (.map (some r))) := hM.cell
  have HR : Hid (w.heap[r]? = some (.map (entsFrom 0 ps).toArray ps.length)) := hM.map
  have lb := lt_of_cell hM.cell
  have lr := lt_of_some hM.map
  have hbr' : b ≠ r := by omega
  clear hp hf hM
  go_enter Try.func25, Try.ntmps25
  go_wp2_with fail
  refine (HX.out _).mono ?_
  rintro e w1 ⟨rfl, e1⟩
  have e1' := e1.symm
  subst e1'
  go_wp2_with fail
  refine (HP.out _).mono ?_
  rintro e w1 ⟨rfl, e1⟩
  have e1' := e1.symm
  subst e1'
  go_wp2_with fail
  refine HF.out.mono ?_
  rintro e w2 ⟨rfl, hb2⟩
  have HB : Hid (Below w.heap.size w w2) := hb2
  have c1 := (hb2.cell (p := ⟨b, 0, none⟩) lb).trans HC.out
  have s2 := hb2.size
  have hme := eql_nil r
  have hmk := make4096
  have HM0 : Hid (Mpd w w2 b r ps q perm []) := (⟨c1, by simpa [nws] using (hb2.block r lr).trans HR.out, fun k hk _ => hb2.block k hk, fun g hg => by simp at hg, hb2.mono (by omega)⟩ : Mpd w w2 b r ps q perm [])
  clear hb2
  go_wp2_with fail
  go_loopw [9] (fun x wr => ∃ gs : List Nat, x = .int .u64 (q + 4096 * (gs.length : Int)) ∧ 4096 * (gs.length : Int) < s + 4096 ∧ Mpd w wr b r ps q perm gs) (fun x _ => (q + s + 4096 - intOf x).toNat)
  case atStart => exact ⟨[], by simp, by simp; omega, HM0.out⟩
  case round =>
    obtain ⟨gs, rfl, hi, hm⟩ := hrel
    have HM : Hid (Mpd w wr b r ps q perm gs) := hm
    obtain ⟨z, hz⟩ : ∃ z : Int, 4096 * (gs.length : Int) = z := ⟨_, rfl⟩
    have z0 : 0 ≤ z := by omega
    have HZ : Hid (4096 * (gs.length : Int) = z) := hz
    by_cases hlt : z < s
    · have hcb := hm.cell
      have lbw := lt_of_cell hcb
      have hpn := pg_app_none (perm := perm) (HN.out gs.length (by omega))
      have hup : (Instr.mapUpdate 65 (.map (some r)) (.int .u64 (q + 4096 * (gs.length : Int))) (.agg #[.int .u64 (q + 4096 * (gs.length : Int)), .int .i64 perm, .slice (some ⟨wr.heap.size, 0, none⟩) 4096 4096])).run Try.prog (wr.alloc (.cells zB 5)).drew = .ok () ((wr.alloc (.cells zB 5)).drew.putObj r (.map ((entsFrom 0 (ps ++ nws q perm gs)).toArray.push { key := .int .u64 (q + 4096 * (gs.length : Int)), val := .agg #[.int .u64 (q + 4096 * (gs.length : Int)), .int .i64 perm, .slice (some ⟨wr.heap.size, 0, none⟩) 4096 4096], born := (ps ++ nws q perm gs).length }) ((ps ++ nws q perm gs).length + 1))) := upd42 r _ _ _ _ _ (heap_on hm.map _) (by rw [List.toList_toArray]; exact find_none _ _ hpn 0 0)
      have HS : Hid (Mpd w _ b r ps q perm (gs ++ [wr.heap.size])) := hm.step hbr' lr
      have hpc := HS.out.cell
      have hiZ : z < s + 4096 := by omega
      rw [hz] at hup hpc HS ⊢
      generalize (entsFrom 0 (ps ++ nws q perm gs)).toArray.push { key := .int .u64 (q + z), val := .agg #[.int .u64 (q + z), .int .i64 perm, .slice (some ⟨wr.heap.size, 0, none⟩) 4096 4096], born := (ps ++ nws q perm gs).length } = es at *
      generalize (ps ++ nws q perm gs).length + 1 = ck at *
      clear hm hpn hz hi
      have hlt2 : q + z < q + s := by omega
      go_wp2_with fail
      go_region_held3 (fun w' => w'.cell? ⟨b, 0, none⟩ = some (.map (some r))) (first | exact hpc | go_keep) (fail)
      go_wp2
      go_roundw
      case rel => exact ⟨gs ++ [wr.heap.size], by congr 1; have := HZ.out; simp; omega, by have := HZ.out; simp; omega, HS.out⟩
      case measure => simp [intOf]; omega
    · have hlt2 : ¬ q + z < q + s := by omega
      rw [hz]
      clear hm hz
      go_wp2
      go_ret
      exact ⟨rfl, gs, by have := HZ.out; unfold cntN; omega, HM.out⟩
theorem zB_at {j : Nat} (h : j < 4096) : zB[j]? = some (.int .u8 0) := by
  have t : zB.toList = List.replicate 4096 (.int .u8 0) := toList_madeCells_one _ _
  rw [← Array.getElem?_toList, t, List.getElem?_replicate, if_pos h]
/-- A page in a row: its Base, its Perm, where its bytes lie, how many there could be, which they are. -/
structure Pe where
  k : Int
  p : Int
  g : Nat
  o : Nat
  c : Nat
  Y : Nat → Int
def pe3 (y : Pe) : List Value := [.int .u64 y.k, .int .i64 y.p, .slice (some ⟨y.g, y.o, none⟩) 4096 y.c]
def rowE (qs : List Pe) : List Value := qs.flatMap pe3
theorem rowE_snoc (qs : List Pe) (y : Pe) : rowE (qs ++ [y]) = rowE qs ++ pe3 y := by simp [rowE, List.flatMap_append]
theorem rowE_len : ∀ (qs : List Pe), (rowE qs).length = qs.length * 3
  | [] => rfl
  | y :: r => by
    have t := rowE_len r
    have e : rowE (y :: r) = pe3 y ++ rowE r := rfl
    rw [e, List.length_append, t]
    simp [pe3]
    omega
theorem rowE_one (qs : List Pe) : ∀ u ∈ rowE qs, u.oneCell' = true := by
  intro u hu
  obtain ⟨x, _, hx⟩ := List.mem_flatMap.1 hu
  simp [pe3] at hx
  rcases hx with rfl | rfl | rfl <;> rfl
theorem rowE_get : ∀ (qs : List Pe) (i : Nat) (h : i < qs.length), (rowE qs)[i * 3]? = some (.int .u64 qs[i].k) ∧ (rowE qs)[i * 3 + 1]? = some (.int .i64 qs[i].p) ∧ (rowE qs)[i * 3 + 2]? = some (.slice (some ⟨qs[i].g, qs[i].o, none⟩) 4096 qs[i].c)
  | [], i, h => by cases h
  | y :: r, 0, _ => by simp [rowE, pe3]
  | y :: r, i + 1, h => by
    have t := rowE_get r i (by simpa using h)
    have e : rowE (y :: r) = .int .u64 y.k :: .int .i64 y.p :: .slice (some ⟨y.g, y.o, none⟩) 4096 y.c :: rowE r := rfl
    rw [e, show (i + 1) * 3 = i * 3 + 3 by omega]
    simpa using t
/-- Rows of bytes stay. -/
def Keep5 (W W' : World) : Prop := ∀ (k : Nat) (cur : Array Value), W.heap[k]? = some (Obj.cells cur 5 (0, 0)) → W'.heap[k]? = some (Obj.cells cur 5 (0, 0))
theorem Keep5.refl (W : World) : Keep5 W W := fun _ _ h => h
theorem Keep5.trans {A B C : World} (h : Keep5 A B) (k : Keep5 B C) : Keep5 A C := fun i c e => k i c (h i c e)
theorem Keep5.alloc (W : World) (o : Obj) : Keep5 W (W.alloc o) := fun _ _ h => heap_on h o
theorem Keep5.below {W W' : World} (h : Below W.heap.size W W') : Keep5 W W' := fun k _ e => (h.block k (lt_of_some e)).trans e
/-- An append to a row of pages leaves the bytes. -/
theorem Keep5.app {W W' : World} {B n : Nat} {v : Value} {xs : List Value} (ho : W.ownsRow B 62 3 v n xs) (hg : W.grownBy W' v.ownBlock) : Keep5 W W' := by
  intro k cur e
  refine (hg.block k (lt_of_some e) (fun hk => ?_)).trans e
  rcases ho.2 with ⟨rfl, _⟩ | ⟨g, cap, cu, rfl, _, hh, _⟩
  · cases hk
  · cases hk
    rw [hh] at e
    cases e
/-- The bytes of a page in a row are there: they came in, or they are new, and all 0. -/
def okE (B : Nat) (W : World) (y : Pe) : Prop := (y.g < B ∧ ∀ j, j < 4096 → W.cell? ⟨y.g, y.o + j, none⟩ = some (.int .u8 (y.Y j))) ∨ (y.o = 0 ∧ (∀ j, y.Y j = 0) ∧ W.heap[y.g]? = some (.cells zB 5))
theorem okE.kept {B : Nat} {W W' : World} {y : Pe} (h : okE B W y) (hb : Below B W W') (hk : Keep5 W W') : okE B W' y := by
  rcases h with ⟨h1, h2⟩ | ⟨h1, h2, h3⟩
  · exact .inl ⟨h1, fun j hj => (hb.cell (p := ⟨y.g, y.o + j, none⟩) h1).trans (h2 j hj)⟩
  · exact .inr ⟨h1, h2, hk _ _ h3⟩
theorem okE.data {B : Nat} {W : World} {y : Pe} (h : okE B W y) (j : Nat) (hj : j < 4096) : W.cell? ⟨y.g, y.o + j, none⟩ = some (.int .u8 (y.Y j)) := by
  rcases h with ⟨h1, h2⟩ | ⟨h1, h2, h3⟩
  · exact h2 j hj
  · rw [h1, h2, Nat.zero_add]
    simp only [World.cell?, h3]
    simpa using zB_at hj
/-- New pages in a row, by the blocks of their bytes. -/
def nwE (q perm : Int) (gs : List Nat) : List Pe := gs.mapIdx fun i g => ⟨q + 4096 * (i : Int), perm, g, 0, 4096, fun _ => 0⟩
theorem nwE_len (q perm : Int) (gs : List Nat) : (nwE q perm gs).length = gs.length := by simp [nwE]
theorem nwE_snoc (q perm : Int) (gs : List Nat) (g : Nat) : nwE q perm (gs ++ [g]) = nwE q perm gs ++ [⟨q + 4096 * (gs.length : Int), perm, g, 0, 4096, fun _ => 0⟩] := by simp [nwE, List.mapIdx_append]
theorem nwE_ok {B : Nat} {W : World} {q perm : Int} {gs : List Nat} (h : ∀ g ∈ gs, W.heap[g]? = some (.cells zB 5)) : ∀ y ∈ nwE q perm gs, okE B W y := by
  intro y hy
  obtain ⟨i, hi, rfl⟩ := List.getElem_of_mem hy
  simp [nwE] at hi ⊢
  exact .inr ⟨rfl, fun _ => rfl, h _ (List.getElem_mem _)⟩
theorem app_nil (W : World) (g : Nat) : (Builtin.append_ #[22, 22] 22 #[.slice (some ⟨g, 0, none⟩) 0 0, .slice none 0 0]).run Try.prog W = .ok (.slice (some ⟨g, 0, none⟩) 0 0) W := by kernel_rfl
theorem three_row {W : World} {x y z : Value} {j : Nat} {q : Value} (hj : [x, y, z][j]? = some q) : (W.alloc (.cells #[x, y, z] 62)).cell? ((⟨W.heap.size, 0, none⟩ : Addr).add j) = some q := by
  have t := World.alloc_heap_new W (.cells #[x, y, z] 62)
  rcases j with _ | _ | _ | j <;> simp at hj <;> subst hj <;> rw [Go.WideShapes.add_plain] <;> simp only [World.cell?, t] <;> rfl
/-- What fresh has made so far. -/
structure Fsh (w W : World) (v : Value) (qs : List Pe) (q perm : Int) (gs : List Nat) : Prop where
  own : W.ownsRow w.heap.size 62 3 v (qs.length + gs.length) (rowE (qs ++ nwE q perm gs))
  keep : Keep5 w W
  new : ∀ g ∈ gs, W.heap[g]? = some (.cells zB 5)
  below : Below w.heap.size w W
set_option maxRecDepth 20000 in
set_option maxHeartbeats 2000000 in
/-- fresh, behind its first line. -/
theorem fresh_some (g0 c0 : Nat) (qs : List Pe) (q perm : Int) (n : Nat) (B : Nat) (w : World) (ho : w.ownsRow B 62 3 (.slice (some ⟨g0, 0, none⟩) qs.length c0) qs.length (rowE qs)) (q0 : 0 ≤ q) (h48 : q + 4096 * (n : Int) ≤ 281474976714752) (hn : n ≤ 4096) (hl : qs.length ≤ 4096) :
    Calls Try.prog 47 #[.slice (some ⟨g0, 0, none⟩) qs.length c0, .int .u64 q, .int .i64 perm, .int .i64 n] w fun e w' => ∃ v gs, e = .returned v ∧ gs.length = n ∧ Fsh w w' v qs q perm gs := by
  obtain ⟨i0, hi, hz0, hz1, hz2⟩ := info_parts info62
  have AN : Hid (Try.prog.info? 62 = some i0 ∧ i0.zero = some (.agg #[.int .u64 0, .int .i64 0, .slice none 0 0]) ∧ i0.size = 3 ∧ i0.bytes = 40) := ⟨hi, hz0, hz1, hz2⟩
  have HO : Hid (w.ownsRow B 62 3 (.slice (some ⟨g0, 0, none⟩) qs.length c0) qs.length (rowE qs)) := ho
  have hmk := make4096
  obtain ⟨lq, hlq⟩ : ∃ lq : Nat, qs.length = lq := ⟨_, rfl⟩
  have HLQ : Hid (qs.length = lq) := hlq
  clear ho hi hz0 hz1 hz2
  rw [hlq] at HO hl ⊢
  clear hlq
  go_enter Try.func47, Try.ntmps47
  go_wp2_with (at_builtin; refine wpList_append_own _ rfl _ _ 22 rfl w.heap.size 62 i0 (.agg #[.int .u64 0, .int .i64 0, .slice none 0 0]) 3 40 Try.underlying22 AN.out.1 AN.out.2.1 AN.out.2.2.1 AN.out.2.2.2 rfl (by decide) _ _ _ rfl (World.ownsRow_made w #[] 0 (Nat.le_refl _) (Nat.zero_le _) rfl) ⟨g0, 0, none⟩ lq c0 (rowE qs) rfl ?qc1 ?qc2 ?qc3 ?qc4 ?qc5 ?qc6 ?_)
  case qc1 => rw [rowE_len, HLQ.out]
  case qc2 =>
    intro j u hj
    have t := HO.out.cells (g := g0) rfl j u hj
    exact (((Below.refl _ w).alloc (Nat.le_refl _) _).cell (p := (⟨g0, 0, none⟩ : Addr).add j) (by rw [Go.WideShapes.add_plain] at t ⊢; exact lt_of_cell t)).trans t
  case qc3 => exact rowE_one qs
  case qc4 => unfold maxLen; omega
  case qc5 => omega
  case qc6 => simp
  intro v' w1 hown hgrow hnil
  have HF1 : Hid (Fsh w w1 v' qs q perm []) := by
    have hB : Below w.heap.size w w1 := ((Below.refl _ w).alloc (Nat.le_refl _) _).grown hgrow (by simp) (by intro k hk; simp [Value.ownBlock] at hk; omega)
    refine (⟨?_, Keep5.below hB, fun g hg => by simp at hg, hB⟩ : Fsh w w1 v' qs q perm [])
    rw [HLQ.out]
    simpa [nwE] using hown
  clear hown hgrow hnil
  go_wp2_with fail
  go_loopw [9, 10] (fun x y wr => ∃ (gs : List Nat) (v : Value), x = v ∧ y = .int .i64 (gs.length : Int) ∧ gs.length ≤ n ∧ Fsh w wr v qs q perm gs) (fun _ y _ => n - (intOf y).toNat)
  case atStart => exact ⟨[], v', rfl, rfl, Nat.zero_le _, HF1.out⟩
  case round =>
    obtain ⟨gs, v, hv, rfl, hgn, hf⟩ := hrel
    have hv' := hv.symm
    subst hv'
    have HF : Hid (Fsh w wr v qs q perm gs) := hf
    clear hf
    obtain ⟨i, hI⟩ : ∃ i : Nat, gs.length = i := ⟨_, rfl⟩
    have HI : Hid (gs.length = i) := hI
    rw [hI] at hgn ⊢
    clear hI
    by_cases hlt : i < n
    · have hO := HF.out.own
      rw [HLQ.out, HI.out] at hO
      have HO2 : Hid (wr.ownsRow w.heap.size 62 3 v (lq + i) (rowE (qs ++ nwE q perm gs))) := hO
      have hs := HF.out.below.size
      clear hO
      go_wp2_with (at_builtin; refine wpList_append_own _ rfl _ _ 22 rfl w.heap.size 62 i0 (.agg #[.int .u64 0, .int .i64 0, .slice none 0 0]) 3 40 Try.underlying22 AN.out.1 AN.out.2.1 AN.out.2.2.1 AN.out.2.2.2 rfl (by decide) _ _ _ rfl ((HO2.out.alloc _).alloc _) ⟨wr.heap.size + 1, 0, none⟩ 1 1 [.int .u64 (q + (i : Int) * 4096), .int .i64 perm, .slice (some ⟨wr.heap.size, 0, none⟩) 4096 4096] rfl (by rfl) (by intro j u hj; have t := three_row (W := wr.alloc (.cells zB 5)) hj; simpa using t) (by simp [Value.oneCell']) (by unfold maxLen; omega) (by omega) (by simp; omega) ?_)
      intro v2 w3 hown hgrow hnil
      have HF3 : Hid (Fsh w w3 v2 qs q perm (gs ++ [wr.heap.size])) := by
        have hB : Below wr.heap.size wr (((wr.alloc (.cells zB 5)).alloc (.cells #[.int .u64 (q + (i : Int) * 4096), .int .i64 perm, .slice (some ⟨wr.heap.size, 0, none⟩) 4096 4096] 62))) := ((Below.refl _ wr).alloc (Nat.le_refl _) _).alloc (by simp) _
        have hk5 : Keep5 (((wr.alloc (.cells zB 5)).alloc (.cells #[.int .u64 (q + (i : Int) * 4096), .int .i64 perm, .slice (some ⟨wr.heap.size, 0, none⟩) 4096 4096] 62))) w3 := Keep5.app ((HO2.out.alloc _).alloc _) hgrow
        refine (⟨?_, (HF.out.keep.trans (Keep5.below hB)).trans hk5, fun g hg => ?_, (HF.out.below.trans (hB.mono hs)).grown hgrow (by simp; omega) (fun k hk => ?_)⟩ : Fsh w w3 v2 qs q perm (gs ++ [wr.heap.size]))
        · rw [nwE_snoc, ← List.append_assoc, rowE_snoc, HLQ.out, List.length_append, HI.out]
          have e : q + 4096 * (i : Int) = q + (i : Int) * 4096 := by omega
          simp only [pe3, e]
          exact hown
        · rcases List.mem_append.1 hg with hg | hg
          · exact hk5 _ _ (Keep5.below hB _ _ (HF.out.new g hg))
          · obtain rfl := List.mem_singleton.1 hg
            exact hk5 _ _ (heap_on (heap_at wr _) _)
        · rcases HO2.out.2 with ⟨rfl, _⟩ | ⟨g, cap, cur, rfl, hg, _⟩
          · cases hk
          · cases hk; exact hg
      clear hown hgrow hnil HO2
      go_wp2
      go_roundw
      case rel => exact ⟨gs ++ [wr.heap.size], _, rfl, by have := HI.out; simp; omega, by have := HI.out; simp; omega, HF3.out⟩
      case measure => simp [intOf]; omega
    · obtain rfl : i = n := by omega
      go_wp2
      go_ret
      exact ⟨v, rfl, gs, HI.out, HF.out⟩
set_option maxRecDepth 20000 in
set_option maxHeartbeats 2000000 in
/-- fresh, of no pages. -/
theorem fresh_nil (q perm : Int) (n : Nat) (w : World) (q0 : 0 ≤ q) (h48 : q + 4096 * (n : Int) ≤ 281474976714752) (hn : n ≤ 4096) :
    Calls Try.prog 47 #[.slice none 0 0, .int .u64 q, .int .i64 perm, .int .i64 n] w fun e w' => ∃ v gs, e = .returned v ∧ gs.length = n ∧ Fsh w w' v [] q perm gs := by
  obtain ⟨i0, hi, hz0, hz1, hz2⟩ := info_parts info62
  have AN : Hid (Try.prog.info? 62 = some i0 ∧ i0.zero = some (.agg #[.int .u64 0, .int .i64 0, .slice none 0 0]) ∧ i0.size = 3 ∧ i0.bytes = 40) := ⟨hi, hz0, hz1, hz2⟩
  have hmk := make4096
  clear hi hz0 hz1 hz2
  have happ := app_nil (w.alloc (.cells #[] 62)) w.heap.size
  go_enter Try.func47, Try.ntmps47
  have HF1 : Hid (Fsh w (w.alloc (.cells #[] 62)) (.slice (some ⟨w.heap.size, 0, none⟩) 0 0) [] q perm []) := by
    refine (⟨?_, Keep5.alloc _ _, fun g hg => by simp at hg, (Below.refl _ w).alloc (Nat.le_refl _) _⟩ : Fsh w (w.alloc (.cells #[] 62)) (.slice (some ⟨w.heap.size, 0, none⟩) 0 0) [] q perm [])
    simpa [nwE, rowE] using World.ownsRow_made w #[] 0 (Nat.le_refl _) (Nat.zero_le _) rfl
  go_wp2_with fail
  go_loopw [9, 10] (fun x y wr => ∃ (gs : List Nat) (v : Value), x = v ∧ y = .int .i64 (gs.length : Int) ∧ gs.length ≤ n ∧ Fsh w wr v [] q perm gs) (fun _ y _ => n - (intOf y).toNat)
  case atStart => exact ⟨[], _, rfl, rfl, Nat.zero_le _, HF1.out⟩
  case round =>
    obtain ⟨gs, v, hv, rfl, hgn, hf⟩ := hrel
    have hv' := hv.symm
    subst hv'
    have HF : Hid (Fsh w wr v [] q perm gs) := hf
    clear hf
    obtain ⟨i, hI⟩ : ∃ i : Nat, gs.length = i := ⟨_, rfl⟩
    have HI : Hid (gs.length = i) := hI
    rw [hI] at hgn ⊢
    clear hI
    by_cases hlt : i < n
    · have hO := HF.out.own
      rw [HI.out] at hO
      have HO2 : Hid (wr.ownsRow w.heap.size 62 3 v (0 + i) (rowE ([] ++ nwE q perm gs))) := hO
      have hs := HF.out.below.size
      clear hO
      go_wp2_with (at_builtin; refine wpList_append_own _ rfl _ _ 22 rfl w.heap.size 62 i0 (.agg #[.int .u64 0, .int .i64 0, .slice none 0 0]) 3 40 Try.underlying22 AN.out.1 AN.out.2.1 AN.out.2.2.1 AN.out.2.2.2 rfl (by decide) _ _ _ rfl ((HO2.out.alloc _).alloc _) ⟨wr.heap.size + 1, 0, none⟩ 1 1 [.int .u64 (q + (i : Int) * 4096), .int .i64 perm, .slice (some ⟨wr.heap.size, 0, none⟩) 4096 4096] rfl (by rfl) (by intro j u hj; have t := three_row (W := wr.alloc (.cells zB 5)) hj; simpa using t) (by simp [Value.oneCell']) (by unfold maxLen; omega) (by omega) (by simp; omega) ?_)
      intro v2 w3 hown hgrow hnil
      have HF3 : Hid (Fsh w w3 v2 [] q perm (gs ++ [wr.heap.size])) := by
        have hB : Below wr.heap.size wr (((wr.alloc (.cells zB 5)).alloc (.cells #[.int .u64 (q + (i : Int) * 4096), .int .i64 perm, .slice (some ⟨wr.heap.size, 0, none⟩) 4096 4096] 62))) := ((Below.refl _ wr).alloc (Nat.le_refl _) _).alloc (by simp) _
        have hk5 : Keep5 (((wr.alloc (.cells zB 5)).alloc (.cells #[.int .u64 (q + (i : Int) * 4096), .int .i64 perm, .slice (some ⟨wr.heap.size, 0, none⟩) 4096 4096] 62))) w3 := Keep5.app ((HO2.out.alloc _).alloc _) hgrow
        refine (⟨?_, (HF.out.keep.trans (Keep5.below hB)).trans hk5, fun g hg => ?_, (HF.out.below.trans (hB.mono hs)).grown hgrow (by simp; omega) (fun k hk => ?_)⟩ : Fsh w w3 v2 [] q perm (gs ++ [wr.heap.size]))
        · rw [nwE_snoc, ← List.append_assoc, rowE_snoc, List.length_append, HI.out]
          have e : q + 4096 * (i : Int) = q + (i : Int) * 4096 := by omega
          simp only [pe3, e]
          simpa using hown
        · rcases List.mem_append.1 hg with hg | hg
          · exact hk5 _ _ (Keep5.below hB _ _ (HF.out.new g hg))
          · obtain rfl := List.mem_singleton.1 hg
            exact hk5 _ _ (heap_on (heap_at wr _) _)
        · rcases HO2.out.2 with ⟨rfl, _⟩ | ⟨g, cap, cur, rfl, hg, _⟩
          · cases hk
          · cases hk; exact hg
      clear hown hgrow hnil HO2
      go_wp2
      go_roundw
      case rel => exact ⟨gs ++ [wr.heap.size], _, rfl, by have := HI.out; simp; omega, by have := HI.out; simp; omega, HF3.out⟩
      case measure => simp [intOf]; omega
    · obtain rfl : i = n := by omega
      go_wp2
      go_ret
      exact ⟨v, rfl, gs, HI.out, HF.out⟩
/-- fresh, of pages in a row of one's own. -/
theorem fresh_any (v : Value) (qs : List Pe) (q perm : Int) (n : Nat) (B : Nat) (w : World) (ho : w.ownsRow B 62 3 v qs.length (rowE qs)) (q0 : 0 ≤ q) (h48 : q + 4096 * (n : Int) ≤ 281474976714752) (hn : n ≤ 4096) (hl : qs.length ≤ 4096) :
    Calls Try.prog 47 #[v, .int .u64 q, .int .i64 perm, .int .i64 n] w fun e w' => ∃ v' gs, e = .returned v' ∧ gs.length = n ∧ Fsh w w' v' qs q perm gs := by
  rcases ho.2 with ⟨rfl, h0⟩ | ⟨g, cap, cur, rfl, _⟩
  · obtain rfl : qs = [] := List.eq_nil_of_length_eq_zero h0
    exact fresh_nil q perm n w q0 h48 hn
  · exact fresh_some g cap qs q perm n B w ho q0 h48 hn hl
set_option maxHeartbeats 1000000 in
theorem perm46 (p : Int) (w : World) : Calls Try.prog 46 #[.int .i64 p] w fun e w' => e = .returned (.bool (permB p)) ∧ w' = w := by
  by_cases h1 : 0 < p
  · have h1' : 1 ≤ p := h1
    by_cases h2 : p ≤ 7
    · go_enter Try.func46, Try.ntmps46
      go_wp2
      all_goals go_ret
      all_goals exact ⟨ret_bool (by simp [permB, h1, h2]), rfl⟩
    · go_enter Try.func46, Try.ntmps46
      go_wp2
      all_goals go_ret
      all_goals exact ⟨ret_bool (by unfold permB; rw [decide_eq_false (p := p ≤ 7) (by omega)]; simp), rfl⟩
  · have h1' : ¬ 1 ≤ p := h1
    go_enter Try.func46, Try.ntmps46
    go_wp2
    all_goals go_ret
    all_goals exact ⟨ret_bool (by unfold permB; rw [decide_eq_false (p := 0 < p) (by omega)]; rfl), rfl⟩
set_option maxHeartbeats 1000000 in
theorem rmap_arg (v : Value) (q perm s : Int) (q0 : 0 ≤ q) (q1 : q < 18446744073709551616) (s0 : 0 ≤ s) (s1 : s < 18446744073709551616) (h : ¬ argB q s) (w : World) : Calls Try.prog 26 #[v, .int .u64 q, .int .i64 perm, .int .u64 s] w fun e w' => e = .returned (.tuple #[v, .int .i64 1]) ∧ w' = w := by
  unfold argB at h
  by_cases h1 : q % 4096 = 0
  · have h1b : (q % 4096 != 0) = false := by simpa using h1
    by_cases h2 : s = 0
    · have h2b : (s == 0) = true := by simpa using h2
      have h2c : decide (s = 0) = true := by simpa using h2
      clear h
      go_enter Try.func26, Try.ntmps26
      go_wp2
      go_ret2
      exact ⟨rfl, rfl⟩
    · have h2b : (s == 0) = false := by simpa using h2
      have h2c : decide (s = 0) = false := by simpa using h2
      by_cases h3 : 281474976710656 < q
      · have h3b : decide (281474976710656 < q) = true := by simpa using h3
        clear h
        go_enter Try.func26, Try.ntmps26
        go_wp2
        go_ret2
        exact ⟨rfl, rfl⟩
      · have h3b : decide (281474976710656 < q) = false := by simpa using h3
        have h4 : 281474976710656 - q < s := by omega
        have h4b : decide (281474976710656 - q < s) = true := by simpa using h4
        clear h
        go_enter Try.func26, Try.ntmps26
        go_wp2
        go_ret2
        exact ⟨rfl, rfl⟩
  · have h1b : (q % 4096 != 0) = true := by simpa using h1
    clear h
    go_enter Try.func26, Try.ntmps26
    go_wp2
    go_ret2
    exact ⟨rfl, rfl⟩
set_option maxHeartbeats 1000000 in
theorem rmap_perm (v : Value) (q perm s : Int) (q0 : 0 ≤ q) (_s0 : 0 ≤ s) (h : argB q s) (hp : permB perm = false) (w : World) : Calls Try.prog 26 #[v, .int .u64 q, .int .i64 perm, .int .u64 s] w fun e w' => e = .returned (.tuple #[v, .int .i64 21]) ∧ w' = w := by
  obtain ⟨h1, h2, h3, h4⟩ := h
  have h1b : (q % 4096 != 0) = false := by simpa using h1
  have h2b : (s == 0) = false := by simpa using h2
  have h2c : decide (s = 0) = false := by simpa using h2
  have h3b : decide (281474976710656 < q) = false := by simp; omega
  have h4b : decide (281474976710656 - q < s) = false := by simp; omega
  have HP : Hid (∀ W, Calls Try.prog 46 #[.int .i64 perm] W fun e w' => e = .returned (.bool false) ∧ w' = W) := fun W => hp ▸ perm46 perm W
  clear hp
  go_enter Try.func26, Try.ntmps26
  go_wp2_with fail
  refine (HP.out _).mono ?_
  rintro e w1 ⟨rfl, e1⟩
  subst e1
  go_wp2
  go_ret2
  exact ⟨rfl, rfl⟩
set_option maxHeartbeats 1000000 in
theorem rmap_many (a : Option Addr) (len cap : Nat) (q perm s : Int) (q0 : 0 ≤ q) (s0 : 0 ≤ s) (h : argB q s) (hp : permB perm = true) (hlen : len ≤ 4096) (hc : ¬ s ≤ (4096 - (len : Int)) * 4096) (w : World) : Calls Try.prog 26 #[.slice a len cap, .int .u64 q, .int .i64 perm, .int .u64 s] w fun e w' => e = .returned (.tuple #[.slice a len cap, .int .i64 20]) ∧ w' = w := by
  obtain ⟨h1, h2, h3, h4⟩ := h
  have h1b : (q % 4096 != 0) = false := by simpa using h1
  have h2b : (s == 0) = false := by simpa using h2
  have h2c : decide (s = 0) = false := by simpa using h2
  have h3b : decide (281474976710656 < q) = false := by simp; omega
  have h4b : decide (281474976710656 - q < s) = false := by simp; omega
  have h5 : 4096 - (len : Int) < (s + 4096 - 1) / 4096 := by omega
  have h5' : 4096 - (len : Int) < (s + 4095) / 4096 := by omega
  have HP : Hid (∀ W, Calls Try.prog 46 #[.int .i64 perm] W fun e w' => e = .returned (.bool true) ∧ w' = W) := fun W => hp ▸ perm46 perm W
  clear hp
  go_enter Try.func26, Try.ntmps26
  go_wp2_with fail
  refine (HP.out _).mono ?_
  rintro e w1 ⟨rfl, e1⟩
  subst e1
  go_wp2
  go_ret2
  exact ⟨rfl, rfl⟩
/-- The pages with new ones among them. -/
def outE (E : Nat → Pe) (q perm : Int) (ins : Nat) (gs : List Nat) (i : Nat) : List Pe := (List.range ins).map E ++ nwE q perm gs ++ (List.range' ins (i - ins)).map E
theorem outE_snoc (E : Nat → Pe) (q perm : Int) {ins : Nat} (gs : List Nat) {i : Nat} (h : ins ≤ i) : outE E q perm ins gs (i + 1) = outE E q perm ins gs i ++ [E i] := by
  unfold outE
  rw [show i + 1 - ins = (i - ins) + 1 by omega, List.range'_1_concat, List.map_append, List.append_assoc, show ins + (i - ins) = i by omega]
  simp
theorem outE_self (E : Nat → Pe) (q perm : Int) (gs : List Nat) (i : Nat) : outE E q perm i gs i = (List.range i).map E ++ nwE q perm gs := by
  unfold outE
  simp
theorem outE_len (E : Nat → Pe) (q perm : Int) {ins : Nat} (gs : List Nat) {i : Nat} (h : ins ≤ i) : (outE E q perm ins gs i).length = i + gs.length := by
  simp [outE, nwE_len]
  omega
/-- Does a new page lie where a page is? -/
def metE (E : Nat → Pe) (q : Int) (N j : Nat) : Prop := q ≤ (E j).k ∧ (E j).k < q + 4096 * (N : Int)
/-- How far the document's Map has come. -/
structure Rst (w wr : World) (E : Nat → Pe) (q perm : Int) (N len i : Nat) (d : Bool) (v : Value) (qs : List Pe) : Prop where
  own : wr.ownsRow w.heap.size 62 3 v qs.length (rowE qs)
  ok : ∀ y ∈ qs, okE w.heap.size wr y
  below : Below w.heap.size w wr
  free : ∀ j, j < i → ¬ metE E q N j
  form : (d = false ∧ qs = (List.range i).map E ∧ ∀ j, j < i → (E j).k < q) ∨ (d = true ∧ ∃ ins gs, ins ≤ i ∧ gs.length = N ∧ qs = outE E q perm ins gs i ∧ (∀ j, j < ins → (E j).k < q) ∧ (∀ j, ins ≤ j → j < len → q < (E j).k))
theorem Rst.len {w wr : World} {E : Nat → Pe} {q perm : Int} {N len i : Nat} {d : Bool} {v : Value} {qs : List Pe} (h : Rst w wr E q perm N len i d v qs) : qs.length ≤ i + N := by
  rcases h.form with ⟨_, rfl, _⟩ | ⟨_, ins, gs, h1, h2, rfl, _⟩
  · simp
  · rw [outE_len _ _ _ _ h1]; omega
/-- A page more in the row. -/
theorem app_row {w W W3 : World} {v v' : Value} {qs : List Pe} {y : Pe} (own : W.ownsRow w.heap.size 62 3 v qs.length (rowE qs)) (ok : ∀ z ∈ qs, okE w.heap.size W z) (below : Below w.heap.size w W) (hy : okE w.heap.size W y) (hown : W3.ownsRow w.heap.size 62 3 v' (qs.length + 1) (rowE qs ++ pe3 y)) (hgrow : (W.alloc (.cells #[.int .u64 y.k, .int .i64 y.p, .slice (some ⟨y.g, y.o, none⟩) 4096 y.c] 62)).grownBy W3 v.ownBlock) :
    W3.ownsRow w.heap.size 62 3 v' (qs ++ [y]).length (rowE (qs ++ [y])) ∧ (∀ z ∈ qs ++ [y], okE w.heap.size W3 z) ∧ Below w.heap.size w W3 ∧ Below w.heap.size W W3 := by
  have hs := below.size
  have hB : Below w.heap.size W (W.alloc (.cells #[.int .u64 y.k, .int .i64 y.p, .slice (some ⟨y.g, y.o, none⟩) 4096 y.c] 62)) := (Below.refl _ W).alloc hs _
  have hB3 : Below w.heap.size W W3 := hB.grown hgrow (by simp; omega) (fun k hk => by
    rcases own.2 with ⟨rfl, _⟩ | ⟨g, cap, cur, rfl, hg, _⟩
    · cases hk
    · cases hk; exact hg)
  have hk5 : Keep5 W W3 := (Keep5.alloc W _).trans (Keep5.app (own.alloc _) hgrow)
  refine ⟨?_, fun z hz => ?_, below.trans hB3, hB3⟩
  · rw [rowE_snoc, List.length_append]; exact hown
  · rcases List.mem_append.1 hz with hz | hz
    · exact (ok z hz).kept hB3 hk5
    · obtain rfl := List.mem_singleton.1 hz
      exact hy.kept hB3 hk5
/-- The pages that came in, in a row. -/
def srcE (W : World) (a : Option Addr) (len : Nat) (E : Nat → Pe) : Prop := 0 < len → ∃ lb lo, a = some ⟨lb, lo, none⟩ ∧ ∀ i, i < len → W.cell? ⟨lb, lo + i * 3, none⟩ = some (.int .u64 (E i).k) ∧ W.cell? ⟨lb, lo + i * 3 + 1, none⟩ = some (.int .i64 (E i).p) ∧ W.cell? ⟨lb, lo + i * 3 + 2, none⟩ = some (.slice (some ⟨(E i).g, (E i).o, none⟩) 4096 (E i).c)
/-- What the document's Map tells, where its arguments are right. -/
def rmapR (w : World) (v : Value) (E : Nat → Pe) (q perm : Int) (N len : Nat) (e : Ending) (w' : World) : Prop :=
  Below w.heap.size w w' ∧ ((e = .returned (.tuple #[v, .int .i64 20]) ∧ ∃ i, i < len ∧ metE E q N i) ∨ ((∀ i, i < len → ¬ metE E q N i) ∧ ∃ v' ins gs, e = .returned (.tuple #[v', .int .i64 0]) ∧ ins ≤ len ∧ gs.length = N ∧ (∀ j, j < ins → (E j).k < q) ∧ (∀ j, ins ≤ j → j < len → q < (E j).k) ∧ w'.ownsRow w.heap.size 62 3 v' (outE E q perm ins gs len).length (rowE (outE E q perm ins gs len)) ∧ ∀ y ∈ outE E q perm ins gs len, okE w.heap.size w' y))
theorem Rst.step {w wr W3 : World} {E : Nat → Pe} {q perm : Int} {N len i : Nat} {d : Bool} {v v' : Value} {qs : List Pe} (h : Rst w wr E q perm N len i d v qs) (hy : okE w.heap.size wr (E i)) (hm : ¬ metE E q N i) (hd : d = false → (E i).k < q) (hown : W3.ownsRow w.heap.size 62 3 v' (qs.length + 1) (rowE qs ++ pe3 (E i))) (hgrow : (wr.alloc (.cells #[.int .u64 (E i).k, .int .i64 (E i).p, .slice (some ⟨(E i).g, (E i).o, none⟩) 4096 (E i).c] 62)).grownBy W3 v.ownBlock) : Rst w W3 E q perm N len (i + 1) d v' (qs ++ [E i]) := by
  obtain ⟨h1, h2, h3, _⟩ := app_row h.own h.ok h.below hy hown hgrow
  refine ⟨h1, h2, h3, fun j hj => ?_, ?_⟩
  · rcases (by omega : j < i ∨ j = i) with q | rfl
    · exact h.free j q
    · exact hm
  · rcases h.form with ⟨e, rfl, hk⟩ | ⟨e, ins, gs, g1, g2, rfl, g3, g4⟩
    · refine .inl ⟨e, by rw [List.range_succ, List.map_append]; rfl, fun j hj => ?_⟩
      rcases (by omega : j < i ∨ j = i) with q | rfl
      · exact hk j q
      · exact hd e
    · exact .inr ⟨e, ins, gs, by omega, g2, (outE_snoc E q perm gs g1).symm, g3, g4⟩
/-- The new pages laid. -/
theorem Rst.laid {w wr W1 : World} {E : Nat → Pe} {q perm : Int} {N len i : Nat} {v v' : Value} {qs : List Pe} {gs : List Nat} (h : Rst w wr E q perm N len i false v qs) (hf : Fsh wr W1 v' qs q perm gs) (hg : gs.length = N) (hup : ∀ j, i ≤ j → j < len → q < (E j).k) : Rst w W1 E q perm N len i true v' (qs ++ nwE q perm gs) := by
  have hs := h.below.size
  refine ⟨?_, fun y hy => ?_, h.below.trans (hf.below.mono hs), h.free, ?_⟩
  · have t := hf.own
    rw [List.length_append, nwE_len]
    exact ⟨t.1, by
      rcases t.2 with t | ⟨g, cap, cur, e, hge, r⟩
      · exact .inl t
      · exact .inr ⟨g, cap, cur, e, Nat.le_trans hs hge, r⟩⟩
  · rcases List.mem_append.1 hy with hy | hy
    · exact (h.ok y hy).kept (hf.below.mono hs) hf.keep
    · exact nwE_ok hf.new y hy
  · rcases h.form with ⟨_, rfl, hk⟩ | ⟨e, _⟩
    · exact .inr ⟨rfl, i, gs, Nat.le_refl _, hg, (outE_self E q perm gs i).symm, hk, hup⟩
    · cases e
/-- The loop's relation. -/
def Rsr (w : World) (E : Nat → Pe) (q perm : Int) (N len : Nat) (x y z : Value) (wr : World) : Prop := ∃ (i : Nat) (d : Bool) (qs : List Pe), y = .bool d ∧ z = .int .i64 i ∧ i ≤ len ∧ Rst w wr E q perm N len i d x qs
theorem Rsr.mk {w wr : World} {E : Nat → Pe} {q perm : Int} {N len i : Nat} {d : Bool} {v : Value} {qs : List Pe} (h : Rst w wr E q perm N len (i + 1) d v qs) (hi : i < len) : Rsr w E q perm N len v (.bool d) (.int .i64 ((i : Int) + 1)) wr := ⟨i + 1, d, qs, rfl, by go_num, by omega, h⟩
set_option maxRecDepth 20000 in
set_option maxHeartbeats 4000000 in
theorem rmap_run (a : Option Addr) (len cap : Nat) (E : Nat → Pe) (q perm s : Int) (w : World) (hE : srcE w a len E) (hok : ∀ i, i < len → (E i).g < w.heap.size ∧ ∀ j, j < 4096 → w.cell? ⟨(E i).g, (E i).o + j, none⟩ = some (.int .u8 ((E i).Y j))) (hup : ∀ i j, i < j → j < len → (E i).k < (E j).k) (hrk : ∀ i, i < len → 0 ≤ (E i).k ∧ (E i).k < 18446744073709551616) (hlen : len ≤ 4096) (q0 : 0 ≤ q) (s0 : 0 ≤ s) (h : argB q s) (hp : permB perm = true) (hc : s ≤ (4096 - (len : Int)) * 4096) :
    Calls Try.prog 26 #[.slice a len cap, .int .u64 q, .int .i64 perm, .int .u64 s] w fun e w' => rmapR w (.slice a len cap) E q perm (cntN s) len e w' := by
  obtain ⟨i0, hi, hz0, hz1, hz2⟩ := info_parts info62
  have AN : Hid (Try.prog.info? 62 = some i0 ∧ i0.zero = some (.agg #[.int .u64 0, .int .i64 0, .slice none 0 0]) ∧ i0.size = 3 ∧ i0.bytes = 40) := ⟨hi, hz0, hz1, hz2⟩
  clear hi hz0 hz1 hz2
  obtain ⟨h1, h2, h3, h4⟩ := h
  have h1b : (q % 4096 != 0) = false := by simpa using h1
  have h2b : (s == 0) = false := by simpa using h2
  have h2c : decide (s = 0) = false := by simpa using h2
  have h3b : decide (281474976710656 < q) = false := by simp; omega
  have h4b : decide (281474976710656 - q < s) = false := by simp; omega
  obtain ⟨N, hN⟩ : ∃ N : Nat, cntN s = N := ⟨_, rfl⟩
  have hN1 : (s + 4096 - 1) / 4096 = (N : Int) := by unfold cntN at hN; omega
  have hN2 : (s + 4095) / 4096 = (N : Int) := by unfold cntN at hN; omega
  have n1 : 1 ≤ N := by omega
  have n2 : (N : Int) ≤ 4096 - (len : Int) := by omega
  have n3 : ¬ 4096 - (len : Int) < (N : Int) := by omega
  have n4 : q + 4096 * (N : Int) ≤ 281474976714752 := by omega
  rw [hN]
  clear hN
  have HP : Hid (∀ W, Calls Try.prog 46 #[.int .i64 perm] W fun e w' => e = .returned (.bool true) ∧ w' = W) := fun W => hp ▸ perm46 perm W
  have HE : Hid (srcE w a len E) := hE
  have HK : Hid (∀ i, i < len → ∀ W, Below w.heap.size w W → okE w.heap.size W (E i)) := fun i hi W hb => .inl ⟨(hok i hi).1, fun j hj => (hb.cell (p := ⟨(E i).g, (E i).o + j, none⟩) (hok i hi).1).trans ((hok i hi).2 j hj)⟩
  have HU : Hid (∀ i j, i < j → j < len → (E i).k < (E j).k) := hup
  have HRk : Hid (∀ i, i < len → 0 ≤ (E i).k ∧ (E i).k < 18446744073709551616) := hrk
  clear hp hE hok hup hrk
  have HR0 : Hid (Rst w w E q perm N len 0 false (.slice none 0 0) []) := (⟨World.ownsRow_nil _ _ _ _, fun y hy => by simp at hy, Below.refl _ _, fun j hj => by omega, .inl ⟨rfl, rfl, fun j hj => by omega⟩⟩ : Rst w w E q perm N len 0 false (.slice none 0 0) [])
  go_enter Try.func26, Try.ntmps26
  go_wp2_with fail
  refine (HP.out _).mono ?_
  rintro e w1 ⟨rfl, e1⟩
  have e1' := e1.symm
  subst e1'
  go_wp2_with fail
  clear hN1 hN2
  go_loopw [11, 12, 13] (fun x y z wr => Rsr w E q perm N len x y z wr) (fun _ _ z _ => len - (intOf z).toNat)
  case atStart => exact ⟨0, false, [], rfl, rfl, Nat.zero_le _, HR0.out⟩
  case round =>
    obtain ⟨i, d, qs, rfl, rfl, hil, hrs⟩ := hrel
    obtain ⟨v, hv⟩ : ∃ v, v = u11 := ⟨_, rfl⟩
    subst hv
    have HR : Hid (Rst w wr E q perm N len i d v qs) := hrs
    have hql := hrs.len
    clear hrs
    by_cases hlt : i < len
    · obtain ⟨lb, lo, rfl, hcs⟩ := HE.out (by omega)
      obtain ⟨c0, c1, c2⟩ := hcs i hlt
      have ll := lt_of_cell c0
      have HC : Hid (∀ W, Below w.heap.size w W → W.cell? ⟨lb, lo + i * 3, none⟩ = some (.int .u64 (E i).k) ∧ W.cell? ⟨lb, lo + i * 3 + 1, none⟩ = some (.int .i64 (E i).p) ∧ W.cell? ⟨lb, lo + i * 3 + 2, none⟩ = some (.slice (some ⟨(E i).g, (E i).o, none⟩) 4096 (E i).c)) := fun W hb => ⟨(hb.cell (p := ⟨lb, lo + i * 3, none⟩) ll).trans c0, (hb.cell (p := ⟨lb, lo + i * 3 + 1, none⟩) ll).trans c1, (hb.cell (p := ⟨lb, lo + i * 3 + 2, none⟩) ll).trans c2⟩
      clear hcs c0 c1 c2
      obtain ⟨d0, d1, d2⟩ := HC.out wr HR.out.below
      obtain ⟨r0, r1⟩ := HRk.out i hlt
      have hsz := HR.out.below.size
      have HEi : ∃ ki pi gi oi ci, (E i).k = ki ∧ (E i).p = pi ∧ (E i).g = gi ∧ (E i).o = oi ∧ (E i).c = ci := ⟨_, _, _, _, _, rfl, rfl, rfl, rfl, rfl⟩
      obtain ⟨ki, pi, gi, oi, ci, e1, e2, e3, e4, e5⟩ := HEi
      have HEi : Hid ((E i).k = ki ∧ (E i).p = pi ∧ (E i).g = gi ∧ (E i).o = oi ∧ (E i).c = ci) := ⟨e1, e2, e3, e4, e5⟩
      rw [e1] at r0 r1 d0
      rw [e2] at d1
      rw [e3, e4, e5] at d2
      rw [e1, e2, e3, e4, e5] at HC
      have HUi : Hid (∀ j, i ≤ j → j < len → ki ≤ (E j).k) := fun j hj hjl => by
        rcases (by omega : i = j ∨ i < j) with rfl | hj
        · omega
        · have := HU.out i j hj hjl; omega
      clear e1 e2 e3 e4 e5
      by_cases hA : q ≤ ki
      · have hAb : decide (q ≤ ki) = true := by simpa using hA
        by_cases hA2 : ki - q < (N : Int) * 4096
        · have HM : Hid (metE E q N i) := (by have := HEi.out.1; unfold metE; omega : metE E q N i)
          go_wp2
          go_ret2
          exact ⟨HR.out.below, .inl ⟨rfl, i, hlt, HM.out⟩⟩
        · have HM : Hid (¬ metE E q N i) := (by have := HEi.out.1; unfold metE; omega : ¬ metE E q N i)
          have hgt : q < ki := by omega
          cases d with
          | true =>
            go_wp2_with (at_builtin; refine wpList_append_own _ rfl _ _ 22 rfl w.heap.size 62 i0 (.agg #[.int .u64 0, .int .i64 0, .slice none 0 0]) 3 40 Try.underlying22 AN.out.1 AN.out.2.1 AN.out.2.2.1 AN.out.2.2.2 rfl (by decide) _ _ _ rfl (HR.out.own.alloc _) ⟨wr.heap.size, 0, none⟩ 1 1 [.int .u64 ki, .int .i64 pi, .slice (some ⟨gi, oi, none⟩) 4096 ci] rfl (by rfl) (by intro j u hj; exact three_row hj) (by simp [Value.oneCell']) (by unfold maxLen; omega) (by omega) (by simp; omega) ?_)
            intro v2 w3 hown hgrow hnil
            have HR3 : Hid (Rst w w3 E q perm N len (i + 1) true v2 (qs ++ [E i])) := HR.out.step (HK.out i hlt _ HR.out.below) HM.out (by intro h; cases h) (by obtain ⟨e1, e2, e3, e4, e5⟩ := HEi.out; unfold pe3; rw [e1, e2, e3, e4, e5]; first | exact hown | (rw [List.length_append]; exact hown)) (by obtain ⟨e1, e2, e3, e4, e5⟩ := HEi.out; rw [e1, e2, e3, e4, e5]; exact hgrow)
            clear hown hgrow hnil
            go_wp2
            go_roundw
            case rel => exact Rsr.mk HR3.out hlt
            case measure => simp [intOf]; omega
          | false =>
            have HFr : Hid (Calls Try.prog 47 #[v, .int .u64 q, .int .i64 perm, .int .i64 N] wr fun e w' => ∃ v' gs, e = .returned v' ∧ gs.length = N ∧ Fsh wr w' v' qs q perm gs) := fresh_any v qs q perm N _ wr HR.out.own q0 n4 (by omega) (by rcases HR.out.form with ⟨_, rfl, _⟩ | ⟨e, _⟩; (simp; omega); cases e)
            go_wp2_with fail
            refine HFr.out.mono ?_
            rintro e w2 ⟨v2, gs, rfl, hgl, hF⟩
            have HR2 : Hid (Rst w w2 E q perm N len i true v2 (qs ++ nwE q perm gs)) := HR.out.laid hF hgl (fun j hj hjl => by have := HUi.out j hj hjl; omega)
            have hql2 := HR2.out.len
            obtain ⟨x0, x1, x2⟩ := HC.out w2 HR2.out.below
            have hsz2 := HR2.out.below.size
            clear hF hgl d0 d1 d2
            go_wp2_with (at_builtin; refine wpList_append_own _ rfl _ _ 22 rfl w.heap.size 62 i0 (.agg #[.int .u64 0, .int .i64 0, .slice none 0 0]) 3 40 Try.underlying22 AN.out.1 AN.out.2.1 AN.out.2.2.1 AN.out.2.2.2 rfl (by decide) _ _ _ rfl (HR2.out.own.alloc _) ⟨w2.heap.size, 0, none⟩ 1 1 [.int .u64 ki, .int .i64 pi, .slice (some ⟨gi, oi, none⟩) 4096 ci] rfl (by rfl) (by intro j u hj; exact three_row hj) (by simp [Value.oneCell']) (by unfold maxLen; omega) (by omega) (by simp; omega) ?_)
            intro v4 w3 hown hgrow hnil
            have HR3 : Hid (Rst w w3 E q perm N len (i + 1) true v4 ((qs ++ nwE q perm gs) ++ [E i])) := HR2.out.step (HK.out i hlt _ HR2.out.below) HM.out (by intro h; cases h) (by obtain ⟨e1, e2, e3, e4, e5⟩ := HEi.out; unfold pe3; rw [e1, e2, e3, e4, e5]; first | exact hown | (rw [List.length_append]; exact hown)) (by obtain ⟨e1, e2, e3, e4, e5⟩ := HEi.out; rw [e1, e2, e3, e4, e5]; exact hgrow)
            clear hown hgrow hnil
            go_wp2
            go_roundw
            case rel => exact Rsr.mk HR3.out hlt
            case measure => simp [intOf]; omega
      · have hAb : decide (q ≤ ki) = false := by simpa using hA
        have HM : Hid (¬ metE E q N i) := (by have := HEi.out.1; unfold metE; omega : ¬ metE E q N i)
        have hng : ¬ q < ki := by omega
        cases d with
        | true =>
          go_wp2_with (at_builtin; refine wpList_append_own _ rfl _ _ 22 rfl w.heap.size 62 i0 (.agg #[.int .u64 0, .int .i64 0, .slice none 0 0]) 3 40 Try.underlying22 AN.out.1 AN.out.2.1 AN.out.2.2.1 AN.out.2.2.2 rfl (by decide) _ _ _ rfl (HR.out.own.alloc _) ⟨wr.heap.size, 0, none⟩ 1 1 [.int .u64 ki, .int .i64 pi, .slice (some ⟨gi, oi, none⟩) 4096 ci] rfl (by rfl) (by intro j u hj; exact three_row hj) (by simp [Value.oneCell']) (by unfold maxLen; omega) (by omega) (by simp; omega) ?_)
          intro v2 w3 hown hgrow hnil
          have HR3 : Hid (Rst w w3 E q perm N len (i + 1) true v2 (qs ++ [E i])) := HR.out.step (HK.out i hlt _ HR.out.below) HM.out (by intro h; cases h) (by obtain ⟨e1, e2, e3, e4, e5⟩ := HEi.out; unfold pe3; rw [e1, e2, e3, e4, e5]; first | exact hown | (rw [List.length_append]; exact hown)) (by obtain ⟨e1, e2, e3, e4, e5⟩ := HEi.out; rw [e1, e2, e3, e4, e5]; exact hgrow)
          clear hown hgrow hnil
          go_wp2
          go_roundw
          case rel => exact Rsr.mk HR3.out hlt
          case measure => simp [intOf]; omega
        | false =>
          go_wp2_with (at_builtin; refine wpList_append_own _ rfl _ _ 22 rfl w.heap.size 62 i0 (.agg #[.int .u64 0, .int .i64 0, .slice none 0 0]) 3 40 Try.underlying22 AN.out.1 AN.out.2.1 AN.out.2.2.1 AN.out.2.2.2 rfl (by decide) _ _ _ rfl (HR.out.own.alloc _) ⟨wr.heap.size, 0, none⟩ 1 1 [.int .u64 ki, .int .i64 pi, .slice (some ⟨gi, oi, none⟩) 4096 ci] rfl (by rfl) (by intro j u hj; exact three_row hj) (by simp [Value.oneCell']) (by unfold maxLen; omega) (by omega) (by simp; omega) ?_)
          intro v2 w3 hown hgrow hnil
          have HR3 : Hid (Rst w w3 E q perm N len (i + 1) false v2 (qs ++ [E i])) := HR.out.step (HK.out i hlt _ HR.out.below) HM.out (fun _ => by have := HEi.out.1; omega) (by obtain ⟨e1, e2, e3, e4, e5⟩ := HEi.out; unfold pe3; rw [e1, e2, e3, e4, e5]; first | exact hown | (rw [List.length_append]; exact hown)) (by obtain ⟨e1, e2, e3, e4, e5⟩ := HEi.out; rw [e1, e2, e3, e4, e5]; exact hgrow)
          clear hown hgrow hnil
          go_wp2
          go_roundw
          case rel => exact Rsr.mk HR3.out hlt
          case measure => simp [intOf]; omega
    · obtain rfl : i = len := by omega
      cases d with
      | true =>
        go_wp2
        go_ret2
        obtain ⟨ins, gs, g1, g2, g3, g4, g5⟩ : ∃ ins gs, ins ≤ i ∧ gs.length = N ∧ qs = outE E q perm ins gs i ∧ (∀ j, j < ins → (E j).k < q) ∧ (∀ j, ins ≤ j → j < i → q < (E j).k) := by
          rcases HR.out.form with ⟨e, _⟩ | ⟨_, hh⟩
          · cases e
          · exact hh
        refine ⟨HR.out.below, .inr ⟨HR.out.free, v, ins, gs, rfl, g1, g2, g4, g5, ?_, ?_⟩⟩
        · rw [← g3]; exact HR.out.own
        · rw [← g3]; exact HR.out.ok
      | false =>
        have HFr : Hid (Calls Try.prog 47 #[v, .int .u64 q, .int .i64 perm, .int .i64 N] wr fun e w' => ∃ v' gs, e = .returned v' ∧ gs.length = N ∧ Fsh wr w' v' qs q perm gs) := fresh_any v qs q perm N _ wr HR.out.own q0 n4 (by omega) (by rcases HR.out.form with ⟨_, rfl, _⟩ | ⟨e, _⟩; (simp; omega); cases e)
        go_wp2_with fail
        refine HFr.out.mono ?_
        rintro e w2 ⟨v2, gs, rfl, hgl, hF⟩
        have HR2 : Hid (Rst w w2 E q perm N i i true v2 (qs ++ nwE q perm gs)) := HR.out.laid hF hgl (fun j hj hjl => by omega)
        clear hF hgl
        go_wp2
        go_ret2
        obtain ⟨ins, gs', g1, g2, g3, g4, g5⟩ : ∃ ins gs', ins ≤ i ∧ gs'.length = N ∧ (qs ++ nwE q perm gs) = outE E q perm ins gs' i ∧ (∀ j, j < ins → (E j).k < q) ∧ (∀ j, ins ≤ j → j < i → q < (E j).k) := by
          rcases HR2.out.form with ⟨e, _⟩ | ⟨_, hh⟩
          · cases e
          · exact hh
        refine ⟨HR2.out.below, .inr ⟨HR2.out.free, v2, ins, gs', rfl, g1, g2, g4, g5, ?_, ?_⟩⟩
        · rw [← g3]; exact HR2.out.own
        · rw [← g3]; exact HR2.out.ok
def noE : Pe := ⟨0, 0, 0, 0, 0, fun _ => 0⟩
/-- A row of pages of one's own, as a row. -/
theorem row_ofE {W : World} {B B' : Nat} {v : Value} {qs : List Pe} (ho : W.ownsRow B 62 3 v qs.length (rowE qs)) (hok : ∀ y ∈ qs, okE B' W y) (hne : 0 < qs.length) : ∃ la cap, v = .slice (some ⟨la, 0, none⟩) qs.length cap ∧ Row W la 0 qs.length (fun i => (qs.getD i noE).k) (fun i => (qs.getD i noE).p) (fun i j => (qs.getD i noE).Y j) (fun i => (qs.getD i noE).g) (fun i => (qs.getD i noE).o) (fun i => (qs.getD i noE).c) := by
  rcases ho.2 with ⟨_, hz⟩ | ⟨g, cap, cur, rfl, hg, hh, hnc, _, hcs, htk⟩
  · omega
  have cell : ∀ j u, j < qs.length * 3 → (rowE qs)[j]? = some u → W.cell? ⟨g, 0 + j, none⟩ = some u := by
    intro j u hj hu
    rw [← htk, List.getElem?_take_of_lt hj] at hu
    simp only [World.cell?, hh, Nat.zero_add]
    simpa using hu
  have get : ∀ i (hi : i < qs.length), qs.getD i noE = qs[i] := fun i hi => by rw [List.getD_eq_getElem?_getD, List.getElem?_eq_getElem hi]; rfl
  refine ⟨g, cap, rfl, fun i hi => ?_, fun i hi => ?_, fun i hi => ?_, fun i hi j hj => ?_⟩
  · rw [cell _ _ (by omega) (rowE_get qs i hi).1, get i hi]
  · rw [Nat.add_assoc, cell _ _ (by omega) (rowE_get qs i hi).2.1, get i hi]
  · rw [Nat.add_assoc, cell _ _ (by omega) (rowE_get qs i hi).2.2, get i hi]
  · rw [get i hi]; exact (hok _ (List.getElem_mem hi)).data j hj
/-- The bytes behind a Map. -/
def ztB (B : Nat) (bt : Nat → Nat → Int) : Nat → Nat → Int := fun g j => if B ≤ g then 0 else bt g j
theorem Mpd.mm {w W : World} {b r : Nat} {ps : List Pgd} {bt : Nat → Nat → Int} {q perm : Int} {gs : List Nat} (h : Mpd w W b r ps q perm gs) (hM : Mm w b r ps bt) : Mm W b r (ps ++ nws q perm gs) (ztB w.heap.size bt) := by
  refine ⟨h.cell, h.map, fun x hx j hj => ?_, fun g j => ?_, fun x hx => ?_⟩
  · rcases List.mem_append.1 hx with hx | hx
    · have t := hM.data x hx j hj
      have hl := lt_of_cell t
      have hr : x.g ≠ r := fun e => by
        rw [e] at t
        simp only [World.cell?, hM.map] at t
        cases t
      have e := h.old x.g hl hr
      simp only [World.cell?, e] at t ⊢
      unfold ztB
      rw [if_neg (by omega)]
      exact t
    · obtain ⟨_, _, _, _, hg, _⟩ := nws_mem hx
      obtain ⟨h1, h2⟩ := h.new _ hg
      simp only [World.cell?, h2, ztB, if_pos h1]
      simpa using zB_at hj
  · unfold ztB
    split
    · omega
    · exact hM.small g j
  · rcases List.mem_append.1 hx with hx | hx
    · exact hM.caps x hx
    · obtain ⟨_, _, _, _, _, hc⟩ := nws_mem hx
      omega
section
variable {W : World} {b r len : Nat} {k p : Nat → Int} {Y : Nat → Nat → Int} {base : Nat} {ps : List Pgd}
/-- The pages as the document has them: none of the new ones lies where one is. -/
theorem Fr.free_iff (h : Fr W b r len k p Y base ps) (hal : ∀ i, i < len → k i % 4096 = 0) {q s : Int} (hq : q % 4096 = 0) (E : Nat → Pe) (hE : ∀ i, i < len → (E i).k = k i) : freeB ps q s = true ↔ s ≤ (4096 - (len : Int)) * 4096 ∧ ∀ i, i < len → ¬ metE E q (cntN s) i := by
  have hl := h.len
  constructor
  · intro hf
    obtain ⟨h1, h2⟩ := freeB_of hf
    rw [hl] at h1
    refine ⟨h1, fun t ht hm => ?_⟩
    obtain ⟨m1, m2⟩ := hm
    rw [hE t ht] at m1 m2
    have := hal t ht
    obtain ⟨i, hi⟩ : ∃ i : Nat, k t = q + 4096 * (i : Int) := ⟨((k t - q) / 4096).toNat, by omega⟩
    have t1 := h2 i ((cntN_iff i).1 (by omega))
    rw [← hi, h.pg_at (t := t) (by omega)] at t1
    cases t1
  · rintro ⟨h1, h2⟩
    refine freeB_true (by rw [hl]; exact h1) (fun i hi => ?_)
    cases hp : pg ps (q + 4096 * (i : Int)) with
    | none => rfl
    | some x =>
      obtain ⟨t, ht, _, hk⟩ := h.pg_idx hp
      have := (cntN_iff i).2 hi
      exact absurd (by unfold metE; rw [hE t (by omega)]; omega) (h2 t (by omega))
/-- The pages with the new ones among them rise. -/
theorem Fr.rises (h : Fr W b r len k p Y base ps) {q perm : Int} {ins : Nat} {gs : List Nat} (hi : ins ≤ len) (h1 : ∀ j, j < ins → k j < q) (h2 : ∀ j, ins ≤ j → j < len → q + 4096 * (gs.length : Int) ≤ k j) : (ps.take ins ++ nws q perm gs ++ ps.drop ins).Pairwise (fun x y => x.k < y.k) := by
  have hl := h.len
  have at_ : ∀ j (hj : j < ps.length), ps[j].k = k j := fun j hj => (h.at_ j _ (List.getElem?_eq_getElem hj)).1
  have lo : ∀ x ∈ ps.take ins, x.k < q := by
    intro x hx
    obtain ⟨j, hj, rfl⟩ := List.getElem_of_mem hx
    rw [List.length_take] at hj
    rw [List.getElem_take, at_]
    exact h1 j (by omega)
  have hi' : ∀ x ∈ ps.drop ins, q + 4096 * (gs.length : Int) ≤ x.k := by
    intro x hx
    obtain ⟨j, hj, rfl⟩ := List.getElem_of_mem hx
    rw [List.length_drop] at hj
    rw [List.getElem_drop, at_]
    exact h2 (ins + j) (by omega) (by omega)
  rw [List.pairwise_append, List.pairwise_append]
  refine ⟨⟨h.up.sublist (List.take_sublist _ _), ?_, fun x hx y hy => ?_⟩, h.up.sublist (List.drop_sublist _ _), fun x hx y hy => ?_⟩
  · rw [List.pairwise_iff_getElem]
    intro i j hi hj hij
    rw [nws_get, nws_get]
    show q + 4096 * (i : Int) < q + 4096 * (j : Int)
    omega
  · have := lo x hx
    obtain ⟨i, _, e, _⟩ := nws_mem hy
    omega
  · have := hi' y hy
    rcases List.mem_append.1 hx with hx | hx
    · have := lo x hx; omega
    · obtain ⟨i, hi, e, _⟩ := nws_mem hx
      omega
theorem perm_ins (ps n : List Pgd) (ins : Nat) : (ps ++ n).Perm (ps.take ins ++ n ++ ps.drop ins) := by
  have e : ps ++ n = ps.take ins ++ (ps.drop ins ++ n) := by rw [← List.append_assoc, List.take_append_drop]
  rw [e, List.append_assoc]
  exact List.Perm.append_left _ List.perm_append_comm
def fA (bt : Nat → Nat → Int) (x : Pgd) : Int × Int × (Nat → Int) := (x.k, x.p, fun j => if j < 4096 then bt x.g j else 0)
def fQ (y : Pe) : Int × Int × (Nat → Int) := (y.k, y.p, fun j => if j < 4096 then y.Y j else 0)
theorem Fr.same_out (h : Fr W b r len k p Y base ps) (hY : ∀ i j, 0 ≤ Y i j ∧ Y i j < 256) (E : Nat → Pe) (hE : ∀ i, i < len → (E i).k = k i ∧ (E i).p = p i ∧ ∀ j, (E i).Y j = Y i j) {q perm : Int} {ins : Nat} {gs gs' : List Nat} (hi : ins ≤ len) (hg : gs.length = gs'.length) (hB : ∀ g ∈ gs, W.heap.size ≤ g) :
    (ps.take ins ++ nws q perm gs ++ ps.drop ins).map (fA (ztB W.heap.size (btOf W))) = (outE E q perm ins gs' len).map fQ := by
  have hl := h.len
  have one : ∀ j (hj : j < ps.length), fA (ztB W.heap.size (btOf W)) ps[j] = fQ (E j) := by
    intro j hj
    obtain ⟨a1, a2, a3⟩ := hE j (by omega)
    have hx := h.at_ j _ (List.getElem?_eq_getElem hj)
    have hd := (h.data j _ (List.getElem?_eq_getElem hj)).2
    unfold fA fQ
    rw [a1, a2, hx.1, hx.2.1]
    congr 2
    funext t
    split
    · rename_i ht
      have c := hd t ht
      unfold ztB
      rw [if_neg (by have := lt_of_cell c; omega), btOf_at c (hY j t), a3]
    · rfl
  unfold outE
  rw [List.map_append, List.map_append, List.map_append, List.map_append]
  congr 1
  · congr 1
    · apply List.ext_getElem
      · simp; omega
      · intro i h1 h2
        simp only [List.length_map, List.length_take] at h1
        simp only [List.getElem_map, List.getElem_take, List.getElem_range]
        exact one i (by omega)
    · apply List.ext_getElem
      · simp [nws_len, nwE_len, hg]
      · intro i h1 h2
        simp only [List.length_map, nws_len] at h1
        rw [List.getElem_map, List.getElem_map, nws_get]
        simp only [nwE, List.getElem_mapIdx, fA, fQ]
        congr 2
        funext t
        split
        · unfold ztB
          rw [if_pos (hB _ (List.getElem_mem _))]
        · rfl
  · apply List.ext_getElem
    · simp; omega
    · intro i h1 h2
      simp only [List.length_map, List.length_drop] at h1
      simp only [List.getElem_map, List.getElem_drop, List.getElem_range']
      rw [Nat.one_mul]
      exact one (ins + i) (by omega)
end
/-- Pages that came in, in a row, each with its bytes. -/
theorem PgArg.srcE {w : World} {x : Option Addr} {cap len : Nat} {k p : Nat → Int} {ao : Nat → Option Addr} {bl bc : Nat → Nat} {Y : Nat → Nat → Int} (h : PgArg w (.slice x len cap) len k p ao bl bc Y) (hbl : ∀ i, i < len → bl i = 4096) : ∃ E : Nat → Pe, (∀ W, Below w.heap.size w W → Ytndbkkldfinggab.srcE W x len E) ∧ (∀ W, Below w.heap.size w W → ∀ i, i < len → (E i).g < W.heap.size ∧ ∀ j, j < 4096 → W.cell? ⟨(E i).g, (E i).o + j, none⟩ = some (.int .u8 ((E i).Y j))) ∧ (∀ i, i < len → ((E i).k = k i ∧ (E i).p = p i ∧ ∀ j, (E i).Y j = Y i j) ∧ 0 ≤ (E i).k ∧ (E i).k < 18446744073709551616) := by
  obtain ⟨⟨a, c, e, _, hs⟩, _⟩ := h
  cases e
  rcases Nat.eq_zero_or_pos len with rfl | h0
  · exact ⟨fun _ => noE, fun W _ h => by omega, fun W _ i hi => by omega, fun i hi => by omega⟩
  obtain ⟨lb, lo, rfl, hS⟩ := hs h0
  have H : ∀ i, ∃ g : Nat, ∃ o : Nat, i < len → ao i = some ⟨g, o, none⟩ ∧ ∀ j, j < 4096 → w.cell? ⟨g, o + j, none⟩ = some (.int .u8 (Y i j)) := fun i => by
    by_cases hi : i < len
    · obtain ⟨g, o, h1, h2⟩ := hS.cs i hi (hbl i hi)
      exact ⟨g, o, fun _ => ⟨h1, h2⟩⟩
    · exact ⟨0, 0, fun h => absurd h hi⟩
  obtain ⟨g, hg⟩ := Classical.axiomOfChoice H
  obtain ⟨o, ho⟩ := Classical.axiomOfChoice hg
  refine ⟨fun i => ⟨k i, p i, g i, o i, bc i, Y i⟩, fun W hb _ => ⟨lb, lo, rfl, fun i hi => ?_⟩, fun W hb i hi => ?_, fun i hi => ⟨⟨rfl, rfl, fun _ => rfl⟩, hS.rk i hi⟩⟩
  · have hS' := hS.below hb
    refine ⟨hS'.c0 i hi, hS'.c1 i hi, ?_⟩
    have t := hS'.c2 i hi
    rw [(ho i hi).1, hbl i hi] at t
    exact t
  · have t := (ho i hi).2
    have hl := lt_of_cell (t 0 (by omega))
    exact ⟨Nat.lt_of_lt_of_le hl hb.size, fun j hj => (hb.cell (p := ⟨g i, o i + j, none⟩) hl).trans (t j hj)⟩
/-- What the rest of the law asks for: the document tells the same, and of pages that the memory has. -/
def after6 (v : Value) (b : Nat) (q perm s x : Int) (w2 : World) : Prop := Calls Try.prog 26 #[v, .int .u64 q, .int .i64 perm, .int .u64 s] w2 fun e w3 => ∃ vr, e = .returned (.tuple #[vr, .int .i64 x]) ∧ Below w2.heap.size w2 w3 ∧ Calls Try.prog 15 #[.pointer (some ⟨b, 0, none⟩), vr] w3 fun e w' => e = .returned (.bool true) ∧ Below w3.heap.size w3 w'
theorem both6 {w w1 : World} {x : Option Addr} {cap b r len : Nat} {k p : Nat → Int} {ao : Nat → Option Addr} {bl bc : Nat → Nat} {Y : Nat → Nat → Int} {base : Nat} {ps : List Pgd} (hF : Fr w1 b r len k p Y base ps) (hbr : r < b) (hA : PgArg w (.slice x len cap) len k p ao bl bc Y) (hB : Below w.heap.size w w1) (hwr : w.heap.size ≤ r) (hal : ∀ i, i < len → k i % 4096 = 0) (hbl : ∀ i, i < len → bl i = 4096) (hl : len ≤ 4096) (q perm s : Int) (q0 : 0 ≤ q) (q1 : q < 18446744073709551616) (s0 : 0 ≤ s) (s1 : s < 18446744073709551616) :
    Calls Try.prog 25 #[.pointer (some ⟨b, 0, none⟩), .int .u64 q, .int .i64 perm, .int .u64 s] w1 fun e w2 => ∃ x', e = .returned (.int .i64 x') ∧ Below r w1 w2 ∧ after6 (.slice x len cap) b q perm s x' w2 := by
  have hY := hA.by_
  have hM := hF.mm hY
  have hln := hF.len
  have hr1 := lt_of_some hF.map
  have sm : ∀ W, Below w1.heap.size w1 W → Calls Try.prog 15 #[.pointer (some ⟨b, 0, none⟩), .slice x len cap] W fun e w' => e = .returned (.bool true) ∧ Below W.heap.size W w' := fun W hb => same15 _ _ ps _ _ W (hM.below hb) (by omega) (arg_row hF hbl hY ((hA.below hB).below hb))
  obtain ⟨E, hE1, hE2, hE3⟩ := hA.srcE hbl
  have hup : ∀ i j, i < j → j < len → (E i).k < (E j).k := fun i j hij hj => by
    rw [(hE3 i (by omega)).1.1, (hE3 j hj).1.1]
    have P := (List.pairwise_iff_getElem.1 hF.up) i j (by omega) (by omega) hij
    rw [(hF.at_ i _ (List.getElem?_eq_getElem (by omega))).1, (hF.at_ j _ (List.getElem?_eq_getElem (by omega))).1] at P
    exact P
  by_cases hG : argB q s
  · cases hp : permB perm with
    | false =>
      refine (map_perm _ q perm s q0 s0 hG hp w1).mono ?_
      rintro e w2 ⟨rfl, rfl⟩
      refine ⟨21, rfl, Below.refl _ _, ?_⟩
      refine (rmap_perm _ q perm s q0 s0 hG hp _).mono ?_
      rintro e w3 ⟨rfl, rfl⟩
      exact ⟨_, rfl, Below.refl _ _, sm _ (Below.refl _ _)⟩
    | true =>
      have iff := hF.free_iff hal (q := q) (s := s) hG.1 E (fun i hi => (hE3 i hi).1.1)
      cases hf : freeB ps q s with
      | false =>
        refine (map_page b r ps _ q perm s w1 hM (by omega) q0 s0 hG hp hf).mono ?_
        rintro e w2 ⟨rfl, hb2⟩
        refine ⟨20, rfl, hb2.mono (by omega), ?_⟩
        by_cases hc : s ≤ (4096 - (len : Int)) * 4096
        · have hB2 := hB.trans (hb2.mono (by omega))
          refine (rmap_run x len cap E q perm s w2 (hE1 w2 hB2) (hE2 w2 hB2) hup (fun i hi => (hE3 i hi).2) hl q0 s0 hG hp hc).mono ?_
          rintro e w3 ⟨hb3, ⟨rfl, _⟩ | ⟨hno, _⟩⟩
          · exact ⟨_, rfl, hb3, sm _ (hb2.trans (hb3.mono hb2.size))⟩
          · rw [iff.2 ⟨hc, hno⟩] at hf
            cases hf
        · refine (rmap_many x len cap q perm s q0 s0 hG hp hl hc w2).mono ?_
          rintro e w3 ⟨rfl, rfl⟩
          exact ⟨_, rfl, Below.refl _ _, sm _ hb2⟩
      | true =>
        obtain ⟨hc, hno⟩ := iff.1 hf
        refine (map_ok b r ps _ q perm s w1 hM hbr (by omega) q0 s0 hG hp hf).mono ?_
        rintro e w2 ⟨rfl, gs, hgl, hMp⟩
        have hB2 := hB.trans (hMp.below.mono hwr)
        refine ⟨0, rfl, hMp.below, ?_⟩
        refine (rmap_run x len cap E q perm s w2 (hE1 w2 hB2) (hE2 w2 hB2) hup (fun i hi => (hE3 i hi).2) hl q0 s0 hG hp hc).mono ?_
        rintro e w3 ⟨hb3, ⟨_, i, hi, hm⟩ | ⟨_, v', ins, gs', rfl, hins, hgl', hlo, hhi, hown, hok⟩⟩
        · exact absurd hm (hno i hi)
        · refine ⟨v', rfl, hb3, ?_⟩
          have hol := outE_len E q perm gs' hins
          have hlo' : ∀ j, j < ins → k j < q := fun j hj => by rw [← (hE3 j (by omega)).1.1]; exact hlo j hj
          have hhi' : ∀ j, ins ≤ j → j < len → q + 4096 * (gs.length : Int) ≤ k j := fun j hj hjl => by
            have h1 := hhi j hj hjl
            have h2 := hno j hjl
            have e := (hE3 j hjl).1.1
            unfold metE at h2
            rw [e] at h1 h2
            rw [hgl]
            omega
          have hri := hF.rises (perm := perm) hins hlo' hhi'
          have hso := hF.same_out hY E (fun i hi => (hE3 i hi).1) (q := q) (perm := perm) hins (hgl.trans hgl'.symm) (fun g hg => (hMp.new g hg).1)
          have hpm := perm_ins ps (nws q perm gs) ins
          have hll : (ps ++ nws q perm gs).length = (outE E q perm ins gs' len).length := by rw [hol, List.length_append, nws_len, hln, hgl, hgl']
          have n1 : 0 < cntN s := (cntN_iff 0).2 (by have := hG.2.1; omega)
          have n2 : (cntN s : Int) ≤ 4096 := by unfold cntN; omega
          obtain ⟨la, lc, rfl, hrow⟩ := row_ofE hown hok (by omega)
          have pt : ∀ i, i < (outE E q perm ins gs' len).length → fA (ztB w1.heap.size (btOf w1)) (ordP (ps ++ nws q perm gs) i) = fQ ((outE E q perm ins gs' len).getD i noE) := by
            intro i hi
            have hi2 : i < (ps.take ins ++ nws q perm gs ++ ps.drop ins).length := by rw [← hpm.length_eq]; omega
            rw [ordP_perm hpm hri i hi2]
            have t := congrArg (fun l => l[i]?) hso
            simp only [List.getElem?_map, List.getElem?_eq_getElem hi2, List.getElem?_eq_getElem hi, Option.map_some] at t
            rw [List.getD_eq_getElem?_getD, List.getElem?_eq_getElem hi]
            exact Option.some.inj t
          have hrow2 := hrow.congr (k' := fun i => (ordP (ps ++ nws q perm gs) i).k) (p' := fun i => (ordP (ps ++ nws q perm gs) i).p) (Y' := fun i j => ztB w1.heap.size (btOf w1) (ordP (ps ++ nws q perm gs) i).g j) (fun i hi => (congrArg (fun z => z.1) (pt i hi)).symm) (fun i hi => (congrArg (fun z => z.2.1) (pt i hi)).symm) (fun i hi j hj => by
            have t := congrArg (fun z => z.2.2 j) (pt i hi)
            simp only [fA, fQ, if_pos hj] at t
            exact t.symm)
          rw [← hll] at hrow2
          exact same15 b r (ps ++ nws q perm gs) _ _ w3 ((hMp.mm hM).below hb3) (by rw [hll, hol, hgl']; omega) ⟨_, lc, by rw [hll], fun _ => ⟨la, 0, _, _, _, rfl, hrow2⟩⟩
  · refine (map_arg _ q perm s q0 q1 s0 s1 hG w1).mono ?_
    rintro e w2 ⟨rfl, rfl⟩
    refine ⟨1, rfl, Below.refl _ _, ?_⟩
    refine (rmap_arg _ q perm s q0 q1 s0 s1 hG _).mono ?_
    rintro e w3 ⟨rfl, rfl⟩
    exact ⟨_, rfl, Below.refl _ _, sm _ (Below.refl _ _)⟩
set_option maxRecDepth 20000 in
set_option maxHeartbeats 1000000 in
theorem law6 {v : Value} {len : Nat} {k p : Nat → Int} {ao : Nat → Option Addr} {bl bc : Nat → Nat} {Y : Nat → Nat → Int} (q perm s : Int) (q0 : 0 ≤ q) (q1 : q < 18446744073709551616) (s0 : 0 ≤ s) (s1 : s < 18446744073709551616) (w : World) (h : PgArg w v len k p ao bl bc Y) : Calls Try.prog 6 #[.agg #[v, .int .u64 q, .int .i64 perm, .int .u64 s]] w fun e w' => e = .returned (.bool true) ∧ Below w.heap.size w w' := by
  obtain ⟨vA, vc, hv, -, -⟩ := h.shape
  have HH : Hid (PgArg w v len k p ao bl bc Y) := h
  clear h
  subst hv
  go_enter Try.func6, Try.ntmps6
  go_wp2_with fail
  obtain ⟨w0, hw0⟩ : ∃ w0, (w.alloc (.cells #[.slice vA len vc, .int .u64 q, .int .i64 perm, .int .u64 s] 58)) = w0 := ⟨_, rfl⟩
  have hnew := World.alloc_heap_new w (.cells #[.slice vA len vc, .int .u64 q, .int .i64 perm, .int .u64 s] 58)
  rw [hw0] at hnew
  have k0 : w0.cell? ⟨w.heap.size, 0, none⟩ = some (.slice vA len vc) := by simp [World.cell?, hnew]
  have k1 : w0.cell? ⟨w.heap.size, 1, none⟩ = some (.int .u64 q) := by simp [World.cell?, hnew]
  have k2 : w0.cell? ⟨w.heap.size, 2, none⟩ = some (.int .i64 perm) := by simp [World.cell?, hnew]
  have k3 : w0.cell? ⟨w.heap.size, 3, none⟩ = some (.int .u64 s) := by simp [World.cell?, hnew]
  have hs : w.heap.size + 1 = w0.heap.size := by rw [← hw0]; simp
  have HB : Hid (Below w.heap.size w w0) := by have : Below w.heap.size w w0 := by { rw [← hw0]; exact (Below.refl _ w).alloc (Nat.le_refl _) _ }; exact this
  rw [hw0]
  clear hw0 hnew
  refine (from_any w0 (HH.out.below HB.out)).mono ?_
  rintro e w1 ⟨hb, hcs⟩
  have HB1 : Hid (Below w0.heap.size w0 w1) := hb
  have wl0 : w.heap.size < w0.heap.size := by omega
  have j0 : w1.cell? ⟨w.heap.size, 0, none⟩ = some (.slice vA len vc) := (hb.cell (p := ⟨w.heap.size, 0, none⟩) wl0).trans k0
  have j1 : w1.cell? ⟨w.heap.size, 1, none⟩ = some (.int .u64 q) := (hb.cell (p := ⟨w.heap.size, 1, none⟩) wl0).trans k1
  have j2 : w1.cell? ⟨w.heap.size, 2, none⟩ = some (.int .i64 perm) := (hb.cell (p := ⟨w.heap.size, 2, none⟩) wl0).trans k2
  have j3 : w1.cell? ⟨w.heap.size, 3, none⟩ = some (.int .u64 s) := (hb.cell (p := ⟨w.heap.size, 3, none⟩) wl0).trans k3
  have hz1 := hb.size
  have HW1 : Hid (Below w.heap.size w w1) := HB.out.trans (hb.mono (by omega))
  clear hb k0 k1 k2 k3
  have HSp : Hid (∀ W, Calls Try.prog 10 #[] W fun e w' => e = .returned (.bool true) ∧ Below W.heap.size W w') := speaks11
  rcases hcs with ⟨hne, rfl⟩ | ⟨hz, hl, rfl, ps, hF⟩
  · have hnb : (errE len k p bl != 0) = true := by simpa using hne
    generalize errE len k p bl = er at *
    go_wp2_with fail
    refine (HSp.out _).mono ?_
    rintro e w2 ⟨rfl, hb⟩
    have HB2 : Hid (Below w.heap.size w w2) := HW1.out.trans (hb.mono HW1.out.size)
    clear hb
    go_wp2
    go_ret
    exact ⟨rfl, HB2.out⟩
  · have hfe : fromE k p bl len = 0 := by unfold errE at hz; rw [if_neg (by omega)] at hz; exact hz
    have HM : Hid (Calls Try.prog 25 #[.pointer (some ⟨w0.heap.size + 1, 0, none⟩), .int .u64 q, .int .i64 perm, .int .u64 s] w1 fun e w2 => ∃ x', e = .returned (.int .i64 x') ∧ Below w0.heap.size w1 w2 ∧ after6 (.slice vA len vc) (w0.heap.size + 1) q perm s x' w2) := both6 hF (by omega) HH.out HW1.out (by omega) (fromE_al len hfe) (fromE_bl len hfe) hl q perm s q0 q1 s0 s1
    clear hF hfe hz HH
    go_wp2_with fail
    refine HM.out.mono ?_
    rintro e w2 ⟨x, rfl, hb2, ha⟩
    have HA : Hid (Calls Try.prog 26 #[.slice vA len vc, .int .u64 q, .int .i64 perm, .int .u64 s] w2 fun e w3 => ∃ vr, e = .returned (.tuple #[vr, .int .i64 x]) ∧ Below w2.heap.size w2 w3 ∧ Calls Try.prog 15 #[.pointer (some ⟨w0.heap.size + 1, 0, none⟩), vr] w3 fun e w' => e = .returned (.bool true) ∧ Below w3.heap.size w3 w') := ha
    have HW2 : Hid (Below w.heap.size w w2) := HW1.out.trans (hb2.mono (by omega))
    have p0 : w2.cell? ⟨w.heap.size, 0, none⟩ = some (.slice vA len vc) := (hb2.cell (p := ⟨w.heap.size, 0, none⟩) wl0).trans j0
    have p1 : w2.cell? ⟨w.heap.size, 1, none⟩ = some (.int .u64 q) := (hb2.cell (p := ⟨w.heap.size, 1, none⟩) wl0).trans j1
    have p2 : w2.cell? ⟨w.heap.size, 2, none⟩ = some (.int .i64 perm) := (hb2.cell (p := ⟨w.heap.size, 2, none⟩) wl0).trans j2
    have p3 : w2.cell? ⟨w.heap.size, 3, none⟩ = some (.int .u64 s) := (hb2.cell (p := ⟨w.heap.size, 3, none⟩) wl0).trans j3
    clear hb2 ha HM j0 j1 j2 j3
    go_wp2_with fail
    refine HA.out.mono ?_
    rintro e w3 ⟨vr, rfl, hb3, hsm⟩
    have HS : Hid (Calls Try.prog 15 #[.pointer (some ⟨w0.heap.size + 1, 0, none⟩), vr] w3 fun e w' => e = .returned (.bool true) ∧ Below w3.heap.size w3 w') := hsm
    have HW3 : Hid (Below w.heap.size w w3) := HW2.out.trans (hb3.mono HW2.out.size)
    clear hb3 hsm HA
    go_wp2_with fail
    refine HS.out.mono ?_
    rintro e w4 ⟨rfl, hb4⟩
    have HW4 : Hid (Below w.heap.size w w4) := HW3.out.trans (hb4.mono HW3.out.size)
    clear hb4
    go_wp2_with fail
    refine (HSp.out _).mono ?_
    rintro e w5 ⟨rfl, hb5⟩
    have HW5 : Hid (Below w.heap.size w w5) := HW4.out.trans (hb5.mono HW4.out.size)
    clear hb5
    go_wp2
    go_ret
    exact ⟨rfl, HW5.out⟩
end Go.Proofs.Ytndbkkldfinggab
