/- A memory of pages that came in (From). -/
import Derived.Test.YtndbkkldfinggabF2
namespace Go.Proofs.Ytndbkkldfinggab
open Go.RowKit Go.Shelf
/-- Pages that lie in a slice: their Bases, their Perms, their Bytes. -/
structure PgSrc (W : World) (lb lo len : Nat) (k p : Nat → Int) (ao : Nat → Option Addr) (bl bc : Nat → Nat) (Y : Nat → Nat → Int) : Prop where
  c0 : ∀ i, i < len → W.cell? ⟨lb, lo + i * 3, none⟩ = some (.int .u64 (k i))
  c1 : ∀ i, i < len → W.cell? ⟨lb, lo + i * 3 + 1, none⟩ = some (.int .i64 (p i))
  c2 : ∀ i, i < len → W.cell? ⟨lb, lo + i * 3 + 2, none⟩ = some (.slice (ao i) (bl i) (bc i))
  cs : ∀ i, i < len → bl i = 4096 → ∃ g o, ao i = some ⟨g, o, none⟩ ∧ ∀ j, j < 4096 → W.cell? ⟨g, o + j, none⟩ = some (.int .u8 (Y i j))
  by_ : ∀ i j, 0 ≤ Y i j ∧ Y i j < 256
  rk : ∀ i, i < len → 0 ≤ k i ∧ k i < 18446744073709551616
theorem PgSrc.below {W W' : World} {lb lo len : Nat} {k p : Nat → Int} {ao : Nat → Option Addr} {bl bc : Nat → Nat} {Y : Nat → Nat → Int} (h : PgSrc W lb lo len k p ao bl bc Y) (hb : Below W.heap.size W W') : PgSrc W' lb lo len k p ao bl bc Y :=
  ⟨fun i hi => (hb.cell (p := ⟨lb, lo + i * 3, none⟩) (lt_of_cell (h.c0 i hi))).trans (h.c0 i hi), fun i hi => (hb.cell (p := ⟨lb, lo + i * 3 + 1, none⟩) (lt_of_cell (h.c1 i hi))).trans (h.c1 i hi), fun i hi => (hb.cell (p := ⟨lb, lo + i * 3 + 2, none⟩) (lt_of_cell (h.c2 i hi))).trans (h.c2 i hi),
   fun i hi hl => by obtain ⟨g, o, e, hc⟩ := h.cs i hi hl; exact ⟨g, o, e, fun j hj => (hb.cell (p := ⟨g, o + j, none⟩) (lt_of_cell (hc j hj))).trans (hc j hj)⟩, h.by_, h.rk⟩
/-- Is a page refused by its place or its length? -/
def badB (k : Nat → Int) (bl : Nat → Nat) (i : Nat) : Bool := decide (¬ k i % 4096 = 0) || (decide (281474976710656 ≤ k i) || ((decide (0 < i) && decide (k i ≤ k (i - 1))) || decide (¬ bl i = 4096)))
def stepE (k p : Nat → Int) (bl : Nat → Nat) (i : Nat) : Int := if badB k bl i then 20 else if permB (p i) then 0 else 21
/-- What is wrong first with the first n pages. -/
def fromE (k p : Nat → Int) (bl : Nat → Nat) : Nat → Int
  | 0 => 0
  | n + 1 => if fromE k p bl n = 0 then stepE k p bl n else fromE k p bl n
theorem fromE_stays {k p : Nat → Int} {bl : Nat → Nat} {i : Nat} (h : ¬ fromE k p bl i = 0) : ∀ n, i ≤ n → fromE k p bl n = fromE k p bl i
  | 0, hn => by obtain rfl : i = 0 := by omega
                rfl
  | n + 1, hn => by
    by_cases e : i = n + 1
    · rw [e]
    · have t := fromE_stays h n (by omega)
      rw [fromE, t, if_neg h]
theorem fromE_bad {k p : Nat → Int} {bl : Nat → Nat} {i n : Nat} (h0 : fromE k p bl i = 0) (hi : i < n) {v : Int} (hv : stepE k p bl i = v) (hv0 : ¬ v = 0) : fromE k p bl n = v := by
  have e : fromE k p bl (i + 1) = v := by rw [fromE, if_pos h0, hv]
  rw [fromE_stays (i := i + 1) (by rw [e]; exact hv0) n (by omega), e]
/-- A memory that is being made: its first i pages. -/
structure Fr (W : World) (b r i : Nat) (k p : Nat → Int) (Y : Nat → Nat → Int) (base : Nat) (ps : List Pgd) : Prop where
  len : ps.length = i
  cell : W.cell? ⟨b, 0, none⟩ = some (.map (some r))
  map : W.heap[r]? = some (.map (entsFrom 0 ps).toArray ps.length)
  at_ : ∀ j x, ps[j]? = some x → x.k = k j ∧ x.p = p j ∧ 4096 ≤ x.c ∧ base ≤ x.g
  data : ∀ j x, ps[j]? = some x → (∃ cur, W.heap[x.g]? = some (.cells cur 5 (0, 0)) ∧ cur.size = x.c) ∧ ∀ t, t < 4096 → W.cell? ⟨x.g, t, none⟩ = some (.int .u8 (Y j t))
  apart : ps.Pairwise (fun x y => x.g < y.g)
  up : ps.Pairwise (fun x y => x.k < y.k)
theorem Fr.below_k {W : World} {b r i : Nat} {k p : Nat → Int} {Y : Nat → Nat → Int} {base : Nat} {ps : List Pgd} (h : Fr W b r i k p Y base ps) (hup : 0 < i → k (i - 1) < k i) : ∀ y ∈ ps, y.k < k i := by
  intro y hy
  obtain ⟨j, hj, rfl⟩ := List.getElem_of_mem hy
  have hl := h.len
  have hlast := h.at_ (i - 1) ps[i - 1] (List.getElem?_eq_getElem (by omega))
  by_cases e : j = i - 1
  · subst e; rw [hlast.1]; exact hup (by omega)
  · have := (List.pairwise_iff_getElem.1 h.up) j (i - 1) hj (by omega) (by omega)
    rw [hlast.1] at this
    have := hup (by omega)
    omega
theorem pg_none_of {ps : List Pgd} {q : Int} (h : ∀ y ∈ ps, y.k < q) : pg ps q = none := by
  unfold pg
  rw [List.find?_eq_none]
  intro y hy
  have := h y hy
  simp only [beq_iff_eq]
  omega
theorem Fr.lt {W : World} {b r i : Nat} {k p : Nat → Int} {Y : Nat → Nat → Int} {base : Nat} {ps : List Pgd} (h : Fr W b r i k p Y base ps) : ∀ y ∈ ps, y.g < W.heap.size := by
  intro y hy
  obtain ⟨j, hj, rfl⟩ := List.getElem_of_mem hy
  obtain ⟨cur, hc, _⟩ := (h.data j _ (List.getElem?_eq_getElem hj)).1
  exact lt_of_some hc
/-- A page more. -/
theorem Fr.snoc {W W1 : World} {b r i : Nat} {k p : Nat → Int} {Y : Nat → Nat → Int} {base : Nat} {ps : List Pgd} (h : Fr W b r i k p Y base ps) (hup : 0 < i → k (i - 1) < k i) (g c : Nat) (cur : Array Value) (hB : Below W.heap.size W W1) (hg : W.heap.size ≤ g) (hbase : base ≤ W.heap.size) (hc : 4096 ≤ c)
    (hcur : W1.heap[g]? = some (.cells cur 5 (0, 0))) (hcs : cur.size = c) (hY : ∀ t, t < 4096 → W1.cell? ⟨g, t, none⟩ = some (.int .u8 (Y i t))) (hbr : b ≠ r) :
    Fr (W1.putObj r (.map ((entsFrom 0 ps).toArray.push { key := .int .u64 (k i), val := .agg #[.int .u64 (k i), .int .i64 (p i), .slice (some ⟨g, 0, none⟩) 4096 c], born := ps.length }) (ps.length + 1))) b r (i + 1) k p Y base (ps ++ [⟨k i, p i, g, c⟩]) := by
  have hrl := lt_of_some h.map
  have hne : ∀ y : Nat, y ≠ r → (W1.putObj r (.map ((entsFrom 0 ps).toArray.push { key := .int .u64 (k i), val := .agg #[.int .u64 (k i), .int .i64 (p i), .slice (some ⟨g, 0, none⟩) 4096 c], born := ps.length }) (ps.length + 1))).heap[y]? = W1.heap[y]? := fun y hy => World.putObj_heap_other hy
  have hgr : g ≠ r := by omega
  have hold : ∀ y ∈ ps, y.g ≠ r := by
    intro y hy e
    obtain ⟨j, hj, rfl⟩ := List.getElem_of_mem hy
    obtain ⟨cur', hc', _⟩ := (h.data j _ (List.getElem?_eq_getElem hj)).1
    rw [e, h.map] at hc'
    cases hc'
  refine ⟨by simp [h.len], ?_, ?_, ?_, ?_, ?_, ?_⟩
  · simp only [World.cell?, hne b hbr]
    exact (hB.cell (p := ⟨b, 0, none⟩) (lt_of_cell h.cell)).trans h.cell
  · rw [World.putObj_heap_same (Nat.lt_of_lt_of_le hrl hB.size), entsFrom_snoc]
    simp [pval]
  · intro j x hx
    rcases Nat.lt_or_ge j ps.length with hj | hj
    · rw [List.getElem?_append_left hj] at hx; exact h.at_ j x hx
    · rw [List.getElem?_append_right hj] at hx
      obtain ⟨e, rfl⟩ : j - ps.length = 0 ∧ ⟨k i, p i, g, c⟩ = x := by
        rcases Nat.eq_zero_or_pos (j - ps.length) with e | e
        · rw [e] at hx; exact ⟨e, by simpa using hx⟩
        · rw [List.getElem?_eq_none (by simp; omega)] at hx; cases hx
      obtain rfl : j = i := by have := h.len; omega
      exact ⟨rfl, rfl, hc, by show base ≤ g; omega⟩
  · intro j x hx
    rcases Nat.lt_or_ge j ps.length with hj | hj
    · rw [List.getElem?_append_left hj] at hx
      obtain ⟨⟨cur', hc', hs'⟩, hd⟩ := h.data j x hx
      have hxm : x ∈ ps := List.mem_of_getElem? hx
      have e : (W1.putObj r (.map ((entsFrom 0 ps).toArray.push { key := .int .u64 (k i), val := .agg #[.int .u64 (k i), .int .i64 (p i), .slice (some ⟨g, 0, none⟩) 4096 c], born := ps.length }) (ps.length + 1))).heap[x.g]? = W.heap[x.g]? := (hne x.g (hold x hxm)).trans (hB.block x.g (h.lt x hxm))
      refine ⟨⟨cur', e.trans hc', hs'⟩, fun t ht => ?_⟩
      have := hd t ht
      simp only [World.cell?] at this ⊢
      rw [e]; exact this
    · rw [List.getElem?_append_right hj] at hx
      obtain ⟨e, rfl⟩ : j - ps.length = 0 ∧ ⟨k i, p i, g, c⟩ = x := by
        rcases Nat.eq_zero_or_pos (j - ps.length) with e | e
        · rw [e] at hx; exact ⟨e, by simpa using hx⟩
        · rw [List.getElem?_eq_none (by simp; omega)] at hx; cases hx
      obtain rfl : j = i := by have := h.len; omega
      refine ⟨⟨cur, (hne g hgr).trans hcur, hcs⟩, fun t ht => ?_⟩
      have := hY t ht
      simp only [World.cell?] at this ⊢
      rw [hne g hgr]; exact this
  · rw [List.pairwise_append]
    refine ⟨h.apart, List.pairwise_singleton _ _, fun x hx y hy => ?_⟩
    rw [List.mem_singleton] at hy
    subst hy
    exact Nat.lt_of_lt_of_le (h.lt x hx) hg
  · rw [List.pairwise_append]
    refine ⟨h.up, List.pairwise_singleton _ _, fun x hx y hy => ?_⟩
    rw [List.mem_singleton] at hy
    subst hy
    exact h.below_k hup x hx
end Go.Proofs.Ytndbkkldfinggab
