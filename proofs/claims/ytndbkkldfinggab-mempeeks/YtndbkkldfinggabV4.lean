/- Has a memory just some pages (same)? -/
import Derived.Test.YtndbkkldfinggabV3
import Derived.Test.YtndbkkldfinggabU6
namespace Go.Proofs.Ytndbkkldfinggab
open Go.RowKit Go.Shelf
set_option maxRecDepth 20000 in
set_option maxHeartbeats 1000000 in
theorem pages34_zero (a1 a2 : Option Addr) (ca cb : Nat) (w : World) : Calls Try.prog 34 #[.slice a1 0 ca, .slice a2 0 cb] w fun e w' => e = .returned (.bool true) ∧ w' = w := by
  go_enter Try.func34, Try.ntmps34
  go_wp2
  go_loopw [13] (fun x wr => x = .int .i64 0 ∧ wr = w) (fun _ _ => 0)
  case atStart => exact ⟨rfl, rfl⟩
  case round =>
    obtain ⟨rfl, rfl⟩ := hrel
    go_wp2
    go_ret
    exact ⟨rfl, rfl⟩
theorem rowP_get : ∀ (qs : List Pgd) (i : Nat) (h : i < qs.length), (rowP qs)[i * 3]? = some (.int .u64 qs[i].k) ∧ (rowP qs)[i * 3 + 1]? = some (.int .i64 qs[i].p) ∧ (rowP qs)[i * 3 + 2]? = some (.slice (some ⟨qs[i].g, 0, none⟩) 4096 qs[i].c)
  | [], i, h => by cases h
  | y :: r, 0, _ => by simp [rowP]
  | y :: r, i + 1, h => by
    have t := rowP_get r i (by simpa using h)
    have e : rowP (y :: r) = .int .u64 y.k :: .int .i64 y.p :: .slice (some ⟨y.g, 0, none⟩) 4096 y.c :: rowP r := rfl
    rw [e, show (i + 1) * 3 = i * 3 + 3 by omega]
    simpa using t
/-- What Pages made, as a row. -/
theorem row_made {W : World} {B : Nat} {ps : List Pgd} {bt : Nat → Nat → Int} {v : Value} {qs : List Pgd} (hne : 0 < ps.length) (ho : W.ownsRow B 62 3 v ps.length (rowP qs)) (hc : Cops B ps bt W (List.finRange ps.length) qs) :
    ∃ la cap, v = .slice (some ⟨la, 0, none⟩) ps.length cap ∧ Row W la 0 ps.length (fun i => (ordP ps i).k) (fun i => (ordP ps i).p) (fun i j => bt (ordP ps i).g j) (fun i => (qs.getD i noP).g) (fun _ => 0) (fun i => (qs.getD i noP).c) := by
  rcases ho.2 with ⟨_, hz⟩ | ⟨g, cap, cur, rfl, hg, hh, hnc, _, hcs, htk⟩
  · omega
  obtain ⟨hl, hcc⟩ := hc
  rw [List.length_finRange] at hl
  have cell : ∀ j u, j < ps.length * 3 → (rowP qs)[j]? = some u → W.cell? ⟨g, 0 + j, none⟩ = some u := by
    intro j u hj hu
    rw [← htk, List.getElem?_take_of_lt hj] at hu
    simp only [World.cell?, hh, Nat.zero_add]
    simpa using hu
  have cop : ∀ i (hi : i < ps.length), Cop B bt W (ordP ps i) (qs.getD i noP) := fun i hi => by
    have t := hcc i ⟨i, hi⟩ qs[i] (by simp [hi]) (List.getElem?_eq_getElem (by omega))
    rw [List.getD_eq_getElem?_getD, List.getElem?_eq_getElem (by omega)]
    exact t
  have get : ∀ i (hi : i < ps.length), qs.getD i noP = qs[i]'(by omega) := fun i hi => by rw [List.getD_eq_getElem?_getD, List.getElem?_eq_getElem (by omega)]; rfl
  refine ⟨g, cap, rfl, fun i hi => ?_, fun i hi => ?_, fun i hi => ?_, fun i hi j hj => ?_⟩
  · rw [cell _ _ (by omega) (rowP_get qs i (by omega)).1, ← get i hi, (cop i hi).k]
  · rw [Nat.add_assoc, cell _ _ (by omega) (rowP_get qs i (by omega)).2.1, ← get i hi, (cop i hi).p]
  · rw [Nat.add_assoc, cell _ _ (by omega) (rowP_get qs i (by omega)).2.2, ← get i hi]
  · rw [Nat.zero_add]; exact (cop i hi).data j hj
theorem Row.below {W W' : World} {lb lo n : Nat} {k p : Nat → Int} {Y : Nat → Nat → Int} {g o c : Nat → Nat} (h : Row W lb lo n k p Y g o c) (hb : Below W.heap.size W W') : Row W' lb lo n k p Y g o c :=
  ⟨fun i hi => (hb.cell (p := ⟨lb, lo + i * 3, none⟩) (lt_of_cell (h.c0 i hi))).trans (h.c0 i hi), fun i hi => (hb.cell (p := ⟨lb, lo + i * 3 + 1, none⟩) (lt_of_cell (h.c1 i hi))).trans (h.c1 i hi), fun i hi => (hb.cell (p := ⟨lb, lo + i * 3 + 2, none⟩) (lt_of_cell (h.c2 i hi))).trans (h.c2 i hi), fun i hi j hj => (hb.cell (p := ⟨g i, o i + j, none⟩) (lt_of_cell (h.cs i hi j hj))).trans (h.cs i hi j hj)⟩
theorem Row.congr {W : World} {lb lo n : Nat} {k p k' p' : Nat → Int} {Y Y' : Nat → Nat → Int} {g o c : Nat → Nat} (h : Row W lb lo n k p Y g o c) (hk : ∀ i, i < n → k i = k' i) (hp : ∀ i, i < n → p i = p' i) (hY : ∀ i, i < n → ∀ j, j < 4096 → Y i j = Y' i j) : Row W lb lo n k' p' Y' g o c :=
  ⟨fun i hi => by rw [h.c0 i hi, hk i hi], fun i hi => by rw [h.c1 i hi, hp i hi], h.c2, fun i hi j hj => by rw [h.cs i hi j hj, hY i hi j hj]⟩
set_option maxHeartbeats 1000000 in
/-- same, where it tells true. -/
theorem same15 (b r : Nat) (ps : List Pgd) (bt : Nat → Nat → Int) (vl : Value) (w : World) (h : Mm w b r ps bt) (hlen : ps.length ≤ 65536)
    (hv : ∃ a cap, vl = .slice a ps.length cap ∧ (0 < ps.length → ∃ lb lo g o c, a = some ⟨lb, lo, none⟩ ∧ Row w lb lo ps.length (fun i => (ordP ps i).k) (fun i => (ordP ps i).p) (fun i j => bt (ordP ps i).g j) g o c)) :
    Calls Try.prog 15 #[.pointer (some ⟨b, 0, none⟩), vl] w fun e w' => e = .returned (.bool true) ∧ Below w.heap.size w w' := by
  obtain ⟨a, cap, rfl, hr⟩ := hv
  have HP : Hid (Calls Try.prog 35 #[.pointer (some ⟨b, 0, none⟩)] w fun e w' => ∃ v qs, e = .returned v ∧ w'.ownsRow w.heap.size 62 3 v ps.length (rowP qs) ∧ Cops w.heap.size ps bt w' (List.finRange ps.length) qs ∧ Below w.heap.size w w') := pages35 b r ps bt w h hlen
  have HR : Hid (0 < ps.length → ∃ lb lo g o c, a = some ⟨lb, lo, none⟩ ∧ Row w lb lo ps.length (fun i => (ordP ps i).k) (fun i => (ordP ps i).p) (fun i j => bt (ordP ps i).g j) g o c) := hr
  clear h hr
  go_enter Try.func15, Try.ntmps15
  go_wp2_with fail
  refine HP.out.mono ?_
  rintro e w1 ⟨v, qs, rfl, ho, hc, hb⟩
  have HB : Hid (Below w.heap.size w w1) := hb
  have HE : Hid (Calls Try.prog 34 #[v, .slice a ps.length cap] w1 fun e w' => e = .returned (.bool true) ∧ Below w1.heap.size w1 w') := by
    rcases Nat.eq_zero_or_pos ps.length with h0 | h0
    · have hv : ∃ x y, v = .slice x 0 y := by
        rcases ho.2 with ⟨rfl, _⟩ | ⟨g, cap, cur, rfl, _⟩
        · exact ⟨none, 0, rfl⟩
        · exact ⟨_, _, by rw [h0]⟩
      obtain ⟨x, y, rfl⟩ := hv
      rw [h0]
      have t := (pages34_zero x a y cap w1).mono (R' := fun e w' => e = .returned (.bool true) ∧ Below w1.heap.size w1 w') (fun e w' ⟨h1, h2⟩ => ⟨h1, h2 ▸ Below.refl _ _⟩)
      exact t
    · obtain ⟨la, ca, rfl, hrow⟩ := row_made h0 ho hc
      obtain ⟨lb, lo, g, o, c, rfl, hrow2⟩ := HR.out h0
      exact pages34 la 0 lb lo ps.length ca cap _ _ _ _ _ _ _ _ _ w1 hrow (hrow2.below hb) hlen
  clear ho hc hb HR
  go_wp2_with fail
  refine HE.out.mono ?_
  rintro e w2 ⟨rfl, hb2⟩
  have HB2 : Hid (Below w.heap.size w w2) := HB.out.trans (hb2.mono HB.out.size)
  clear hb2
  go_wp2
  go_ret
  exact ⟨rfl, HB2.out⟩
/-- Of pages that came in: the i-th page comes as the i-th. -/
theorem Fr.ordP {W : World} {b r i : Nat} {k p : Nat → Int} {Y : Nat → Nat → Int} {base : Nat} {ps : List Pgd} (h : Fr W b r i k p Y base ps) (t : Nat) (ht : t < ps.length) : ordP ps t = ps[t] := by
  unfold Ytndbkkldfinggab.ordP
  rw [keysS_sorted h.up]
  have e : (ps.map (·.k)).getD t 0 = k t := by
    rw [List.getD_eq_getElem?_getD, List.getElem?_map, List.getElem?_eq_getElem ht]
    exact (h.at_ t _ (List.getElem?_eq_getElem ht)).1
  rw [e, h.pg_at ht]
  rfl
end Go.Proofs.Ytndbkkldfinggab
