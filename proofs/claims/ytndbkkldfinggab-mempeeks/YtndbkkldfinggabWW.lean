/- The document's own find, asked, byteAt, number, Load, of whatever pages; the program's Load at whatever counts and places (W1 to W9 in one). -/
import Derived.Test.YtndbkkldfinggabV4
namespace Go.Proofs.Ytndbkkldfinggab
open Go.RowKit Go.Shelf
def hit (k : Nat → Int) (at_ : Int) (i : Nat) : Bool := decide (k i ≤ at_) && decide (at_ < k i + 4096)
/-- The place of the first page that has a byte. -/
def fi (k : Nat → Int) (n : Nat) (at_ : Int) : Int := match (List.range n).find? (hit k at_) with
  | some i => (i : Int)
  | none => -1
theorem fi_none {k : Nat → Int} {n : Nat} {at_ : Int} (h : ∀ j, j < n → hit k at_ j = false) : fi k n at_ = -1 := by
  unfold fi
  rw [List.find?_eq_none.2 (fun x hx => by rw [h x (List.mem_range.1 hx)]; simp)]
theorem fi_some {k : Nat → Int} {n : Nat} {at_ : Int} {i : Nat} (hi : i < n) (h : ∀ j, j < i → hit k at_ j = false) (hh : hit k at_ i = true) : fi k n at_ = i := by
  unfold fi
  have : (List.range n).find? (hit k at_) = some i := by
    rw [List.find?_eq_some_iff_getElem]
    refine ⟨hh, i, by simpa using hi, by simp, fun j hj => by simp [h j hj]⟩
  rw [this]
set_option maxRecDepth 20000 in
set_option maxHeartbeats 1000000 in
theorem find49 (lb lo n cap : Nat) (k p : Nat → Int) (ao : Nat → Option Addr) (bl bc : Nat → Nat) (Y : Nat → Nat → Int) (a : Int) (w : World) (h : PgSrc w lb lo n k p ao bl bc Y) (a0 : 0 ≤ a) (a1 : a < 18446744073709551616) (hn : n ≤ 65536) : Calls Try.prog 49 #[.slice (some ⟨lb, lo, none⟩) n cap, .int .u64 a] w fun e w' => e = .returned (.int .i64 (fi k n a)) ∧ w' = w := by
  have H : Hid (PgSrc w lb lo n k p ao bl bc Y) := h
  clear h
  go_enter Try.func49, Try.ntmps49
  go_wp2
  go_loopw [5] (fun x wr => ∃ i : Nat, i ≤ n ∧ x = .int .i64 i ∧ wr = w ∧ ∀ j, j < i → hit k a j = false) (fun x _ => n - (intOf x).toNat)
  case atStart => exact ⟨0, Nat.zero_le _, rfl, rfl, fun j hj => by omega⟩
  case round =>
    obtain ⟨i, hi, rfl, rfl, hno⟩ := hrel
    have HN : Hid (∀ j, j < i → hit k a j = false) := hno
    clear hno
    by_cases hlt : i < n
    · have c0 := H.out.c0 i hlt
      obtain ⟨r0, r1⟩ := H.out.rk i hlt
      have HHit : Hid (hit k a i = (decide (k i ≤ a) && decide (a < k i + 4096))) := rfl
      generalize k i = q at *
      by_cases h1 : q ≤ a
      · by_cases h2 : a < q + 4096
        · have h3 : a - q < 4096 := by omega
          have HF : Hid (fi k n a = i) := fi_some hlt HN.out (by rw [HHit.out]; simp [h1, h2])
          go_wp2
          go_ret
          exact ⟨by rw [HF.out]; rfl, rfl⟩
        · have h3 : ¬ a - q < 4096 := by omega
          have HF : Hid (hit k a i = false) := (by rw [HHit.out]; simp [h2] : hit k a i = false)
          go_wp2
          go_roundw
          case rel => exact ⟨i + 1, by omega, rfl, trivial, fun j hj => by rcases (by omega : j < i ∨ j = i) with h | rfl; exact HN.out j h; exact HF.out⟩
          case measure => simp [intOf]; omega
      · have HF : Hid (hit k a i = false) := (by rw [HHit.out]; simp [h1] : hit k a i = false)
        go_wp2
        go_roundw
        case rel => exact ⟨i + 1, by omega, rfl, trivial, fun j hj => by rcases (by omega : j < i ∨ j = i) with h | rfl; exact HN.out j h; exact HF.out⟩
        case measure => simp [intOf]; omega
    · obtain rfl : i = n := by omega
      have HF : Hid (fi k i a = -1) := fi_none HN.out
      go_wp2
      go_ret
      exact ⟨by rw [HF.out]; rfl, rfl⟩
theorem fi_range (k : Nat → Int) (n : Nat) (a : Int) : fi k n a = -1 ∨ ∃ i : Nat, i < n ∧ fi k n a = i := by
  unfold fi
  cases h : (List.range n).find? (hit k a) with
  | none => exact .inl rfl
  | some i => exact .inr ⟨i, by simpa using List.mem_of_find?_eq_some h, rfl⟩
/-- Is there no page for the byte j? -/
def lacks (k : Nat → Int) (len : Nat) (a : Int) (j : Nat) : Bool := decide (fi k len (a + (j : Int)) < 0)
/-- May the page of the byte j not be used so? -/
def bars (k p : Nat → Int) (len : Nat) (a perm : Int) (j : Nat) : Bool := bits .and .i64 (p (fi k len (a + (j : Int))).toNat) perm != perm
def askE (k p : Nat → Int) (len : Nat) (a : Int) (n : Nat) (perm : Int) : Int := if (List.range n).any (lacks k len a) then 20 else if (List.range n).any (bars k p len a perm) then 21 else 0
set_option maxRecDepth 20000 in
set_option maxHeartbeats 1000000 in
theorem asked32 (lb lo len cap : Nat) (k p : Nat → Int) (ao : Nat → Option Addr) (bl bc : Nat → Nat) (Y : Nat → Nat → Int) (a perm : Int) (n : Nat) (w : World) (h : PgSrc w lb lo len k p ao bl bc Y) (a0 : 0 ≤ a) (h48 : a + n ≤ 281474976710656) (a1 : a < 281474976710656) (hlen : len ≤ 65536) (hn : n ≤ 65536) : Calls Try.prog 32 #[.slice (some ⟨lb, lo, none⟩) len cap, .int .u64 a, .int .i64 n, .int .i64 perm] w fun e w' => e = .returned (.int .i64 (askE k p len a n perm)) ∧ w' = w := by
  have HF : Hid (∀ j : Nat, j < n → Calls Try.prog 49 #[.slice (some ⟨lb, lo, none⟩) len cap, .int .u64 (a + (j : Int))] w fun e w' => e = .returned (.int .i64 (fi k len (a + (j : Int)))) ∧ w' = w) := fun j hj => find49 lb lo len cap k p ao bl bc Y (a + j) w h (by omega) (by omega) hlen
  have HP : Hid (∀ i, i < len → w.cell? ⟨lb, lo + i * 3 + 1, none⟩ = some (.int .i64 (p i))) := h.c1
  clear h
  go_enter Try.func32, Try.ntmps32
  go_wp2
  go_loopw [9] (fun x wr => ∃ j : Nat, j ≤ n ∧ x = .int .i64 j ∧ wr = w ∧ ∀ t, t < j → lacks k len a t = false) (fun x _ => n - (intOf x).toNat)
  case atStart => exact ⟨0, Nat.zero_le _, rfl, rfl, fun j hj => by omega⟩
  case round =>
    obtain ⟨j, hj, rfl, rfl, hno⟩ := hrel
    have HN : Hid (∀ t, t < j → lacks k len a t = false) := hno
    clear hno
    by_cases hlt : j < n
    · have HC := HF.out j hlt
      have HH : Hid (Calls Try.prog 49 #[.slice (some ⟨lb, lo, none⟩) len cap, .int .u64 (a + (j : Int))] wr fun e w' => e = .returned (.int .i64 (fi k len (a + (j : Int)))) ∧ w' = wr) := HC
      clear HC
      go_wp2_with fail
      refine HH.out.mono ?_
      rintro e w1 ⟨rfl, e1⟩
      subst e1
      by_cases hl : fi k len (a + (j : Int)) < 0
      · have HL : Hid (askE k p len a n perm = 20) := by
          have t : (List.range n).any (lacks k len a) = true := List.any_eq_true.2 ⟨j, List.mem_range.2 hlt, by simp [lacks, hl]⟩
          exact (by unfold askE; rw [if_pos t] : askE k p len a n perm = 20)
        generalize fi k len (a + (j : Int)) = f at *
        go_wp2
        go_ret
        exact ⟨by rw [HL.out]; rfl, rfl⟩
      · have HL : Hid (lacks k len a j = false) := (by simp [lacks, hl] : lacks k len a j = false)
        generalize fi k len (a + (j : Int)) = f at *
        go_wp2
        go_roundw
        case rel => exact ⟨j + 1, by omega, rfl, trivial, fun t ht => by rcases (by omega : t < j ∨ t = j) with h | rfl; exact HN.out t h; exact HL.out⟩
        case measure => simp [intOf]; omega
    · obtain rfl : j = n := by omega
      go_wp2
      go_loopw [10] (fun x w' => ∃ i : Nat, i ≤ j ∧ x = .int .i64 i ∧ w' = wr ∧ ∀ t, t < i → bars k p len a perm t = false) (fun x _ => j - (intOf x).toNat)
      case atStart => exact ⟨0, Nat.zero_le _, rfl, rfl, fun j hj => by omega⟩
      case round =>
        obtain ⟨i, hi, rfl, rfl, hno⟩ := hrel
        have HB : Hid (∀ t, t < i → bars k p len a perm t = false) := hno
        clear hno
        by_cases hlt2 : i < j
        · have HC := HF.out i hlt2
          have hin : ∃ t : Nat, t < len ∧ fi k len (a + (i : Int)) = t := by
            rcases fi_range k len (a + (i : Int)) with h | h
            · have := HN.out i hlt2
              simp [lacks, h] at this
            · exact h
          obtain ⟨t, ht, hft⟩ := hin
          have hcp := HP.out t ht
          have HBi : Hid (bars k p len a perm i = (bits .and .i64 (p t) perm != perm)) := (by unfold bars; rw [hft]; rfl : bars k p len a perm i = (bits .and .i64 (p t) perm != perm))
          rw [hft] at HC
          have HH : Hid (Calls Try.prog 49 #[.slice (some ⟨lb, lo, none⟩) len cap, .int .u64 (a + (i : Int))] wr fun e w' => e = .returned (.int .i64 (t : Int)) ∧ w' = wr) := HC
          clear HC hft
          go_wp2_with fail
          refine HH.out.mono ?_
          rintro e w1 ⟨rfl, e1⟩
          subst e1
          by_cases hb : (bits .and .i64 (p t) perm != perm) = true
          · have HL : Hid (askE k p len a j perm = 21) := by
              have t1 : (List.range j).any (lacks k len a) = false := by rw [List.any_eq_false]; intro x hx; rw [HN.out x (List.mem_range.1 hx)]; simp
              have t2 : (List.range j).any (bars k p len a perm) = true := List.any_eq_true.2 ⟨i, List.mem_range.2 hlt2, by rw [HBi.out]; exact hb⟩
              exact (by unfold askE; rw [t1, t2]; rfl : askE k p len a j perm = 21)
            generalize hbb : bits .and .i64 (p t) perm = bb at *
            go_wp2
            go_ret
            exact ⟨by rw [HL.out]; rfl, rfl⟩
          · have hb' : (bits .and .i64 (p t) perm != perm) = false := by simpa using hb
            have HL : Hid (bars k p len a perm i = false) := (by rw [HBi.out]; exact hb' : bars k p len a perm i = false)
            generalize hbb : bits .and .i64 (p t) perm = bb at *
            go_wp2
            go_roundw
            case rel => exact ⟨i + 1, by omega, rfl, trivial, fun t ht => by rcases (by omega : t < i ∨ t = i) with h | rfl; exact HB.out t h; exact HL.out⟩
            case measure => simp [intOf]; omega
        · obtain rfl : i = j := by omega
          have HL : Hid (askE k p len a i perm = 0) := by
            have t1 : (List.range i).any (lacks k len a) = false := by rw [List.any_eq_false]; intro x hx; rw [HN.out x (List.mem_range.1 hx)]; simp
            have t2 : (List.range i).any (bars k p len a perm) = false := by rw [List.any_eq_false]; intro x hx; rw [HB.out x (List.mem_range.1 hx)]; simp
            exact (by unfold askE; rw [t1, t2]; rfl : askE k p len a i perm = 0)
          go_wp2
          go_ret
          exact ⟨by rw [HL.out]; rfl, rfl⟩
section
variable {W : World} {b r len : Nat} {k p : Nat → Int} {Y : Nat → Nat → Int} {base : Nat} {ps : List Pgd}
theorem Fr.hit_at (_h : Fr W b r len k p Y base ps) (ha : ∀ i, i < len → k i % 4096 = 0) {x : Int} {i : Nat} (hi : i < len) : hit k x i = true ↔ k i = bs x := by
  have := ha i hi
  unfold hit bs
  simp only [Bool.and_eq_true, decide_eq_true_eq]
  omega
theorem Fr.fi_some (h : Fr W b r len k p Y base ps) (ha : ∀ i, i < len → k i % 4096 = 0) {x : Int} {t : Nat} (ht : t < len) (hk : k t = bs x) : fi k len x = t := by
  refine Ytndbkkldfinggab.fi_some ht (fun j hj => ?_) ((h.hit_at ha ht).2 hk)
  have hl := h.len
  have P := List.pairwise_iff_getElem.1 h.up j t (by omega) (by omega) hj
  rw [(h.at_ j _ (List.getElem?_eq_getElem (by omega))).1, (h.at_ t _ (List.getElem?_eq_getElem (by omega))).1] at P
  cases e : hit k x j with
  | false => rfl
  | true => have := (h.hit_at ha (by omega)).1 e; omega
theorem Fr.fi_none (h : Fr W b r len k p Y base ps) (ha : ∀ i, i < len → k i % 4096 = 0) {x : Int} (hx : pg ps (bs x) = none) : fi k len x = -1 := by
  have hl := h.len
  refine Ytndbkkldfinggab.fi_none (fun j hj => ?_)
  cases e : hit k x j with
  | false => rfl
  | true =>
    have e1 := (h.hit_at ha hj).1 e
    rw [← e1, h.pg_at (t := j) (by omega)] at hx
    cases hx
theorem Fr.lacks_iff (h : Fr W b r len k p Y base ps) (ha : ∀ i, i < len → k i % 4096 = 0) (a : Int) (j : Nat) : lacks k len a j = true ↔ pg ps (bs (a + j)) = none := by
  have hl := h.len
  unfold lacks
  rw [decide_eq_true_eq]
  constructor
  · intro h1
    cases e : pg ps (bs (a + j)) with
    | none => rfl
    | some x =>
      obtain ⟨t, ht, _, hk⟩ := h.pg_idx e
      rw [h.fi_some ha (by omega) hk] at h1
      omega
  · intro h1
    rw [h.fi_none ha h1]; decide
theorem Fr.bars_eq (h : Fr W b r len k p Y base ps) (ha : ∀ i, i < len → k i % 4096 = 0) (a perm : Int) (j : Nat) {x : Pgd} (hx : pg ps (bs (a + j)) = some x) : bars k p len a perm j = badP x perm := by
  have hl := h.len
  obtain ⟨t, ht, e, hk⟩ := h.pg_idx hx
  unfold bars badP
  rw [h.fi_some ha (by omega) hk, ← e, (h.at_ t _ (List.getElem?_eq_getElem ht)).2.1]
  rfl
theorem any_congr_false {n : Nat} {f : Nat → Bool} (h : ∀ j, j < n → f j = false) : (List.range n).any f = false := by
  rw [List.any_eq_false]; intro x hx; rw [h x (List.mem_range.1 hx)]; simp
theorem any_true {n : Nat} {f : Nat → Bool} {j : Nat} (hj : j < n) (h : f j = true) : (List.range n).any f = true := List.any_eq_true.2 ⟨j, List.mem_range.2 hj, h⟩
theorem Fr.ask_use (h : Fr W b r len k p Y base ps) (ha : ∀ i, i < len → k i % 4096 = 0) (a perm : Int) (n : Nat) (a0 : 0 ≤ a) (n0 : 1 ≤ n) (n1 : n ≤ 8) : askE k p len a n perm = useE ps a n perm := by
  obtain ⟨f0, f1, f2, f3⟩ := bs_facts a0
  have z0 : bs (a + ((0 : Nat) : Int)) = bs a := by unfold bs at *; omega
  unfold askE useE
  cases hA : pg ps (bs a) with
  | none =>
    rw [if_pos (any_true (j := 0) (by omega) ((h.lacks_iff ha a 0).2 (by rw [z0]; exact hA)))]
  | some x =>
    simp only []
    by_cases hc : a + (n : Int) ≤ bs a + 4096
    · rw [if_pos hc]
      have hb : ∀ j : Nat, j < n → bs (a + j) = bs a := fun j hj => by unfold bs at *; omega
      rw [any_congr_false (fun j hj => by
        cases e : lacks k len a j with
        | false => rfl
        | true => have t := (h.lacks_iff ha a j).1 e; rw [hb j hj, hA] at t; cases t)]
      unfold e1
      cases hx : badP x perm with
      | false => rw [any_congr_false (fun j hj => by rw [h.bars_eq ha a perm j (by rw [hb j hj]; exact hA), hx])]; rfl
      | true => rw [any_true (j := 0) (by omega) (by rw [h.bars_eq ha a perm 0 (by rw [z0]; exact hA), hx])]; rfl
    · rw [if_neg hc]
      have zl : bs (a + ((n - 1 : Nat) : Int)) = bs a + 4096 := by unfold bs at *; omega
      have hb : ∀ j : Nat, j < n → bs (a + j) = bs a ∨ bs (a + j) = bs a + 4096 := fun j hj => by unfold bs at *; omega
      cases hB : pg ps (bs a + 4096) with
      | none => rw [if_pos (any_true (j := n - 1) (by omega) ((h.lacks_iff ha a (n - 1)).2 (by rw [zl]; exact hB)))]
      | some y =>
        simp only []
        rw [any_congr_false (fun j hj => by
          cases e : lacks k len a j with
          | false => rfl
          | true =>
            have t := (h.lacks_iff ha a j).1 e
            rcases hb j hj with e2 | e2
            · rw [e2, hA] at t; cases t
            · rw [e2, hB] at t; cases t)]
        unfold e2
        cases hy : badP y perm with
        | true => rw [any_true (j := n - 1) (by omega) (by rw [h.bars_eq ha a perm (n - 1) (by rw [zl]; exact hB), hy])]; rfl
        | false =>
          cases hx : badP x perm with
          | true => rw [any_true (j := 0) (by omega) (by rw [h.bars_eq ha a perm 0 (by rw [z0]; exact hA), hx])]; simp [e1, hx]
          | false =>
            rw [any_congr_false (fun j hj => by
              rcases hb j hj with e2 | e2
              · rw [h.bars_eq ha a perm j (by rw [e2]; exact hA), hx]
              · rw [h.bars_eq ha a perm j (by rw [e2]; exact hB), hy])]
            simp [e1, hx]
end
set_option maxRecDepth 20000 in
set_option maxHeartbeats 1000000 in
theorem byteAt43 (lb lo len cap : Nat) (k p : Nat → Int) (ao : Nat → Option Addr) (bl bc : Nat → Nat) (Y : Nat → Nat → Int) (a : Int) (t : Nat) (w : World) (h : PgSrc w lb lo len k p ao bl bc Y) (a0 : 0 ≤ a) (a1 : a < 18446744073709551616) (hlen : len ≤ 65536) (ht : t < len) (hf : fi k len a = t) (hb : bl t = 4096) (h1 : k t ≤ a) (h2 : a < k t + 4096) : Calls Try.prog 43 #[.slice (some ⟨lb, lo, none⟩) len cap, .int .u64 a] w fun e w' => e = .returned (.int .u8 (Y t (a - k t).toNat)) ∧ Below w.heap.size w w' := by
  have HF : Hid (Calls Try.prog 49 #[.slice (some ⟨lb, lo, none⟩) len cap, .int .u64 a] w fun e w' => e = .returned (.int .i64 (t : Int)) ∧ w' = w) := hf ▸ find49 lb lo len cap k p ao bl bc Y a w h a0 a1 hlen
  have c0 := h.c0 t ht
  have c1 := h.c1 t ht
  have c2 := h.c2 t ht
  obtain ⟨g, o, hao, hcs⟩ := h.cs t ht hb
  rw [hao, hb] at c2
  obtain ⟨r0, r1⟩ := h.rk t ht
  obtain ⟨j, hj⟩ : ∃ j : Nat, a - k t = j := ⟨(a - k t).toNat, by omega⟩
  have cj := hcs j (by omega)
  have e1 : (a - k t).toNat = j := by omega
  rw [e1]
  have hjl : j < 4096 := by omega
  have gl := lt_of_cell cj
  clear hf h hcs e1 hao hb
  generalize Y t j = y at *
  generalize k t = q at *
  generalize p t = pp at *
  generalize bc t = cc at *
  go_enter Try.func43, Try.ntmps43
  go_wp2_with fail
  refine HF.out.mono ?_
  rintro e w1 ⟨rfl, e1⟩
  subst e1
  have ll := lt_of_cell c0
  go_wp2
  go_ret
  exact ⟨rfl, (Below.refl _ _).alloc (Nat.le_refl _) _⟩
/-- The number of the bytes from i on. -/
def tailV (y : Nat → Int) (n i : Nat) : Int := sumV ((List.range' i (n - i)).map y)
theorem tailV_step (y : Nat → Int) {n i : Nat} (h : i < n) : tailV y n i = y i + 256 * tailV y n (i + 1) := by
  unfold tailV
  rw [show n - i = (n - (i + 1)) + 1 by omega, List.range'_succ]
  simp only [List.map_cons, sumV]
theorem tailV_bound (y : Nat → Int) (hy : ∀ j, 0 ≤ y j ∧ y j < 256) (n i : Nat) : 0 ≤ tailV y n i ∧ tailV y n i < 256 ^ (n - i) := by
  have t := sumV_bound ((List.range' i (n - i)).map y) (fun x hx => by obtain ⟨j, _, rfl⟩ := List.mem_map.1 hx; exact hy j)
  simpa [tailV] using t
set_option maxRecDepth 20000 in
set_option maxHeartbeats 1000000 in
theorem number33 (vl : Value) (a : Int) (n : Nat) (y : Nat → Int) (w : World) (a0 : 0 ≤ a) (a1 : a + n ≤ 281474976710656) (n1 : n ≤ 8) (hy : ∀ j, 0 ≤ y j ∧ y j < 256) (hb : ∀ j : Nat, j < n → ∀ W, Below w.heap.size w W → Calls Try.prog 43 #[vl, .int .u64 (a + (j : Int))] W fun e w' => e = .returned (.int .u8 (y j)) ∧ Below W.heap.size W w') : Calls Try.prog 33 #[vl, .int .u64 a, .int .i64 n] w fun e w' => e = .returned (.int .u64 (tailV y n 0)) ∧ Below w.heap.size w w' := by
  have HB : Hid (∀ j : Nat, j < n → ∀ W, Below w.heap.size w W → Calls Try.prog 43 #[vl, .int .u64 (a + (j : Int))] W fun e w' => e = .returned (.int .u8 (y j)) ∧ Below W.heap.size W w') := hb
  have HT : Hid (∀ i, i ≤ n → 0 ≤ tailV y n i ∧ tailV y n i < 256 ^ (n - i)) := fun i _ => tailV_bound y hy n i
  clear hb
  go_enter Try.func33, Try.ntmps33
  go_wp2
  go_loopw [7, 8] (fun x z wr => ∃ i : Nat, i ≤ n ∧ x = .int .u64 (tailV y n i) ∧ z = .int .i64 ((i : Int) - 1) ∧ Below w.heap.size w wr) (fun _ z _ => (intOf z + 1).toNat)
  case atStart => exact ⟨n, Nat.le_refl _, by simp [tailV, sumV], rfl, Below.refl _ _⟩
  case round =>
    obtain ⟨i, hi, rfl, rfl, hbw⟩ := hrel
    have HW : Hid (Below w.heap.size w wr) := hbw
    clear hbw
    rcases i with _ | i
    · go_wp2
      go_ret
      exact ⟨rfl, HW.out⟩
    · have HC : Hid (Calls Try.prog 43 #[vl, .int .u64 (a + (i : Int))] wr fun e w' => e = .returned (.int .u8 (y i)) ∧ Below wr.heap.size wr w') := HB.out i (by omega) wr HW.out
      have hz : ((i + 1 : Nat) : Int) - 1 = (i : Int) := by omega
      rw [hz]
      obtain ⟨t0, t1⟩ := HT.out (i + 1) hi
      have t2 : tailV y n (i + 1) < 72057594037927936 := by
        have : (256 : Int) ^ (n - (i + 1)) ≤ 72057594037927936 := by
          rcases (by omega : n - (i + 1) = 0 ∨ n - (i + 1) = 1 ∨ n - (i + 1) = 2 ∨ n - (i + 1) = 3 ∨ n - (i + 1) = 4 ∨ n - (i + 1) = 5 ∨ n - (i + 1) = 6 ∨ n - (i + 1) = 7) with e | e | e | e | e | e | e | e <;> rw [e] <;> decide
        omega
      have HS : Hid (tailV y n i = y i + 256 * tailV y n (i + 1)) := tailV_step y (by omega)
      obtain ⟨y0, y1⟩ := hy i
      generalize tailV y n (i + 1) = tv at *
      clear t1
      go_wp2_with fail
      refine HC.out.mono ?_
      rintro e w1 ⟨rfl, hb1⟩
      have HW1 : Hid (Below w.heap.size w w1) := HW.out.trans (hb1.mono HW.out.size)
      clear hb1
      go_wp2
      go_roundw
      case rel => exact ⟨i, by omega, by rw [HS.out]; congr 1; omega, rfl, HW1.out⟩
      case measure => simp [intOf]
def farB (a n : Int) : Prop := 281474976710656 ≤ a ∨ 281474976710656 - a < n
set_option maxHeartbeats 1000000 in
theorem number_odd (v : Value) (a n perm : Int) (w : World) (hn : ¬ (n = 1 ∨ n = 2 ∨ n = 4 ∨ n = 8)) : Calls Try.prog 30 #[v, .int .u64 a, .int .i64 n, .int .i64 perm] w fun e w' => e = .returned (.int .i64 1) ∧ w' = w := by
  have n1 : (n == 1) = false := by simp; omega
  have n2 : (n == 2) = false := by simp; omega
  have n4 : (n == 4) = false := by simp; omega
  have n8 : (n == 8) = false := by simp; omega
  go_enter Try.func30, Try.ntmps30
  go_wp2
  go_ret
  exact ⟨rfl, rfl⟩
set_option maxHeartbeats 1000000 in
theorem usable_far (v : Value) (a perm : Int) (n : Nat) (w : World) (a0 : 0 ≤ a) (a1 : a < 18446744073709551616) (n1 : n ≤ 8) (hf : farB a n) : Calls Try.prog 42 #[v, .int .u64 a, .int .i64 n, .int .i64 perm] w fun e w' => e = .returned (.int .i64 1) ∧ Below w.heap.size w w' := by
  have HB : Hid (∀ W, Calls Try.prog 44 #[.int .u64 a, .int .u64 (n : Int)] W fun e w' => e = .returned (.bool true) ∧ w' = W) := fun W => by
    unfold farB at hf
    by_cases h1 : 281474976710656 ≤ a
    · have h1b : decide (281474976710656 ≤ a) = true := by simpa using h1
      go_enter Try.func44, Try.ntmps44
      go_wp2
      go_ret
      exact ⟨rfl, rfl⟩
    · have h1b : decide (281474976710656 ≤ a) = false := by simpa using h1
      have h2 : 281474976710656 - a < (n : Int) := by omega
      go_enter Try.func44, Try.ntmps44
      go_wp2
      go_ret
      exact ⟨by simp, rfl⟩
  go_enter Try.func42, Try.ntmps42
  go_wp2_with fail
  refine (HB.out _).mono ?_
  rintro e w1 ⟨rfl, e1⟩
  subst e1
  go_wp2
  go_ret
  exact ⟨rfl, Below.refl _ _⟩
set_option maxHeartbeats 1000000 in
theorem number_far (v : Value) (a perm : Int) (n : Nat) (w : World) (a0 : 0 ≤ a) (a1 : a < 18446744073709551616) (hn : isN n) (hf : farB a n) : Calls Try.prog 30 #[v, .int .u64 a, .int .i64 n, .int .i64 perm] w fun e w' => e = .returned (.int .i64 1) ∧ Below w.heap.size w w' := by
  have HU : Hid (Calls Try.prog 42 #[v, .int .u64 a, .int .i64 n, .int .i64 perm] w fun e w' => e = .returned (.int .i64 1) ∧ Below w.heap.size w w') := usable_far v a perm n w a0 a1 (by unfold isN at hn; omega) hf
  clear hf
  rcases hn with rfl | rfl | rfl | rfl
  all_goals
    go_enter Try.func30, Try.ntmps30
    go_wp2_with fail
    refine HU.out.mono ?_
    rintro e w1 ⟨rfl, hb⟩
    go_wp2
    go_ret
    exact ⟨rfl, hb⟩
set_option maxHeartbeats 1000000 in
theorem load_err (v : Value) (a n x : Int) (w : World) (hx : ¬ x = 0) (h : Calls Try.prog 30 #[v, .int .u64 a, .int .i64 n, .int .i64 4] w fun e w' => e = .returned (.int .i64 x) ∧ Below w.heap.size w w') : Calls Try.prog 11 #[v, .int .u64 a, .int .i64 n] w fun e w' => e = .returned (.tuple #[.int .u64 0, .int .i64 x]) ∧ Below w.heap.size w w' := by
  have HU : Hid (Calls Try.prog 30 #[v, .int .u64 a, .int .i64 n, .int .i64 4] w fun e w' => e = .returned (.int .i64 x) ∧ Below w.heap.size w w') := h
  clear h
  go_enter Try.func11, Try.ntmps11
  go_wp2_with fail
  refine HU.out.mono ?_
  rintro e w1 ⟨rfl, hb⟩
  have HB : Hid (Below w.heap.size w w1) := hb
  clear hb
  go_wp2
  go_ret2
  exact ⟨rfl, HB.out⟩
/-- What Load tells of any count and place. -/
def lE (ps : List Pgd) (a n : Int) : Int := if n = 1 ∨ n = 2 ∨ n = 4 ∨ n = 8 then (if 281474976710656 ≤ a ∨ 281474976710656 - a < n then 1 else useE ps a n 4) else 1
def lV (ps : List Pgd) (bt : Nat → Nat → Int) (a n : Int) : Int := if lE ps a n = 0 then sumV (byts ps bt a n.toNat) else 0
theorem load_all (b r : Nat) (ps : List Pgd) (bt : Nat → Nat → Int) (a n : Int) (w : World) (h : Mm w b r ps bt) (a0 : 0 ≤ a) (a1 : a < 18446744073709551616) : Calls Try.prog 11 #[.pointer (some ⟨b, 0, none⟩), .int .u64 a, .int .i64 n] w fun e w' => e = .returned (.tuple #[.int .u64 (lV ps bt a n), .int .i64 (lE ps a n)]) ∧ Below w.heap.size w w' := by
  unfold lV
  by_cases hn : n = 1 ∨ n = 2 ∨ n = 4 ∨ n = 8
  · obtain ⟨m, rfl⟩ : ∃ m : Nat, n = m := ⟨n.toNat, by omega⟩
    have hm : isN m := by unfold isN; omega
    by_cases hf : 281474976710656 ≤ a ∨ 281474976710656 - a < (m : Int)
    · have e : lE ps a m = 1 := by unfold lE; rw [if_pos hn, if_pos hf]
      rw [e, if_neg (by decide)]
      exact load_err _ a m 1 w (by decide) (number_far _ a 4 m w a0 a1 hm hf)
    · have e : lE ps a m = useE ps a m 4 := by unfold lE; rw [if_pos hn, if_neg hf]
      rw [e]
      have t := load_any b r ps bt a m w h a0 hm (by omega)
      unfold loadV at t
      exact t
  · have e : lE ps a n = 1 := by unfold lE; rw [if_neg hn]
    rw [e, if_neg (by decide)]
    exact load_err _ a n 1 w (by decide) ((number_odd _ a n 4 w hn).mono fun e w' ⟨h1, h2⟩ => ⟨h1, h2 ▸ Below.refl _ _⟩)
set_option maxHeartbeats 1000000 in
theorem find_zero (x : Option Addr) (cap : Nat) (a : Int) (w : World) : Calls Try.prog 49 #[.slice x 0 cap, .int .u64 a] w fun e w' => e = .returned (.int .i64 (-1)) ∧ w' = w := by
  go_enter Try.func49, Try.ntmps49
  go_wp2
  go_loopw [5] (fun x wr => x = .int .i64 0 ∧ wr = w) (fun _ _ => 0)
  case atStart => exact ⟨rfl, rfl⟩
  case round =>
    obtain ⟨rfl, rfl⟩ := hrel
    go_wp2
    go_ret
    exact ⟨rfl, rfl⟩
set_option maxRecDepth 20000 in
set_option maxHeartbeats 1000000 in
theorem asked_zero (x : Option Addr) (cap : Nat) (a perm : Int) (n : Nat) (w : World) (a0 : 0 ≤ a) (h48 : a + n ≤ 281474976710656) (n0 : 1 ≤ n) (n1 : n ≤ 8) : Calls Try.prog 32 #[.slice x 0 cap, .int .u64 a, .int .i64 n, .int .i64 perm] w fun e w' => e = .returned (.int .i64 20) ∧ w' = w := by
  go_enter Try.func32, Try.ntmps32
  go_wp2
  go_loopw [9] (fun z wr => z = .int .i64 0 ∧ wr = w) (fun _ _ => 0)
  case atStart => exact ⟨rfl, rfl⟩
  case round =>
    obtain ⟨rfl, rfl⟩ := hrel
    go_wp2_with fail
    refine (find_zero x cap _ _).mono ?_
    rintro e w1 ⟨rfl, e1⟩
    subst e1
    go_wp2
    go_ret
    exact ⟨rfl, rfl⟩
set_option maxHeartbeats 1000000 in
theorem asked_far (v : Value) (a perm : Int) (n : Nat) (w : World) (a0 : 0 ≤ a) (a1 : a < 18446744073709551616) (n1 : n ≤ 8) (hf : 281474976710656 ≤ a ∨ 281474976710656 - a < (n : Int)) : Calls Try.prog 32 #[v, .int .u64 a, .int .i64 n, .int .i64 perm] w fun e w' => e = .returned (.int .i64 1) ∧ w' = w := by
  by_cases h1 : 281474976710656 ≤ a
  · have h1b : decide (281474976710656 ≤ a) = true := by simpa using h1
    go_enter Try.func32, Try.ntmps32
    go_wp2
    go_ret
    exact ⟨rfl, rfl⟩
  · have h1b : decide (281474976710656 ≤ a) = false := by simpa using h1
    have h2 : 281474976710656 - a < (n : Int) := by omega
    go_enter Try.func32, Try.ntmps32
    go_wp2
    go_ret
    exact ⟨rfl, rfl⟩
/-- asked, of pages that came in. -/
theorem asked_use {W0 w : World} {v : Value} {b r len : Nat} {k p : Nat → Int} {ao : Nat → Option Addr} {bl bc : Nat → Nat} {Y : Nat → Nat → Int} {base : Nat} {ps : List Pgd} (hF : Fr W0 b r len k p Y base ps) (ha : ∀ i, i < len → k i % 4096 = 0) (h : PgArg w v len k p ao bl bc Y) (hlen : len ≤ 4096) (a perm : Int) (n : Nat) (a0 : 0 ≤ a) (h48 : a + n ≤ 281474976710656) (hn : isN n) : Calls Try.prog 32 #[v, .int .u64 a, .int .i64 n, .int .i64 perm] w fun e w' => e = .returned (.int .i64 (useE ps a n perm)) ∧ w' = w := by
  obtain ⟨⟨x, cap, rfl, _, hs⟩, _⟩ := h
  have n0 : 1 ≤ n ∧ n ≤ 8 := by unfold isN at hn; omega
  rw [← hF.ask_use ha a perm n a0 n0.1 n0.2]
  rcases Nat.eq_zero_or_pos len with rfl | h0
  · have e : askE k p 0 a n perm = 20 := by
      unfold askE
      rw [if_pos (any_true (j := 0) (by omega) (by simp [lacks, fi]))]
    rw [e]
    exact asked_zero x cap a perm n w a0 h48 n0.1 n0.2
  · obtain ⟨lb, lo, rfl, hS⟩ := hs h0
    exact asked32 lb lo len cap k p ao bl bc Y a perm n w hS a0 h48 (by omega) (by omega) (by omega)
theorem fromE_bl {k p : Nat → Int} {bl : Nat → Nat} : ∀ n, fromE k p bl n = 0 → ∀ i, i < n → bl i = 4096
  | 0, _, _, h => by omega
  | n + 1, h, i, hi => by
    have h0 : fromE k p bl n = 0 := by
      by_cases e : fromE k p bl n = 0
      · exact e
      · rw [fromE, if_neg e] at h; exact absurd h e
    by_cases e : i = n
    · subst e
      rw [fromE, if_pos h0] at h
      unfold stepE at h
      split at h
      · cases h
      · rename_i hb
        unfold badB at hb
        by_cases ha : bl i = 4096
        · exact ha
        · simp [ha] at hb
    · exact fromE_bl n h0 i (by omega)
theorem PgArg.below' {W W' : World} {v : Value} {len : Nat} {k p : Nat → Int} {ao : Nat → Option Addr} {bl bc : Nat → Nat} {Y : Nat → Nat → Int} (h : PgArg W v len k p ao bl bc Y) (hb : Below W.heap.size W W') : PgArg W' v len k p ao bl bc Y := h.below hb
theorem number_use {W0 w : World} {v : Value} {b r len : Nat} {k p : Nat → Int} {ao : Nat → Option Addr} {bl bc : Nat → Nat} {Y : Nat → Nat → Int} {base : Nat} {ps : List Pgd} (hF : Fr W0 b r len k p Y base ps) (ha : ∀ i, i < len → k i % 4096 = 0) (hbl : ∀ i, i < len → bl i = 4096) (hY : ∀ i j, 0 ≤ Y i j ∧ Y i j < 256) (h : PgArg w v len k p ao bl bc Y) (hlen : len ≤ 4096) (a perm : Int) (n : Nat) (a0 : 0 ≤ a) (h48 : a + n ≤ 281474976710656) (hn : isN n) (hu : useE ps a n perm = 0) :
    Calls Try.prog 33 #[v, .int .u64 a, .int .i64 n] w fun e w' => e = .returned (.int .u64 (sumV (byts ps (btOf W0) a n))) ∧ Below w.heap.size w w' := by
  have n0 : 1 ≤ n ∧ n ≤ 8 := by unfold isN at hn; omega
  have hl := hF.len
  have e : sumV (byts ps (btOf W0) a n) = tailV (fun j => byt ps (btOf W0) (a + (j : Int))) n 0 := by
    unfold tailV byts
    rw [List.range_eq_range', Nat.sub_zero]
  rw [e]
  refine number33 v a n _ w a0 h48 n0.2 (fun j => btOf_small _ _ _) (fun j hj W hb => ?_)
  obtain ⟨x, hx⟩ := Option.ne_none_iff_exists'.1 (use_all a0 n0.2 hu j hj)
  obtain ⟨t, ht, hxt, hk⟩ := hF.pg_idx hx
  have hfi := hF.fi_some ha (x := a + j) (t := t) (by omega) hk
  obtain ⟨⟨xa, cap, rfl, _, hs⟩, _⟩ := h.below hb
  obtain ⟨lb, lo, rfl, hS⟩ := hs (by omega)
  have f := bs_facts (a := a + j) (by omega)
  have tt := byteAt43 lb lo len cap k p ao bl bc Y (a + j) t W hS (by omega) (by omega) (by omega) (by omega) hfi (hbl t (by omega)) (by omega) (by omega)
  have ey : byt ps (btOf W0) (a + (j : Int)) = Y t (a + (j : Int) - k t).toNat := by
    unfold byt
    rw [hx, hk, ← hxt]
    exact btOf_at ((hF.data t _ (List.getElem?_eq_getElem ht)).2 _ (by omega)) (hY _ _)
  rw [ey]
  exact tt
set_option maxRecDepth 20000 in
set_option maxHeartbeats 1000000 in
theorem rload_odd (v : Value) (a n : Int) (w : World) (hn : ¬ (n = 1 ∨ n = 2 ∨ n = 4 ∨ n = 8)) : Calls Try.prog 12 #[v, .int .u64 a, .int .i64 n] w fun e w' => e = .returned (.tuple #[.int .u64 0, .int .i64 1]) ∧ w' = w := by
  have n1 : (n != 1) = true := by simp; omega
  have n2 : (n != 2) = true := by simp; omega
  have n4 : (n != 4) = true := by simp; omega
  have n8 : (n != 8) = true := by simp; omega
  go_enter Try.func12, Try.ntmps12
  go_wp2
  go_ret2
  exact ⟨rfl, rfl⟩
set_option maxRecDepth 20000 in
set_option maxHeartbeats 1000000 in
theorem rload_err (v : Value) (a x : Int) (n : Nat) (w : World) (hn : isN n) (hx : ¬ x = 0) (h : Calls Try.prog 32 #[v, .int .u64 a, .int .i64 n, .int .i64 4] w fun e w' => e = .returned (.int .i64 x) ∧ w' = w) : Calls Try.prog 12 #[v, .int .u64 a, .int .i64 n] w fun e w' => e = .returned (.tuple #[.int .u64 0, .int .i64 x]) ∧ w' = w := by
  have HA : Hid (Calls Try.prog 32 #[v, .int .u64 a, .int .i64 n, .int .i64 4] w fun e w' => e = .returned (.int .i64 x) ∧ w' = w) := h
  have hxb : (x != 0) = true := by simpa using hx
  clear h
  rcases hn with rfl | rfl | rfl | rfl
  all_goals
    go_enter Try.func12, Try.ntmps12
    go_wp2_with fail
    refine HA.out.mono ?_
    rintro e w1 ⟨rfl, e1⟩
    subst e1
    go_wp2
    go_ret2
    exact ⟨rfl, rfl⟩
set_option maxRecDepth 20000 in
set_option maxHeartbeats 1000000 in
theorem rload_ok (v : Value) (a y : Int) (n : Nat) (w : World) (hn : isN n) (h : Calls Try.prog 32 #[v, .int .u64 a, .int .i64 n, .int .i64 4] w fun e w' => e = .returned (.int .i64 0) ∧ w' = w) (h2 : Calls Try.prog 33 #[v, .int .u64 a, .int .i64 n] w fun e w' => e = .returned (.int .u64 y) ∧ Below w.heap.size w w') : Calls Try.prog 12 #[v, .int .u64 a, .int .i64 n] w fun e w' => e = .returned (.tuple #[.int .u64 y, .int .i64 0]) ∧ Below w.heap.size w w' := by
  have HA : Hid (Calls Try.prog 32 #[v, .int .u64 a, .int .i64 n, .int .i64 4] w fun e w' => e = .returned (.int .i64 0) ∧ w' = w) := h
  have HN : Hid (Calls Try.prog 33 #[v, .int .u64 a, .int .i64 n] w fun e w' => e = .returned (.int .u64 y) ∧ Below w.heap.size w w') := h2
  clear h h2
  rcases hn with rfl | rfl | rfl | rfl
  all_goals
    go_enter Try.func12, Try.ntmps12
    go_wp2_with fail
    refine HA.out.mono ?_
    rintro e w1 ⟨rfl, e1⟩
    subst e1
    go_wp2_with fail
    refine HN.out.mono ?_
    rintro e w2 ⟨rfl, hb⟩
    have HB : Hid (Below w1.heap.size w1 w2) := hb
    clear hb
    go_wp2
    go_ret2
    exact ⟨rfl, HB.out⟩
theorem rload_all {W0 w : World} {v : Value} {b r len : Nat} {k p : Nat → Int} {ao : Nat → Option Addr} {bl bc : Nat → Nat} {Y : Nat → Nat → Int} {base : Nat} {ps : List Pgd} (hF : Fr W0 b r len k p Y base ps) (ha : ∀ i, i < len → k i % 4096 = 0) (hbl : ∀ i, i < len → bl i = 4096) (hY : ∀ i j, 0 ≤ Y i j ∧ Y i j < 256) (h : PgArg w v len k p ao bl bc Y) (hlen : len ≤ 4096) (a n : Int) (a0 : 0 ≤ a) (a1 : a < 18446744073709551616) :
    Calls Try.prog 12 #[v, .int .u64 a, .int .i64 n] w fun e w' => e = .returned (.tuple #[.int .u64 (lV ps (btOf W0) a n), .int .i64 (lE ps a n)]) ∧ Below w.heap.size w w' := by
  unfold lV
  by_cases hn : n = 1 ∨ n = 2 ∨ n = 4 ∨ n = 8
  · obtain ⟨m, rfl⟩ : ∃ m : Nat, n = m := ⟨n.toNat, by omega⟩
    have hm : isN m := by unfold isN; omega
    by_cases hf : 281474976710656 ≤ a ∨ 281474976710656 - a < (m : Int)
    · have e : lE ps a m = 1 := by unfold lE; rw [if_pos hn, if_pos hf]
      rw [e, if_neg (by decide)]
      exact (rload_err v a 1 m w hm (by decide) (asked_far v a 4 m w a0 a1 (by omega) hf)).mono fun e w' ⟨h1, h2⟩ => ⟨h1, h2 ▸ Below.refl _ _⟩
    · have e : lE ps a m = useE ps a m 4 := by unfold lE; rw [if_pos hn, if_neg hf]
      rw [e]
      have hA := asked_use hF ha h hlen a 4 m a0 (by omega) hm
      by_cases hu : useE ps a m 4 = 0
      · rw [if_pos hu]
        have hN := number_use hF ha hbl hY h hlen a 4 m a0 (by omega) hm hu
        rw [hu] at hA ⊢
        exact rload_ok v a _ m w hm hA hN
      · rw [if_neg hu]
        exact (rload_err v a _ m w hm hu hA).mono fun e w' ⟨h1, h2⟩ => ⟨h1, h2 ▸ Below.refl _ _⟩
  · have e : lE ps a n = 1 := by unfold lE; rw [if_neg hn]
    rw [e, if_neg (by decide)]
    exact (rload_odd v a n w hn).mono fun e w' ⟨h1, h2⟩ => ⟨h1, h2 ▸ Below.refl _ _⟩
end Go.Proofs.Ytndbkkldfinggab
