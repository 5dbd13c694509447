/- A memory of whatever pages: whether some bytes may be used. -/
import Derived.Test.YtndbkkldfinggabQ0
namespace Go.Proofs.Ytndbkkldfinggab
open Go.RowKit Go.Shelf
def bs (a : Int) : Int := a - a % 4096
theorem bs_facts {a : Int} (h : 0 ≤ a) : 0 ≤ bs a ∧ bs a ≤ a ∧ a < bs a + 4096 ∧ bs a % 4096 = 0 := by unfold bs; omega
/-- May a page not be used so? -/
def badP (x : Pgd) (perm : Int) : Bool := bits .and .i64 x.p perm != perm
def e1 (x : Pgd) (perm : Int) : Int := if badP x perm then 21 else 0
def e2 (x y : Pgd) (perm : Int) : Int := if badP y perm then 21 else e1 x perm
theorem e1_bad {x : Pgd} {perm : Int} (h : (bits .and .i64 x.p perm != perm) = true) : .int .i64 21 = Value.int .i64 (e1 x perm) := by unfold e1 badP; rw [if_pos h]
theorem e1_ok {x : Pgd} {perm : Int} (h : (bits .and .i64 x.p perm != perm) = false) : .int .i64 0 = Value.int .i64 (e1 x perm) := by unfold e1 badP; rw [h]; rfl
theorem e2_bad {x y : Pgd} {perm : Int} (h : (bits .and .i64 y.p perm != perm) = true) : .int .i64 21 = Value.int .i64 (e2 x y perm) := by unfold e2 badP; rw [if_pos h]
theorem e2_ok {x y : Pgd} {perm : Int} (h : (bits .and .i64 y.p perm != perm) = false) : .int .i64 (e1 x perm) = Value.int .i64 (e2 x y perm) := by unfold e2 badP; rw [h]; rfl
/-- What forbids that n bytes are used (n is 1 to 8). -/
def useE (ps : List Pgd) (a n perm : Int) : Int :=
  match pg ps (bs a) with
  | none => 20
  | some x => if a + n ≤ bs a + 4096 then e1 x perm else
    match pg ps (bs a + 4096) with
    | none => 20
    | some y => e2 x y perm
theorem base_at (a : Int) (a0 : 0 ≤ a) (a1 : a < 281474976710656) (W : World) : Calls Try.prog 54 #[.int .u64 a] W fun e w' => e = .returned (.int .u64 (bs a)) ∧ w' = W := base36 a a0 (by omega) W
theorem base_next (q : Int) (a0 : 0 ≤ q) (a1 : q < 281474976710656) (h : q % 4096 = 0) (W : World) : Calls Try.prog 54 #[.int .u64 (q + 4096)] W fun e w' => e = .returned (.int .u64 (q + 4096)) ∧ w' = W := by
  have t := base36 (q + 4096) (by omega) (by omega) W
  rw [show q + 4096 - (q + 4096) % 4096 = q + 4096 by omega] at t
  exact t
set_option maxRecDepth 20000 in
set_option maxHeartbeats 1000000 in
theorem usable_any (b r : Nat) (ps : List Pgd) (bt : Nat → Nat → Int) (a n perm : Int) (w : World) (h : Mm w b r ps bt) (a0 : 0 ≤ a) (n0 : 1 ≤ n) (n1 : n ≤ 8) (h1 : a + n ≤ 281474976710656) : Calls Try.prog 42 #[.pointer (some ⟨b, 0, none⟩), .int .u64 a, .int .i64 n, .int .i64 perm] w fun e w' => e = .returned (.int .i64 (useE ps a n perm)) ∧ Below w.heap.size w w' := by
  have HH : Hid (Mm w b r ps bt) := h
  have HX : Hid (∀ W, Calls Try.prog 44 #[.int .u64 a, .int .u64 n] W fun e w' => e = .returned (.bool false) ∧ w' = W) := fun W => by have t := beyond12 a n (by omega) (by omega) (by omega) (by omega) W; rw [decide_eq_false (by omega)] at t; exact t
  obtain ⟨f0, f1, f2, f3⟩ := bs_facts a0
  have HU : Hid (useE ps a n perm = match pg ps (bs a) with | none => 20 | some x => if a + n ≤ bs a + 4096 then e1 x perm else match pg ps (bs a + 4096) with | none => 20 | some y => e2 x y perm) := rfl
  have HA : Hid (∀ W, Calls Try.prog 54 #[.int .u64 a] W fun e w' => e = .returned (.int .u64 (bs a)) ∧ w' = W) := base_at a a0 (by omega)
  have HN : Hid (∀ W, Calls Try.prog 54 #[.int .u64 (bs a + 4096)] W fun e w' => e = .returned (.int .u64 (bs a + 4096)) ∧ w' = W) := base_next (bs a) f0 (by omega) f3
  generalize bs a = q at *
  generalize useE ps a n perm = res at *
  clear h
  go_enter Try.func42, Try.ntmps42
  go_wp2_with fail
  refine (HX.out _).mono ?_
  rintro e w1 ⟨rfl, e1⟩
  subst e1
  go_wp2_with fail
  go_loopw [9, 10] (fun y x wr => Below w1.heap.size w1 wr ∧ ((y = .int .i64 0 ∧ x = .int .u64 a) ∨ (∃ x1, pg ps q = some x1 ∧ y = .int .i64 (Ytndbkkldfinggab.e1 x1 perm) ∧ x = .int .u64 (q + 4096)) ∨ (∃ x1 x2, pg ps q = some x1 ∧ pg ps (q + 4096) = some x2 ∧ q + 4096 < a + n ∧ y = .int .i64 (e2 x1 x2 perm) ∧ x = .int .u64 (q + 8192)))) (fun _ x _ => (q + 8192 - intOf x).toNat)
  case atStart => exact ⟨Below.refl _ _, .inl ⟨rfl, rfl⟩⟩
  case round =>
    obtain ⟨hbl, hx⟩ := hrel
    have HB : Hid (Below w1.heap.size w1 wr) := hbl
    have hs := hbl.size
    clear hbl
    rcases hx with ⟨rfl, rfl⟩ | ⟨x1, hp1, rfl, rfl⟩ | ⟨x1, x2, hp1, hp2, hlt, rfl, rfl⟩
    · go_wp2_with fail
      refine (HA.out _).mono ?_
      rintro e w2 ⟨rfl, e2⟩
      subst e2
      rcases hp : pg ps q with _ | x1
      · go_wp2_with fail
        refine (page_none (HH.out.below HB.out) hp).mono ?_
        rintro e w3 ⟨rfl, hb3⟩
        have HB3 : Hid (Below w1.heap.size w1 w3) := HB.out.trans (hb3.mono HB.out.size)
        clear hb3
        go_wp2
        go_ret
        exact ⟨ret_int (by rw [HU.out, hp]), HB3.out.alloc HB3.out.size _⟩
      · have HP : Hid (pg ps q = some x1) := hp
        clear hp
        go_wp2_with fail
        refine (page_some (HH.out.below HB.out) HP.out).mono ?_
        rintro e w3 ⟨rfl, hb3⟩
        have HB3 : Hid (Below w1.heap.size w1 w3) := HB.out.trans (hb3.mono HB.out.size)
        clear hb3
        go_wp2_with ((go_at_call 54; refine (HA.out _).mono ?_; rintro e w4 ⟨rfl, e4⟩; subst e4))
        all_goals
          go_roundw
          case rel => exact ⟨HB3.out.alloc HB3.out.size _, .inr (.inl ⟨x1, HP.out, by first | exact e1_bad ‹_› | exact e1_ok ‹_›, rfl⟩)⟩
          case measure => simp [intOf]; omega
    · have HP1 : Hid (pg ps q = some x1) := hp1
      clear hp1
      by_cases hlt : q + 4096 < a + n
      · go_wp2_with fail
        refine (HN.out _).mono ?_
        rintro e w2 ⟨rfl, e2⟩
        subst e2
        rcases hp : pg ps (q + 4096) with _ | x2
        · go_wp2_with fail
          refine (page_none (HH.out.below HB.out) hp).mono ?_
          rintro e w3 ⟨rfl, hb3⟩
          have HB3 : Hid (Below w1.heap.size w1 w3) := HB.out.trans (hb3.mono HB.out.size)
          clear hb3
          go_wp2
          go_ret
          exact ⟨ret_int (by rw [HU.out, HP1.out, hp]; simp only []; rw [if_neg (by omega)]), HB3.out.alloc HB3.out.size _⟩
        · have HP : Hid (pg ps (q + 4096) = some x2) := hp
          clear hp
          go_wp2_with fail
          refine (page_some (HH.out.below HB.out) HP.out).mono ?_
          rintro e w3 ⟨rfl, hb3⟩
          have HB3 : Hid (Below w1.heap.size w1 w3) := HB.out.trans (hb3.mono HB.out.size)
          clear hb3
          go_wp2_with ((go_at_call 54; refine (HN.out _).mono ?_; rintro e w4 ⟨rfl, e4⟩; subst e4))
          all_goals
            go_roundw
            case rel => exact ⟨HB3.out.alloc HB3.out.size _, .inr (.inr ⟨x1, x2, HP1.out, HP.out, hlt, by first | exact e2_bad ‹_› | exact e2_ok ‹_›, by congr 1; omega⟩)⟩
            case measure => simp [intOf]; omega
      · go_wp2
        go_ret
        exact ⟨ret_int (by rw [HU.out, HP1.out]; simp only []; rw [if_pos (by omega)]), HB.out⟩
    · have HP1 : Hid (pg ps q = some x1) := hp1
      have HP2 : Hid (pg ps (q + 4096) = some x2) := hp2
      clear hp1 hp2
      go_wp2
      go_ret
      exact ⟨ret_int (by rw [HU.out, HP1.out]; simp only []; rw [if_neg (by omega), HP2.out]), HB.out⟩
end Go.Proofs.Ytndbkkldfinggab
