/- Walks of the registers that an instruction reads. -/
import Derived.Test.YtndbkkldfinggaaDoorT1
namespace Go.Proofs.YtndbkkldfinggaaDoor
open Go.RowKit
theorem info3 : (Tryd.prog.info? 3).map (fun i => (i.zero, i.size, i.bytes)) = some (some (.int .i64 0), 1, 8) := by kernel_rfl
theorem owns_mono {w : World} {B C : Nat} {e : TypeId} {s : Nat} {v : Value} {n : Nat} {xs : List Value} (h : w.ownsRow B e s v n xs) (hC : C ≤ B) : w.ownsRow C e s v n xs := by
  obtain ⟨h1, h2⟩ := h
  refine ⟨h1, ?_⟩
  rcases h2 with h2 | ⟨g, cap, cur, a, b, c⟩
  · exact .inl h2
  · exact .inr ⟨g, cap, cur, a, Nat.le_trans hC b, c⟩
theorem one_cell (x : Int) : ∀ u ∈ ([.int .i64 x] : List Value), u.oneCell' = true := by intro u hu; simp at hu; subst hu; rfl
theorem fresh_cell (w : World) (x : Int) (b : Nat) (hb : b = w.heap.size) : ∀ (j : Nat) u, ([.int .i64 x] : List Value)[j]? = some u → (w.alloc (.cells #[.int .i64 x] 3)).cell? ((⟨b, 0, none⟩ : Addr).add j) = some u
  | 0, u, h => by subst hb; simp at h; subst h; simp [Addr.add]
  | j + 1, u, h => by simp at h
theorem bel_first {w1 w2 : World} {o : Obj} {k : Nat} (hg : ((w1.drewN k).alloc o).grownBy w2 (Value.slice none 0 0).ownBlock) : Below w1.heap.size w1 w2 :=
  ((below_drewN (Below.refl w1.heap.size w1) k).alloc (by simp) o).grown hg (by simp) (by intro j h; cases h)
theorem bel_next {B : Nat} {w1 w2 w3 : World} {o : Obj} {e : TypeId} {s n : Nat} {v : Value} {xs : List Value} (hb : Below B w1 w2) (hB : B ≤ w2.heap.size) (hown : w2.ownsRow B e s v n xs) (hg : (w2.alloc o).grownBy w3 v.ownBlock) : Below B w1 w3 :=
  (hb.alloc hB o).grown hg (by simp; omega) (fun k h => (hown.lt k h).1)
/-- The registers that a right instruction reads, rising: the lower one, if it is not 0, and the higher one, if it is another. -/
def lhI (r1 r2 : Int) : List Int := (if 0 < min r1 r2 then [min r1 r2] else []) ++ (if min r1 r2 < max r1 r2 then [max r1 r2] else [])
def rdI (op r1 r2 : Int) : List Int := if op = 64 then [10, 17] else lhI r1 r2
set_option maxHeartbeats 1000000 in
theorem reads17_both (op rd r1 r2 n : Int) (h : rightB op rd r1 r2 n = true) (ho : ¬ op = 64) (h1 : 0 < min r1 r2) (h2 : min r1 r2 < max r1 r2) (w : World) :
    Calls Tryd.prog 17 #[.agg #[.int .i64 op, .int .i64 rd, .int .i64 r1, .int .i64 r2, .int .i64 n]] w fun e w' => ∃ v, e = .returned (.tuple #[v, .int .i64 0]) ∧ w'.ownsRow w.heap.size 3 1 v 2 [.int .i64 (min r1 r2), .int .i64 (max r1 r2)] ∧ Below w.heap.size w w' := by
  have HR : Hid (rightB op rd r1 r2 n = true) := h
  clear h
  go_enter Tryd.func17, Tryd.ntmps17
  go_wp2_with fail
  refine (check10_yes op rd r1 r2 n HR.out _).mono ?_
  rintro e w1 ⟨rfl, hb⟩
  obtain ⟨a0, a1, a2, a3, a4, a5⟩ := box5 w (.int .i64 op) (.int .i64 rd) (.int .i64 r1) (.int .i64 r2) (.int .i64 n) 23
  obtain ⟨c0, c1, c2, c3, c4, c5⟩ := keep5 (w := w) a5 hb a0 a1 a2 a3 a4
  have HB1 : Hid (Below w.heap.size w w1) := belowA hb
  clear hb a0 a1 a2 a3 a4 a5
  go_wp2_with fail
  go_quiet (fail)
  obtain ⟨i0, hi, hz0, hz1, hz2⟩ := info_parts info3
  have HI : Hid (Tryd.prog.info? 3 = some i0 ∧ i0.zero = some (.int .i64 0) ∧ i0.size = 1 ∧ i0.bytes = 8) := ⟨hi, hz0, hz1, hz2⟩
  clear hi hz0 hz1 hz2
  go_wp2_with (first
    | (at_builtin; refine wpList_append_own _ rfl _ _ 43 rfl w1.heap.size 3 i0 (.int .i64 0) 1 8 Tryd.underlying43 HI.out.1 HI.out.2.1 HI.out.2.2.1 HI.out.2.2.2 rfl (by decide) (.slice none 0 0) 0 [] rfl (World.ownsRow_nil _ _ _ _) ⟨w1.heap.size, 0, none⟩ 1 1 [.int .i64 (min r1 r2)] rfl rfl (fresh_cell (w1.drewN nq) _ _ rfl) (one_cell _) (by unfold maxLen; omega) (by omega) (by simp) ?_; intro v2 w2 hown hgrow _; simp only [Nat.zero_add, List.nil_append] at hown)
    | (at_builtin; refine wpList_append_own _ rfl _ _ 43 rfl w1.heap.size 3 i0 (.int .i64 0) 1 8 Tryd.underlying43 HI.out.1 HI.out.2.1 HI.out.2.2.1 HI.out.2.2.2 rfl (by decide) v2 1 [.int .i64 (min r1 r2)] rfl (hown.alloc _) ⟨w2.heap.size, 0, none⟩ 1 1 [.int .i64 (max r1 r2)] rfl rfl (fresh_cell w2 _ _ rfl) (one_cell _) (by unfold maxLen; omega) (by omega) (by have := hgrow.size; simp at this ⊢; omega) ?_; intro v3 w3 hown3 hgrow3 _)
    | go_in)
  go_ret2
  exact ⟨_, rfl, owns_mono hown3 HB1.out.size, HB1.out.trans ((bel_next (bel_first hgrow) (bel_first hgrow).size hown hgrow3).mono HB1.out.size)⟩
set_option maxHeartbeats 1000000 in
theorem reads17_low (op rd r1 r2 n : Int) (h : rightB op rd r1 r2 n = true) (ho : ¬ op = 64) (h1 : 0 < min r1 r2) (h2 : ¬ min r1 r2 < max r1 r2) (w : World) :
    Calls Tryd.prog 17 #[.agg #[.int .i64 op, .int .i64 rd, .int .i64 r1, .int .i64 r2, .int .i64 n]] w fun e w' => ∃ v, e = .returned (.tuple #[v, .int .i64 0]) ∧ w'.ownsRow w.heap.size 3 1 v 1 [.int .i64 (min r1 r2)] ∧ Below w.heap.size w w' := by
  have HR : Hid (rightB op rd r1 r2 n = true) := h
  clear h
  go_enter Tryd.func17, Tryd.ntmps17
  go_wp2_with fail
  refine (check10_yes op rd r1 r2 n HR.out _).mono ?_
  rintro e w1 ⟨rfl, hb⟩
  obtain ⟨a0, a1, a2, a3, a4, a5⟩ := box5 w (.int .i64 op) (.int .i64 rd) (.int .i64 r1) (.int .i64 r2) (.int .i64 n) 23
  obtain ⟨c0, c1, c2, c3, c4, c5⟩ := keep5 (w := w) a5 hb a0 a1 a2 a3 a4
  have HB1 : Hid (Below w.heap.size w w1) := belowA hb
  clear hb a0 a1 a2 a3 a4 a5
  go_wp2_with fail
  go_quiet (fail)
  obtain ⟨i0, hi, hz0, hz1, hz2⟩ := info_parts info3
  have HI : Hid (Tryd.prog.info? 3 = some i0 ∧ i0.zero = some (.int .i64 0) ∧ i0.size = 1 ∧ i0.bytes = 8) := ⟨hi, hz0, hz1, hz2⟩
  clear hi hz0 hz1 hz2
  go_wp2_with (first
    | (at_builtin; refine wpList_append_own _ rfl _ _ 43 rfl w1.heap.size 3 i0 (.int .i64 0) 1 8 Tryd.underlying43 HI.out.1 HI.out.2.1 HI.out.2.2.1 HI.out.2.2.2 rfl (by decide) (.slice none 0 0) 0 [] rfl (World.ownsRow_nil _ _ _ _) ⟨w1.heap.size, 0, none⟩ 1 1 [.int .i64 (min r1 r2)] rfl rfl (fresh_cell (w1.drewN nq) _ _ rfl) (one_cell _) (by unfold maxLen; omega) (by omega) (by simp) ?_; intro v2 w2 hown hgrow _; simp only [Nat.zero_add, List.nil_append] at hown)
    | go_in)
  go_ret2
  exact ⟨_, rfl, owns_mono hown HB1.out.size, HB1.out.trans ((bel_first hgrow).mono HB1.out.size)⟩
set_option maxHeartbeats 1000000 in
theorem reads17_high (op rd r1 r2 n : Int) (h : rightB op rd r1 r2 n = true) (ho : ¬ op = 64) (h1 : ¬ 0 < min r1 r2) (h2 : min r1 r2 < max r1 r2) (w : World) :
    Calls Tryd.prog 17 #[.agg #[.int .i64 op, .int .i64 rd, .int .i64 r1, .int .i64 r2, .int .i64 n]] w fun e w' => ∃ v, e = .returned (.tuple #[v, .int .i64 0]) ∧ w'.ownsRow w.heap.size 3 1 v 1 [.int .i64 (max r1 r2)] ∧ Below w.heap.size w w' := by
  have HR : Hid (rightB op rd r1 r2 n = true) := h
  clear h
  go_enter Tryd.func17, Tryd.ntmps17
  go_wp2_with fail
  refine (check10_yes op rd r1 r2 n HR.out _).mono ?_
  rintro e w1 ⟨rfl, hb⟩
  obtain ⟨a0, a1, a2, a3, a4, a5⟩ := box5 w (.int .i64 op) (.int .i64 rd) (.int .i64 r1) (.int .i64 r2) (.int .i64 n) 23
  obtain ⟨c0, c1, c2, c3, c4, c5⟩ := keep5 (w := w) a5 hb a0 a1 a2 a3 a4
  have HB1 : Hid (Below w.heap.size w w1) := belowA hb
  clear hb a0 a1 a2 a3 a4 a5
  go_wp2_with fail
  go_quiet (fail)
  obtain ⟨i0, hi, hz0, hz1, hz2⟩ := info_parts info3
  have HI : Hid (Tryd.prog.info? 3 = some i0 ∧ i0.zero = some (.int .i64 0) ∧ i0.size = 1 ∧ i0.bytes = 8) := ⟨hi, hz0, hz1, hz2⟩
  clear hi hz0 hz1 hz2
  go_wp2_with (first
    | (at_builtin; refine wpList_append_own _ rfl _ _ 43 rfl w1.heap.size 3 i0 (.int .i64 0) 1 8 Tryd.underlying43 HI.out.1 HI.out.2.1 HI.out.2.2.1 HI.out.2.2.2 rfl (by decide) (.slice none 0 0) 0 [] rfl (World.ownsRow_nil _ _ _ _) ⟨w1.heap.size, 0, none⟩ 1 1 [.int .i64 (max r1 r2)] rfl rfl (fresh_cell (w1.drewN nq) _ _ rfl) (one_cell _) (by unfold maxLen; omega) (by omega) (by simp) ?_; intro v2 w2 hown hgrow _; simp only [Nat.zero_add, List.nil_append] at hown)
    | go_in)
  go_ret2
  exact ⟨_, rfl, owns_mono hown HB1.out.size, HB1.out.trans ((bel_first hgrow).mono HB1.out.size)⟩
set_option maxHeartbeats 1000000 in
theorem reads17_none (op rd r1 r2 n : Int) (h : rightB op rd r1 r2 n = true) (ho : ¬ op = 64) (h1 : ¬ 0 < min r1 r2) (h2 : ¬ min r1 r2 < max r1 r2) (w : World) :
    Calls Tryd.prog 17 #[.agg #[.int .i64 op, .int .i64 rd, .int .i64 r1, .int .i64 r2, .int .i64 n]] w fun e w' => ∃ v, e = .returned (.tuple #[v, .int .i64 0]) ∧ w'.ownsRow w.heap.size 3 1 v 0 [] ∧ Below w.heap.size w w' := by
  have HR : Hid (rightB op rd r1 r2 n = true) := h
  clear h
  go_enter Tryd.func17, Tryd.ntmps17
  go_wp2_with fail
  refine (check10_yes op rd r1 r2 n HR.out _).mono ?_
  rintro e w1 ⟨rfl, hb⟩
  obtain ⟨a0, a1, a2, a3, a4, a5⟩ := box5 w (.int .i64 op) (.int .i64 rd) (.int .i64 r1) (.int .i64 r2) (.int .i64 n) 23
  obtain ⟨c0, c1, c2, c3, c4, c5⟩ := keep5 (w := w) a5 hb a0 a1 a2 a3 a4
  have HB1 : Hid (Below w.heap.size w w1) := belowA hb
  clear hb a0 a1 a2 a3 a4 a5
  go_wp2_with fail
  go_quiet (fail)
  go_wp2
  go_ret2
  exact ⟨_, rfl, World.ownsRow_nil _ _ _ _, below_drewN HB1.out _⟩
set_option maxHeartbeats 1000000 in
theorem reads17_call (rd r1 r2 n : Int) (h : rightB 64 rd r1 r2 n = true)  (w : World) :
    Calls Tryd.prog 17 #[.agg #[.int .i64 64, .int .i64 rd, .int .i64 r1, .int .i64 r2, .int .i64 n]] w fun e w' => ∃ v, e = .returned (.tuple #[v, .int .i64 0]) ∧ w'.ownsRow w.heap.size 3 1 v 2 [.int .i64 10, .int .i64 17] ∧ Below w.heap.size w w' := by
  have HR : Hid (rightB 64 rd r1 r2 n = true) := h
  clear h
  go_enter Tryd.func17, Tryd.ntmps17
  go_wp2_with fail
  refine (check10_yes 64 rd r1 r2 n HR.out _).mono ?_
  rintro e w1 ⟨rfl, hb⟩
  obtain ⟨a0, a1, a2, a3, a4, a5⟩ := box5 w (.int .i64 64) (.int .i64 rd) (.int .i64 r1) (.int .i64 r2) (.int .i64 n) 23
  obtain ⟨c0, c1, c2, c3, c4, c5⟩ := keep5 (w := w) a5 hb a0 a1 a2 a3 a4
  have HB1 : Hid (Below w.heap.size w w1) := belowA hb
  clear hb a0 a1 a2 a3 a4 a5
  go_wp2_with fail
  go_ret2
  exact ⟨_, rfl, World.ownsRow_lit _ _ 2 HB1.out.size (by unfold maxLen; omega) rfl, HB1.out.alloc HB1.out.size _⟩
/-- The registers that a right instruction reads. -/
theorem reads17_yes (op rd r1 r2 n : Int) (h : rightB op rd r1 r2 n = true) (w : World) :
    Calls Tryd.prog 17 #[.agg #[.int .i64 op, .int .i64 rd, .int .i64 r1, .int .i64 r2, .int .i64 n]] w fun e w' => ∃ v, e = .returned (.tuple #[v, .int .i64 0]) ∧ w'.ownsRow w.heap.size 3 1 v (rdI op r1 r2).length ((rdI op r1 r2).map (Value.int .i64)) ∧ Below w.heap.size w w' := by
  by_cases ho : op = 64
  · subst ho
    exact reads17_call rd r1 r2 n h w
  · rw [show rdI op r1 r2 = lhI r1 r2 from if_neg ho]
    unfold lhI
    by_cases h1 : 0 < min r1 r2
    · by_cases h2 : min r1 r2 < max r1 r2
      · rw [if_pos h1, if_pos h2]
        exact reads17_both op rd r1 r2 n h ho h1 h2 w
      · rw [if_pos h1, if_neg h2]
        exact reads17_low op rd r1 r2 n h ho h1 h2 w
    · by_cases h2 : min r1 r2 < max r1 r2
      · rw [if_neg h1, if_pos h2]
        exact reads17_high op rd r1 r2 n h ho h1 h2 w
      · rw [if_neg h1, if_neg h2]
        exact reads17_none op rd r1 r2 n h ho h1 h2 w
set_option maxHeartbeats 1000000 in
theorem reads17_no (op rd r1 r2 n : Int) (h : rightB op rd r1 r2 n = false) (w : World) :
    Calls Tryd.prog 17 #[.agg #[.int .i64 op, .int .i64 rd, .int .i64 r1, .int .i64 r2, .int .i64 n]] w fun e w' => e = .returned (.tuple #[.slice none 0 0, .int .i64 11]) ∧ Below w.heap.size w w' := by
  have HR : Hid (rightB op rd r1 r2 n = false) := h
  clear h
  go_enter Tryd.func17, Tryd.ntmps17
  go_wp2_with fail
  refine (check10_no op rd r1 r2 n HR.out _).mono ?_
  rintro e w1 ⟨rfl, hb⟩
  have HB1 : Hid (Below w.heap.size w w1) := belowA hb
  clear hb
  go_wp2
  go_ret2
  exact ⟨rfl, HB1.out⟩
end Go.Proofs.YtndbkkldfinggaaDoor
