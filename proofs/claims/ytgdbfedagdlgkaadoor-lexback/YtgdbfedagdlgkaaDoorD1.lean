/- The first question: a little source. -/
import Derived.Test.YtgdbfedagdlgkaaDoorC5
namespace Go.Proofs.YtgdbfedagdlgkaaDoor
open Go.RowKit Go.Shelf
def src1 : ByteArray := ⟨#[108, 101, 116, 32, 120, 61, 49, 50, 59, 47, 47, 32, 97]⟩
def src2 : ByteArray := ⟨#[49, 97]⟩
def seen (r : Res) : Option (Nat × Option Int × Option Nat) := match r with
  | .ok l => some (l.length, (l.map Tk.v)[3]?, (l.map Tk.fr)[5]?)
  | .bad .. => none
theorem seen1 : seen (tokR src1) = some (6, some 12, some 13) := by kernel_rfl
theorem seen2 : (match tokR src2 with | .bad c f t => some (c, f, t) | .ok _ => none) = some (112, 0, 2) := by kernel_rfl
theorem wd_fn : wdB [102, 110] = true := by kernel_rfl
theorem nm_fm : alB (fst [102, 109] 1) [102, 109] 1 = true := by kernel_rfl
theorem dec_fm : (Lib.decodeGo ⟨#[102, 109]⟩).2 = 1 := by kernel_rfl
theorem tkl_at (l : List Tk) (i j : Nat) (hj : j < 5) : (tkl l)[i * 5 + j]? = (l[i]?).bind fun x => (tkc x)[j]? := by
  induction l generalizing i with
  | nil => simp [tkl]
  | cons x r ih =>
    have e : tkl (x :: r) = tkc x ++ tkl r := by simp [tkl]
    have h5 : (tkc x).length = 5 := rfl
    rw [e]
    cases i with
    | zero =>
      rw [List.getElem?_append_left (by omega)]
      simp
    | succ i =>
      rw [List.getElem?_append_right (by omega), h5, show (i + 1) * 5 + j - 5 = i * 5 + j by omega, ih]
      simp
theorem eql_000 (w : World) : (binOp .eql 25 (.agg #[.int .i64 0, .int .i64 0, .int .i64 0]) (.agg #[.int .i64 0, .int .i64 0, .int .i64 0])).run Tryd.prog w = .ok (.bool true) w := by kernel_rfl
theorem eql_112 (w : World) : (binOp .eql 25 (.agg #[.int .i64 112, .int .i64 0, .int .i64 2]) (.agg #[.int .i64 112, .int .i64 0, .int .i64 2])).run Tryd.prog w = .ok (.bool true) w := by kernel_rfl
set_option maxRecDepth 100000 in
set_option maxHeartbeats 4000000 in
theorem small12 (w : World) (hT : Tb w) : Calls Tryd.prog 12 #[] w fun e w' => e = .returned (.bool true) ∧ Below w.heap.size w w' := by
  have HT : Hid (Tb w) := hT
  have H1 : Hid (∀ W, Below w.heap.size w W → Calls Tryd.prog 9 #[.string src1] W fun e w' => ∃ (g cap : Nat), e = .returned (.tuple #[.slice (some ⟨g, 0, none⟩) 6 cap, .agg #[.int .i64 0, .int .i64 0, .int .i64 0]]) ∧ w'.cell? ⟨g, 17, none⟩ = some (.int .i64 12) ∧ w'.cell? ⟨g, 28, none⟩ = some (.int .i64 13) ∧ g < w'.heap.size ∧ Below W.heap.size W w') := fun W hW => by
    refine (tokens9 src1 W (hT.below hW (Nat.le_refl _)) (by decide)).mono ?_
    rintro e w' ⟨hb, hr⟩
    have hs := seen1
    cases hq : tokR src1 with
    | bad => rw [hq] at hs; cases hs
    | ok l =>
      rw [hq] at hs hr
      obtain ⟨v, rfl, hown⟩ := hr
      simp only [seen, Option.some.injEq, Prod.mk.injEq] at hs
      obtain ⟨h6, h3, h5⟩ := hs
      obtain ⟨g, cap, rfl⟩ := Joins.ownsRow_form hown (by omega)
      have c17 := hown.cellAt 17 (by omega)
      have c28 := hown.cellAt 28 (by omega)
      rw [show (17 : Nat) = 3 * 5 + 2 from rfl, tkl_at _ _ _ (by omega)] at c17
      rw [show (28 : Nat) = 5 * 5 + 3 from rfl, tkl_at _ _ _ (by omega)] at c28
      rw [h6]
      refine ⟨g, cap, rfl, ?_, ?_, (hown.lt g rfl).2, hb⟩
      · rw [show (17 : Nat) = 3 * 5 + 2 from rfl, c17]
        rw [List.getElem?_map] at h3
        cases hl : l[3]? with
        | none => rw [hl] at h3; cases h3
        | some x => rw [hl] at h3; simp at h3; simp [tkc, h3]
      · rw [show (28 : Nat) = 5 * 5 + 3 from rfl, c28]
        rw [List.getElem?_map] at h5
        cases hl : l[5]? with
        | none => rw [hl] at h5; cases h5
        | some x => rw [hl] at h5; simp at h5; simp [tkc, h5]
  have H2 : Hid (∀ W, Below w.heap.size w W → Calls Tryd.prog 9 #[.string src2] W fun e w' => e = .returned (.tuple #[.slice none 0 0, .agg #[.int .i64 112, .int .i64 0, .int .i64 2]]) ∧ Below W.heap.size W w') := fun W hW => by
    refine (tokens9 src2 W (hT.below hW (Nat.le_refl _)) (by decide)).mono ?_
    rintro e w' ⟨hb, hr⟩
    have hs := seen2
    cases hq : tokR src2 with
    | ok l => rw [hq] at hs; cases hs
    | bad c f t =>
      rw [hq] at hs hr
      simp only [Option.some.injEq, Prod.mk.injEq] at hs
      obtain ⟨rfl, rfl, rfl⟩ := hs
      exact ⟨hr, hb⟩
  have H3 : Hid (∀ W, Calls Tryd.prog 13 #[.string ⟨#[102, 110]⟩] W fun e w' => e = .returned (.bool true) ∧ w' = W) := fun W => by
    have t := word13 ⟨#[102, 110]⟩ W
    rw [show wdB (⟨#[102, 110]⟩ : ByteArray).data.toList = true from wd_fn] at t
    exact t
  have H4 : Hid (∀ W, Below w.heap.size w W → Calls Tryd.prog 15 #[.string ⟨#[102, 109]⟩] W fun e w' => e = .returned (.bool true) ∧ Below W.heap.size W w') := fun W hW => by
    have t := name15 ⟨#[102, 109]⟩ W (hT.below hW (Nat.le_refl _)) (by decide)
    rw [dec_fm, show alB (fst (⟨#[102, 109]⟩ : ByteArray).data.toList 1) (⟨#[102, 109]⟩ : ByteArray).data.toList 1 = true from nm_fm] at t
    exact t
  have q0 := eql_000
  have q1 := eql_112
  clear hT
  unfold src1 at H1
  unfold src2 at H2
  go_enter Tryd.func12, Tryd.ntmps12
  go_wp2_with fail
  refine (H1.out _ (Below.refl _ _)).mono ?_
  rintro e w1 ⟨g, cap, rfl, c17, c28, hg, hb⟩
  have HB1 : Hid (Below _ _ w1) := hb
  clear hb
  go_wp2_with fail
  refine (H2.out _ (HB1.out.alloc HB1.out.size _)).mono ?_
  rintro e w2 ⟨rfl, hb⟩
  have HB2 : Hid (Below _ _ w2) := hb
  have hz : w1.heap.size < w2.heap.size := by have := hb.size; simp at this; omega
  have d17 : w2.cell? ⟨g, 17, none⟩ = some (.int .i64 12) := ((((Below.refl _ w1).alloc (Nat.le_refl _) _).trans (hb.mono (by simp))).cell (p := ⟨g, 17, none⟩) hg).trans c17
  have d28 : w2.cell? ⟨g, 28, none⟩ = some (.int .i64 13) := ((((Below.refl _ w1).alloc (Nat.le_refl _) _).trans (hb.mono (by simp))).cell (p := ⟨g, 28, none⟩) hg).trans c28
  obtain ⟨z0, z1, z2, z3, z4⟩ := zer_cells (at_zero3 hb)
  have hg2 : g < w2.heap.size := by omega
  clear hb c17 c28
  go_wp2_with (first | (go_at_call 13; refine (H3.out _).mono ?_; rintro e w3 ⟨rfl, rfl⟩) | fail)
  refine (H4.out _ (((HB1.out.alloc HB1.out.size _).trans (HB2.out.mono (by have := HB1.out.size; simp; omega))).alloc (by have := HB1.out.size; omega) _)).mono ?_
  rintro e w3 ⟨rfl, hb⟩
  have HB3 : Hid (Below _ _ w3) := hb
  clear hb
  go_wp2
  go_ret
  exact ⟨rfl, (((HB1.out.alloc HB1.out.size _).trans (HB2.out.mono (by have := HB1.out.size; simp; omega))).alloc (by have := HB1.out.size; omega) _).trans (HB3.out.mono (by have := HB1.out.size; simp; omega))⟩
end Go.Proofs.YtgdbfedagdlgkaaDoor
