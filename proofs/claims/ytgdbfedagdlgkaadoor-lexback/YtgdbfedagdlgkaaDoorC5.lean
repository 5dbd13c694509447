/- A source's tokens, by the program. -/
import Derived.Test.YtgdbfedagdlgkaaDoorC4
namespace Go.Proofs.YtgdbfedagdlgkaaDoor
open Go.RowKit Go.Shelf
def tokR (s : ByteArray) : Res := if 65536 < s.size then .bad 2 0 0 else match stray s s.size 0 with
  | some p => .bad 110 p (p + 1)
  | none => toks s s.size 0 []
theorem below_set3 {w w1 : World} {o : Obj} (hb : Below (w.alloc o).heap.size (w.alloc o) w1) (a b c : Value) : Below w.heap.size w (((w1.setCell ⟨w.heap.size, 0, none⟩ a).setCell ⟨w.heap.size, 1, none⟩ b).setCell ⟨w.heap.size, 2, none⟩ c) :=
  (((((Below.refl _ w).alloc (Nat.le_refl _) o).trans (hb.mono (by simp))).setCell (Nat.le_refl _) a).setCell (Nat.le_refl _) b).setCell (Nat.le_refl _) c
theorem stray_lt (s : ByteArray) (f p q : Nat) (h : stray s f p = some q) : p ≤ q ∧ q < s.size := by
  induction f generalizing p with
  | zero => cases h
  | succ f ih =>
    by_cases hp : p < s.size
    · rw [stray_step f hp] at h
      split at h
      · cases h
        exact ⟨Nat.le_refl _, hp⟩
      · have := ih _ h
        omega
    · rw [stray_end _ hp] at h
      cases h
theorem own_set3 {w2 : World} {v : Value} {g B m : Nat} {xs : List Value} {a b c : Value} (h : w2.ownsRow B 42 5 v m xs) (hg : g < B) : (((w2.setCell ⟨g, 0, none⟩ a).setCell ⟨g, 1, none⟩ b).setCell ⟨g, 2, none⟩ c).ownsRow g 42 5 v m xs :=
  Joins.ownsRow_le (ownsRow_setCell_below (ownsRow_setCell_below (ownsRow_setCell_below h hg _) hg _) hg _) (by omega)
theorem at_zero3 {w w1 : World} (hb : Below (w.alloc zer3).heap.size (w.alloc zer3) w1) : w1.heap[w.heap.size]? = some zer3 :=
  keep_block (show (w.heap.push zer3)[w.heap.size]? = _ by simp) hb
set_option maxRecDepth 100000 in
set_option maxHeartbeats 4000000 in
theorem tokens9 (s : ByteArray) (w : World) (hT : Tb w) (hs : s.size ≤ 140737488355328) : Calls Tryd.prog 9 #[.string s] w (cutQ w (tokR s)) := by
  unfold tokR
  by_cases h1 : 65536 < s.size
  · rw [if_pos h1]
    go_enter Tryd.func9, Tryd.ntmps9
    go_wp2
    exact bodyPost_ret (v := .tuple #[.slice none 0 0, .agg #[.int .i64 2, .int .i64 0, .int .i64 0]]) (by simp [results, Tryd.results9, go_sem]) rfl ⟨below_cells _ _ _, rfl⟩
  · rw [if_neg h1]
    have HC : Hid (∀ W, Below w.heap.size w W → Calls Tryd.prog 22 #[.string s] W fun e w' => e = .returned (strV (stray s s.size 0)) ∧ Below W.heap.size W w') := fun W hW => stray22 s W (hT.below hW (Nat.le_refl _)) (by omega)
    have HK : Hid (∀ W, Below w.heap.size w W → Calls Tryd.prog 23 #[.string s] W (cutQ W (toks s s.size 0 []))) := fun W hW => cut23 s W (hT.below hW (Nat.le_refl _)) (by omega)
    clear hT
    cases hst : stray s s.size 0 with
    | some p =>
      rw [hst] at HC
      unfold strV at HC
      simp only at HC
      have hp : p < 65536 := by have := stray_lt _ _ _ _ hst; omega
      simp only
      go_enter Tryd.func9, Tryd.ntmps9
      go_wp2_with (go_at_call 22; refine (HC.out _ (below_cells _ _ _)).mono ?_; rintro e w1 ⟨rfl, hb⟩; have HB : Hid (Below _ _ w1) := hb; obtain ⟨hc, hf⟩ := bcell hb; have hz : w.heap.size < w1.heap.size := (by have := hb.size; simp at this; omega); clear hb)
      exact bodyPost_ret (v := .tuple #[.slice none 0 0, .agg #[.int .i64 110, .int .i64 p, .int .i64 ((p + 1 : Nat) : Int)]]) (by simp [results, Tryd.results9, go_sem, hc]) rfl ⟨below_set3 HB.out _ _ _, rfl⟩
    | none =>
      rw [hst] at HC
      unfold strV at HC
      simp only at HC
      simp only
      cases hr : toks s s.size 0 [] with
      | ok l =>
        rw [hr] at HK
        go_enter Tryd.func9, Tryd.ntmps9
        go_wp2_with (first | (go_at_call 22; refine (HC.out _ (below_cells _ _ _)).mono ?_; rintro e w1 ⟨rfl, hb⟩; have HB : Hid (Below _ _ w1) := hb; clear hb) | fail)
        refine (HK.out _ ((below_cells _ _ _).trans (HB.out.mono (by simp)))).mono ?_
        rintro e w2 ⟨hb, v, rfl, hown⟩
        have HB2 : Hid (Below _ _ w2) := hb
        have HO : Hid (w2.ownsRow _ 42 5 v l.length (tkl l)) := hown
        obtain ⟨z0, z1, z2, z3, z4⟩ := zer_cells (keep_block (at_zero3 HB.out) hb)
        clear hb hown
        go_wp2
        refine bodyPost_ret (v := .tuple #[v, .agg #[.int .i64 0, .int .i64 0, .int .i64 0]]) (by simp [results, Tryd.results9, go_sem, z0, z1, z2]) rfl ⟨below_set3 (HB.out.trans (HB2.out.mono HB.out.size)) _ _ _, v, rfl, own_set3 HO.out (lt_of_block (at_zero3 HB.out))⟩
      | bad c f t =>
        rw [hr] at HK
        go_enter Tryd.func9, Tryd.ntmps9
        go_wp2_with (first | (go_at_call 22; refine (HC.out _ (below_cells _ _ _)).mono ?_; rintro e w1 ⟨rfl, hb⟩; have HB : Hid (Below _ _ w1) := hb; clear hb) | fail)
        refine (HK.out _ ((below_cells _ _ _).trans (HB.out.mono (by simp)))).mono ?_
        rintro e w2 ⟨hb, he⟩
        simp only at he
        subst he
        have HB2 : Hid (Below _ _ w2) := hb
        obtain ⟨z0, z1, z2, z3, z4⟩ := zer_cells (keep_block (at_zero3 HB.out) hb)
        clear hb
        go_wp2
        exact bodyPost_ret (v := .tuple #[.slice none 0 0, .agg #[.int .i64 c, .int .i64 f, .int .i64 t]]) (by simp [results, Tryd.results9, go_sem, z0, z1, z2]) rfl ⟨below_set3 (HB.out.trans (HB2.out.mono HB.out.size)) _ _ _, rfl⟩
end Go.Proofs.YtgdbfedagdlgkaaDoor
