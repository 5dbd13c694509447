/- The keys of a memory's map, collected (slices.AppendSeq, Collect). -/
import Derived.Test.YtndbkkldfinggabT5
import Derived.RangeFuncWrites
import Derived.RangeFuncNested
import Derived.RangeFuncBox
import Derived.Maps.AppendAt
namespace Go.Proofs.Ytndbkkldfinggab
open Go.RowKit Go.Shelf
attribute [local go_sem] Oper.semAt_some
theorem info23 : (Try.prog.info? 23).map (fun i => (i.zero, i.size, i.bytes)) = some (some (.int .u64 0), 1, 8) := by kernel_rfl
def keyV (ps : List Pgd) (x : Fin ps.length) : Value := .int .u64 ps[x.1].k
set_option maxHeartbeats 1000000 in
theorem keys52 (mb : Option Nat) (w : World) : Calls Try.prog 52 #[.map mb] w fun e w' => e = .returned (.func (.func 57) #[] #[.pointer (some ⟨w.heap.size, 0, none⟩)]) ∧ w' = w.alloc (.cells #[.map mb] 65) := by
  go_enter Try.func52, Try.ntmps52
  go_wp2
  go_ret
  exact ⟨rfl, rfl⟩
set_option maxRecDepth 100000 in
set_option maxHeartbeats 2000000 in
theorem appendSeq58 (r Bm : Nat) (ps : List Pgd) (w : World) (hm : w.cell? ⟨Bm, 0, none⟩ = some (.map (some r))) (hr : w.heap[r]? = some (.map (entsFrom 0 ps).toArray ps.length)) (hlen : ps.length ≤ 65536) :
    Calls Try.prog 58 #[.slice none 0 0, .func (.func 57) #[] #[.pointer (some ⟨Bm, 0, none⟩)]] w fun e w' => ∃ v, ∃ ys : List (Fin ps.length), e = .returned v ∧ ys.Perm (List.finRange ps.length) ∧ w'.ownsRow w.heap.size 23 1 v ys.length (ys.map (keyV ps)) ∧ (v = .slice none 0 0 ↔ ys = []) ∧ Below w.heap.size w w' := by
  obtain ⟨i0, hi, hz0, hz1, hz2⟩ := info_parts info23
  refine (callsIn_wide (n := 4)).1 ?_
  refine callsIn_of_wp_marks Try.func58 rfl trivial ?_ rfl
  simp only [Try.ntmps58, List.size_toArray, List.length_cons, List.length_nil, Nat.reduceAdd, Nat.reduceSub, Array.replicate_succ, Array.replicate_zero, List.push_toArray, List.append_toArray, List.nil_append, List.cons_append]
  gi_wp2_with fail
  obtain ⟨W0, hW0⟩ : ∃ W0, (w.alloc (.cells #[.slice none 0 0] 90)) = W0 := ⟨_, rfl⟩
  have b0 : Boxed W0 w.heap.size 90 (.slice none 0 0) := by rw [← hW0]; exact Boxed.new w 90 _
  have hs0 : W0.heap.size = w.heap.size + 1 := by rw [← hW0]; simp
  have hB0 : Below w.heap.size w W0 := by rw [← hW0]; exact (Below.refl _ w).alloc (Nat.le_refl _) _
  rw [hW0]
  clear hW0
  refine wpIn_rangeFunc_ownG rfl (by omega) (gf := 57) (lb := #[.pointer (some ⟨Bm, 0, none⟩)]) rfl trivial (enters_of Try.func57 (by kernel_rfl) rfl)
    (keys57 3 r Bm ps W0 (by omega) ((hB0.cell (p := ⟨Bm, 0, none⟩) (lt_of_cell hm)).trans hm) ((hB0.block r (lt_of_some hr)).trans hr))
    walksK_t walksK_b (Below.refl _ _) (fun _ => rfl)
    (fun pre W => (∃ v, Boxed W w.heap.size 90 v ∧ W.ownsRow w.heap.size 23 1 v pre.length (pre.map (keyV ps)) ∧ (v = .slice none 0 0 ↔ pre = [])) ∧ (W0.heap.size ≤ W.heap.size ∧ Below w.heap.size w W))
    (fun _ _ _ => False)
    (fun s A B row hh hg hrow => ⟨(Own.from (holdsRow_own w.heap.size w.heap.size 90 23 1 (fun pre : List (Fin ps.length) => pre.length) (fun pre => pre.map (keyV ps)) (fun pre v => (v = .slice none 0 0 ↔ pre = []))) _) s A B row hh.1 hg hrow, Nat.le_trans hh.2.1 hg.size, hh.2.2.grown hg hh.2.2.size (fun k e => by have := (hrow k e).1; omega)⟩)
    (fun _ _ _ _ _ hs _ _ => hs)
    ⟨⟨_, b0, World.ownsRow_nil _ _ _ _, by simp⟩, Nat.le_refl _, hB0⟩
    (fun x => { tmps := #[.slice none 0 0, .func (.func 57) #[] #[.pointer (some ⟨Bm, 0, none⟩)], .pointer (some ⟨w.heap.size, 0, none⟩), undef, .slice none 0 0, keyV ps x, .func (.func 57) #[] #[.pointer (some ⟨Bm, 0, none⟩)], keyV ps x, undef, undef, undef, undef, undef], defers := [] }) ?assign ?body ?done ?stop
  case assign =>
    intro l x W K hK
    unfold keyV at hK
    gi_wp2
    exact hK
  case body =>
    rintro l pre x W ⟨⟨v, hv, hrow, hnil⟩, hsz, hB⟩ hlt
    have hc := hv.cell
    unfold keyV
    gi_wp2_with (first | (gi_at_builtin; refine wpListIn_append_own _ rfl _ _ 90 rfl w.heap.size 23 i0 (.int .u64 0) 1 8 Try.underlying90 hi hz0 hz1 hz2 rfl (by decide) _ _ _ rfl (hrow.alloc _) ⟨W.heap.size, 0, none⟩ 1 1 [.int .u64 ps[x.1].k] rfl rfl (cell_one_new _ _ _) (by simp [Value.oneCell']) (by unfold maxLen; omega) (by omega) (by have := hB.size; simp; omega) ?_; intro v' w1 hown' hgrow _; obtain ⟨g', cap', rfl⟩ := ownsRow_succ hown'; obtain ⟨hv1, hv2, hr2, hk2, hb2⟩ := hv.appended (by decide) hrow hB.size (Nat.le_refl _) hown' hgrow; have hc1 := hv1.cell; have hf1 := hv1.frozen))
    refine ⟨hk2.from _, hk2.walks, ⟨_, hv2, ?_, by simp⟩, Nat.le_trans hsz hb2.size, hB.trans hb2⟩
    rw [List.length_append, List.length_singleton, List.map_append, List.map_singleton]
    exact hr2
  case done =>
    rintro D ys W hD hS ⟨⟨v, hv, hrow, hnil⟩, hsz, hB⟩ hK
    have hc := hv.cell
    gi_wp2
    refine ⟨by simp, .inl ⟨_, _, rfl, run_takeDeferred hK, ?_⟩⟩
    exact ⟨_, results_tmp rfl _ _ _, v, ys, rfl, hS, ownsRow_putObj hrow _ hK rfl, hnil, hB.trans (belowK_b (w := w) (Nat.le_refl _) W D _ _ (by omega) hK rfl rfl)⟩
  case stop =>
    rintro D c pre W _ _ h _
    exact h.elim
set_option maxHeartbeats 1000000 in
theorem collect55 (r Bm : Nat) (ps : List Pgd) (w : World) (hm : w.cell? ⟨Bm, 0, none⟩ = some (.map (some r))) (hr : w.heap[r]? = some (.map (entsFrom 0 ps).toArray ps.length)) (hlen : ps.length ≤ 65536) :
    Calls Try.prog 55 #[.func (.func 57) #[] #[.pointer (some ⟨Bm, 0, none⟩)]] w fun e w' => ∃ v, ∃ ys : List (Fin ps.length), e = .returned v ∧ ys.Perm (List.finRange ps.length) ∧ w'.ownsRow w.heap.size 23 1 v ys.length (ys.map (keyV ps)) ∧ (v = .slice none 0 0 ↔ ys = []) ∧ Below w.heap.size w w' := by
  have HA : Hid (Calls Try.prog 58 #[.slice none 0 0, .func (.func 57) #[] #[.pointer (some ⟨Bm, 0, none⟩)]] w fun e w' => ∃ v, ∃ ys : List (Fin ps.length), e = .returned v ∧ ys.Perm (List.finRange ps.length) ∧ w'.ownsRow w.heap.size 23 1 v ys.length (ys.map (keyV ps)) ∧ (v = .slice none 0 0 ↔ ys = []) ∧ Below w.heap.size w w') := appendSeq58 r Bm ps w hm hr hlen
  clear hm hr
  go_enter Try.func55, Try.ntmps55
  go_wp2_with fail
  refine HA.out.mono ?_
  rintro e w1 ⟨v, ys, rfl, h1, h2, h3, h4⟩
  have HX : Hid (ys.Perm (List.finRange ps.length) ∧ w1.ownsRow w.heap.size 23 1 v ys.length (ys.map (keyV ps)) ∧ (v = .slice none 0 0 ↔ ys = []) ∧ Below w.heap.size w w1) := ⟨h1, h2, h3, h4⟩
  clear h1 h2 h3 h4
  go_wp2
  go_ret
  exact ⟨v, ys, rfl, HX.out⟩
end Go.Proofs.Ytndbkkldfinggab
