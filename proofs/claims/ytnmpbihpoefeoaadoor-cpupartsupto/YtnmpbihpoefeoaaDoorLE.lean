/- Of a memory: its pages in order (T5). Of a memory: its pages in order (T6). -/
import Derived.Test.YtnmpbihpoefeoaaDoorJJ
import Derived.Maps.Range
import Derived.Maps.RangeRun
import Derived.RangeFuncKeeps
import Derived.RangeFuncWrites
import Derived.RangeFuncNested
import Derived.RangeFuncBox
import Derived.Maps.AppendAt
namespace Go.Proofs.YtnmpbihpoefeoaaDoor
section
open Go.RowKit Go.Shelf
theorem ents_mem : ∀ (ps : List Pgd) (m : Nat) (e : MapEntry), e ∈ entsFrom m ps → ∃ (i : Nat) (h : i < ps.length), e = { key := .int .u64 ps[i].k, val := pval ps[i], born := m + i }
  | [], _, _, h => by cases h
  | y :: r, m, e, h => by
    simp only [entsFrom, List.mem_cons] at h
    rcases h with rfl | h
    · exact ⟨0, by simp, rfl⟩
    · obtain ⟨i, hi, rfl⟩ := ents_mem r (m + 1) e h
      exact ⟨i + 1, by simp; exact hi, by simp; omega⟩
theorem ents_at : ∀ (ps : List Pgd) (m i : Nat) (h : i < ps.length), ({ key := .int .u64 ps[i].k, val := pval ps[i], born := m + i } : MapEntry) ∈ entsFrom m ps
  | [], _, _, h => by cases h
  | y :: r, m, 0, h => by simp [entsFrom]
  | y :: r, m, i + 1, h => by
    have t := ents_at r (m + 1) i (by simpa using h)
    simp only [entsFrom, List.mem_cons]
    right
    rw [show m + 1 + i = m + (i + 1) by omega] at t
    exact t
theorem ents_born : ∀ (ps : List Pgd) (m : Nat), (entsFrom m ps).map (·.born) = List.range' m ps.length
  | [], _ => rfl
  | y :: r, m => by simp [entsFrom, ents_born r (m + 1), List.range'_succ]
theorem ents_len : ∀ (ps : List Pgd) (m : Nat), (entsFrom m ps).length = ps.length
  | [], _ => rfl
  | y :: r, m => by simp [entsFrom, ents_len r (m + 1)]
set_option maxRecDepth 100000 in
set_option maxHeartbeats 2000000 in
theorem keys57 (n0 r Bm : Nat) (ps : List Pgd) (w : World) (hn : 1 ≤ n0) (hm : w.cell? ⟨Bm, 0, none⟩ = some (.map (some r))) (hr : w.heap[r]? = some (.map (entsFrom 0 ps).toArray ps.length)) :
    SeqStopsK Fence.wide n0 Tryd.prog 68 #[.pointer (some ⟨Bm, 0, none⟩)] (fun x : Fin ps.length => #[.int .u64 ps[x.1].k]) KeepsWalks (fun ys => ys.Perm (List.finRange ps.length)) (fun _ => True) ps.length w := fun l J Jx W hW hJ hJx hY h0 => by
  have h1 : W.cell? ⟨Bm, 0, none⟩ = some (.map (some r)) := (hW.cell (p := ⟨Bm, 0, none⟩) (lt_of_cell hm)).trans hm
  have HR : Hid (W.heap[r]? = some (.map (entsFrom 0 ps).toArray ps.length)) := (hW.block r (lt_of_some hr)).trans hr
  have HJ : Hid (AbidesFrom W.heap.size J) := hJ
  have HY : Hid (∀ pre x W1, J pre W1 → pre.length < ps.length → YieldAt Fence.wide (n0 - 1) Tryd.prog l #[.int .u64 ps[x.1].k] W1 fun e W' => (e = .returned (.bool true) ∧ J (pre ++ [x]) W' ∧ KeepsWalks W1 W') ∨ (e = .returned (.bool false) ∧ Jx (pre ++ [x]) W')) := hY
  have H0 : Hid (J [] W) := h0
  have hrange : (Instr.range 82 (.map (some r))).run Tryd.prog W = .ok (.pointer (some ⟨W.heap.size, 0, none⟩)) (W.alloc (.mapIter (some r) ps.length #[] ps.length)) := by
    exact run_range_map W 82 22 51 r _ _ und42' HR.out
  clear hJ hJx hY h0 hm hr hW
  refine callsIn_of_wp Tryd.func68 rfl trivial ?_ rfl
  simp only [Tryd.ntmps68, List.size_toArray, List.length_cons, List.length_nil, Nat.reduceAdd, Nat.reduceSub, Array.replicate_succ, Array.replicate_zero, List.push_toArray, List.append_toArray, List.nil_append, List.cons_append]
  gi_wp2_with fail
  gi_loopw [3] (fun _ wr => ∃ (is : List (Fin ps.length)) (c0 : Nat), is.Nodup ∧ wr.heap[W.heap.size]? = some (.mapIter (some r) ps.length (is.map (·.1)).toArray c0) ∧ ps.length ≤ c0 ∧ wr.heap[r]? = some (.map (entsFrom 0 ps).toArray ps.length) ∧ (leftOf (entsFrom 0 ps).toArray (is.map (·.1)).toArray).size + is.length ≤ ps.length ∧ J is wr) (fun _ wr => wr.rangeLeft r W.heap.size)
  case atStart =>
    refine ⟨[], ps.length, List.nodup_nil, heap_at W _, Nat.le_refl _, heap_on HR.out _, ?_, HJ.out _ _ _ none H0.out (World.grownBy_alloc _ _ _) (by intro j h; cases h)⟩
    have : (leftOf (entsFrom 0 ps).toArray #[]).size ≤ ps.length := by
      have t := Array.size_filter_le (p := fun e : MapEntry => !(#[] : Array Nat).contains e.born) (xs := (entsFrom 0 ps).toArray)
      exact Nat.le_trans t (by simp [ents_len])
    simpa using this
  case round =>
    obtain ⟨is, c0, hnd, hit, hc0, hmp, hcnt, hj⟩ := hrel
    rcases run_next_at (P := Tryd.prog) wr 0 W.heap.size r ps.length c0 (is.map (·.1)).toArray (entsFrom 0 ps).toArray ps.length hit hmp (fun x hx => by
      obtain ⟨i, hi, rfl⟩ := ents_mem ps 0 x (by simpa using hx)
      show 0 + i < _; omega) hc0 with ⟨hz, hnx⟩ | ⟨e, he, w1, hw1, hnx⟩
    · have HE : Hid (is.Perm (List.finRange ps.length)) := by
        refine (List.perm_ext_iff_of_nodup hnd (List.nodup_finRange _)).2 (fun x => ⟨fun _ => List.mem_finRange x, fun _ => ?_⟩)
        have t := all_seen _ _ hz _ (by simpa using ents_at ps 0 x.1 x.2)
        simp at t
        obtain ⟨y, hy1, hy2⟩ := t
        have : y = x := Fin.ext (by omega)
        rw [← this]; exact hy1
      have HJ1 : Hid (J is wr) := hj
      clear hj hit hmp
      gi_wp2
      go_end0
      exact ⟨⟨_, rfl⟩, .inl ⟨is, HE.out, HJ1.out⟩⟩
    · obtain ⟨he1, he2⟩ := mem_left he
      obtain ⟨i, hi, rfl⟩ := ents_mem ps 0 e (by simpa using he1)
      simp only [Nat.zero_add] at he he1 he2 hnx
      have hsh := left_shrinks _ _ _ he
      simp only [] at hsh
      obtain ⟨w2, hw2⟩ : ∃ w2, (Go.ChangeMaps.setBlock w1 W.heap.size (.mapIter (some r) ps.length ((is.map (·.1)).toArray.push i) ps.length)) = w2 := ⟨_, rfl⟩
      rw [hw2] at hnx
      have hw1h : w1.heap = wr.heap ∧ w1.os = wr.os ∧ w1.tape = wr.tape ∧ w1.output = wr.output := by rcases hw1 with rfl | rfl <;> exact ⟨rfl, rfl, rfl, rfl⟩
      have hil : W.heap.size < wr.heap.size := lt_of_some hit
      have hrn : r ≠ W.heap.size := by intro e; rw [e, hit] at hmp; cases hmp
      have k1 : w2.heap[W.heap.size]? = some (.mapIter (some r) ps.length ((is ++ [(⟨i, hi⟩ : Fin ps.length)]).map (·.1)).toArray ps.length) := by
        rw [← hw2]
        show (w1.heap.setIfInBounds _ _)[_]? = _
        rw [Array.getElem?_setIfInBounds_self_of_lt (by rw [hw1h.1]; exact hil)]
        simp
      have k2 : ∀ k, k ≠ W.heap.size → w2.heap[k]? = wr.heap[k]? := fun k hk => by
        rw [← hw2, ← hw1h.1]
        show (w1.heap.setIfInBounds _ _)[_]? = _
        rw [Array.getElem?_setIfInBounds_ne (by omega)]
      have k3 : w2.heap.size = wr.heap.size := by rw [← hw2, ← hw1h.1]; show (w1.heap.setIfInBounds _ _).size = _; simp
      have hg : wr.grownBy w2 (some W.heap.size) := ⟨by rw [← hw2]; exact hw1h.2.1, by rw [← hw2]; exact hw1h.2.2.1, by rw [← hw2]; exact hw1h.2.2.2, by omega, fun k hk hne => k2 k (by intro e; exact hne (by rw [e]))⟩
      have hmp2 : w2.heap[r]? = some (.map (entsFrom 0 ps).toArray ps.length) := (k2 r hrn).trans hmp
      have HJ2 : Hid (J is w2) := HJ.out is wr w2 _ hj hg (fun k e => by cases e; exact ⟨Nat.le_refl _, _, hit, rfl⟩)
      have hent := run_entry_at (P := Tryd.prog) w2 W.heap.size r ps.length (is.map (·.1)).toArray (entsFrom 0 ps).toArray ps.length ⟨.int .u64 ps[i].k, pval ps[i], i⟩ (by rw [k1]; simp) hmp2 he1 (by rw [List.toList_toArray, ents_born]; exact List.nodup_range')
      simp only [pval] at hent hnx
      obtain ⟨fn, tmps, assign, body, hy, hR⟩ := HY.out is ⟨i, hi⟩ w2 HJ2.out (by omega)
      have hnin : (⟨i, hi⟩ : Fin ps.length) ∉ is := by
        intro hmem
        have : (is.map (·.1)).toArray.contains i = true := by simp; exact ⟨⟨i, hi⟩, hmem, rfl⟩
        rw [this] at he2
        cases he2
      have HK : Hid (is.Nodup ∧ (⟨i, hi⟩ : Fin ps.length) ∉ is ∧ w2.heap[W.heap.size]? = some (.mapIter (some r) ps.length ((is ++ [(⟨i, hi⟩ : Fin ps.length)]).map (·.1)).toArray ps.length) ∧ w2.heap[r]? = some (.map (entsFrom 0 ps).toArray ps.length) ∧ (leftOf (entsFrom 0 ps).toArray ((is.map (·.1)).toArray.push i)).size < (leftOf (entsFrom 0 ps).toArray (is.map (·.1)).toArray).size ∧ wr.rangeLeft r W.heap.size = (leftOf (entsFrom 0 ps).toArray (is.map (·.1)).toArray).size) := ⟨hnd, hnin, k1, hmp2, hsh, by unfold World.rangeLeft; rw [hmp, hit]⟩
      clear hw2 hw1 hw1h k1 k2 k3 hg hmp2 hnd hit hmp hj he he1 he2 hsh
      gi_wp2_with fail
      refine hR.mono ?_
      rintro e W' (⟨rfl, hJ', hk'⟩ | ⟨rfl, hJx'⟩)
      · have HJ' : Hid (J (is ++ [⟨i, hi⟩]) W') := hJ'
        obtain ⟨q1, q2, q3, q4, q5, q6⟩ := HK.out
        have r3 := hk'.same _ _ q3 rfl
        have r4 := hk'.same _ _ q4 rfl
        have HK2 : Hid (W'.heap[W.heap.size]? = some (.mapIter (some r) ps.length ((is ++ [(⟨i, hi⟩ : Fin ps.length)]).map (·.1)).toArray ps.length) ∧ W'.heap[r]? = some (.map (entsFrom 0 ps).toArray ps.length)) := ⟨r3, r4⟩
        have HL : Hid ((leftOf (entsFrom 0 ps).toArray ((is ++ [(⟨i, hi⟩ : Fin ps.length)]).map (·.1)).toArray).size < (leftOf (entsFrom 0 ps).toArray (is.map (·.1)).toArray).size) := (by simpa using q5 : (leftOf (entsFrom 0 ps).toArray ((is ++ [(⟨i, hi⟩ : Fin ps.length)]).map (·.1)).toArray).size < (leftOf (entsFrom 0 ps).toArray (is.map (·.1)).toArray).size)
        clear hJ' hk' q3 q4 q5 q6 r3 r4 hy hnx hent
        gi_wp2
        go_roundw
        case rel => exact ⟨is ++ [⟨i, hi⟩], ps.length, by rw [List.nodup_append]; exact ⟨q1, by simp, fun x hx y hy => by rw [List.mem_singleton] at hy; subst hy; intro e; subst e; exact q2 hx⟩, HK2.out.1, Nat.le_refl _, HK2.out.2, by have := HL.out; rw [List.length_append, List.length_singleton]; omega, HJ'.out⟩
        case measure =>
          rw [HK.out.2.2.2.2.2]
          unfold World.rangeLeft
          rw [HK2.out.1, HK2.out.2]
          exact HL.out
      · have HX' : Hid (Jx (is ++ [⟨i, hi⟩]) W') := hJx'
        clear hJx' hy hnx hent
        gi_wp2
        refine bodyPost_ret (results_none rfl _ _ _) rfl ?_
        exact ⟨⟨_, rfl⟩, .inr ⟨_, trivial, HX'.out⟩⟩
end
section
open Go.RowKit Go.Shelf
attribute [local go_sem] Oper.semAt_some
theorem info23 : (Tryd.prog.info? 22).map (fun i => (i.zero, i.size, i.bytes)) = some (some (.int .u64 0), 1, 8) := by kernel_rfl
def keyV (ps : List Pgd) (x : Fin ps.length) : Value := .int .u64 ps[x.1].k
set_option maxHeartbeats 1000000 in
theorem keys52 (mb : Option Nat) (w : World) : Calls Tryd.prog 54 #[.map mb] w fun e w' => e = .returned (.func (.func 68) #[] #[.pointer (some ⟨w.heap.size, 0, none⟩)]) ∧ w' = w.alloc (.cells #[.map mb] 82) := by
  go_enter Tryd.func54, Tryd.ntmps54
  go_wp2
  go_ret
  exact ⟨rfl, rfl⟩
set_option maxRecDepth 100000 in
set_option maxHeartbeats 2000000 in
theorem appendSeq58 (r Bm : Nat) (ps : List Pgd) (w : World) (hm : w.cell? ⟨Bm, 0, none⟩ = some (.map (some r))) (hr : w.heap[r]? = some (.map (entsFrom 0 ps).toArray ps.length)) (hlen : ps.length ≤ 65536) :
    Calls Tryd.prog 78 #[.slice none 0 0, .func (.func 68) #[] #[.pointer (some ⟨Bm, 0, none⟩)]] w fun e w' => ∃ v, ∃ ys : List (Fin ps.length), e = .returned v ∧ ys.Perm (List.finRange ps.length) ∧ w'.ownsRow w.heap.size 22 1 v ys.length (ys.map (keyV ps)) ∧ (v = .slice none 0 0 ↔ ys = []) ∧ Below w.heap.size w w' := by
  obtain ⟨i0, hi, hz0, hz1, hz2⟩ := info_parts info23
  refine (callsIn_wide (n := 4)).1 ?_
  refine callsIn_of_wp_marks Tryd.func78 rfl trivial ?_ rfl
  simp only [Tryd.ntmps78, List.size_toArray, List.length_cons, List.length_nil, Nat.reduceAdd, Nat.reduceSub, Array.replicate_succ, Array.replicate_zero, List.push_toArray, List.append_toArray, List.nil_append, List.cons_append]
  gi_wp2_with fail
  obtain ⟨W0, hW0⟩ : ∃ W0, (w.alloc (.cells #[.slice none 0 0] 98)) = W0 := ⟨_, rfl⟩
  have b0 : Boxed W0 w.heap.size 98 (.slice none 0 0) := by rw [← hW0]; exact Boxed.new w 98 _
  have hs0 : W0.heap.size = w.heap.size + 1 := by rw [← hW0]; simp
  have hB0 : Below w.heap.size w W0 := by rw [← hW0]; exact (Below.refl _ w).alloc (Nat.le_refl _) _
  rw [hW0]
  clear hW0
  refine wpIn_rangeFunc_ownG rfl (by omega) (gf := 68) (lb := #[.pointer (some ⟨Bm, 0, none⟩)]) rfl trivial (enters_of Tryd.func68 (by kernel_rfl) rfl)
    (keys57 3 r Bm ps W0 (by omega) ((hB0.cell (p := ⟨Bm, 0, none⟩) (lt_of_cell hm)).trans hm) ((hB0.block r (lt_of_some hr)).trans hr))
    walksK_t walksK_b (Below.refl _ _) (fun _ => rfl)
    (fun pre W => (∃ v, Boxed W w.heap.size 98 v ∧ W.ownsRow w.heap.size 22 1 v pre.length (pre.map (keyV ps)) ∧ (v = .slice none 0 0 ↔ pre = [])) ∧ (W0.heap.size ≤ W.heap.size ∧ Below w.heap.size w W))
    (fun _ _ _ => False)
    (fun s A B row hh hg hrow => ⟨(Own.from (holdsRow_own w.heap.size w.heap.size 98 22 1 (fun pre : List (Fin ps.length) => pre.length) (fun pre => pre.map (keyV ps)) (fun pre v => (v = .slice none 0 0 ↔ pre = []))) _) s A B row hh.1 hg hrow, Nat.le_trans hh.2.1 hg.size, hh.2.2.grown hg hh.2.2.size (fun k e => by have := (hrow k e).1; omega)⟩)
    (fun _ _ _ _ _ hs _ _ => hs)
    ⟨⟨_, b0, World.ownsRow_nil _ _ _ _, by simp⟩, Nat.le_refl _, hB0⟩
    (fun x => { tmps := #[.slice none 0 0, .func (.func 68) #[] #[.pointer (some ⟨Bm, 0, none⟩)], .pointer (some ⟨w.heap.size, 0, none⟩), undef, .slice none 0 0, keyV ps x, .func (.func 68) #[] #[.pointer (some ⟨Bm, 0, none⟩)], keyV ps x, undef, undef, undef, undef, undef], defers := [] }) ?assign ?body ?done ?stop
  case assign =>
    intro l x W K hK
    unfold keyV at hK
    gi_wp2
    exact hK
  case body =>
    rintro l pre x W ⟨⟨v, hv, hrow, hnil⟩, hsz, hB⟩ hlt
    have hc := hv.cell
    unfold keyV
    gi_wp2_with (first | (gi_at_builtin; refine wpListIn_append_own _ rfl _ _ 98 rfl w.heap.size 22 i0 (.int .u64 0) 1 8 Tryd.underlying98 hi hz0 hz1 hz2 rfl (by decide) _ _ _ rfl (hrow.alloc _) ⟨W.heap.size, 0, none⟩ 1 1 [.int .u64 ps[x.1].k] rfl rfl (cell_one_new _ _ _) (by simp [Value.oneCell']) (by unfold maxLen; omega) (by omega) (by have := hB.size; simp; omega) ?_; intro v' w1 hown' hgrow _; obtain ⟨g', cap', rfl⟩ := ownsRow_succ hown'; obtain ⟨hv1, hv2, hr2, hk2, hb2⟩ := hv.appended (by decide) hrow hB.size (Nat.le_refl _) hown' hgrow; have hc1 := hv1.cell; have hf1 := hv1.frozen))
    refine ⟨hk2.from _, hk2.walks, ⟨_, hv2, ?_, by simp⟩, Nat.le_trans hsz hb2.size, hB.trans hb2⟩
    rw [List.length_append, List.length_singleton, List.map_append, List.map_singleton]
    exact hr2
  case done =>
    rintro D ys W hD hS ⟨⟨v, hv, hrow, hnil⟩, hsz, hB⟩ hK
    have hc := hv.cell
    gi_wp2
    refine ⟨by simp, .inl ⟨_, _, rfl, run_takeDeferred hK, ?_⟩⟩
    exact ⟨_, results_tmp rfl _ _ _, v, ys, rfl, hS, ownsRow_putObj hrow _ hK rfl, hnil, hB.trans (belowK_b (w := w) (Nat.le_refl _) W D _ _ (by omega) hK rfl rfl)⟩
  case stop =>
    rintro D c pre W _ _ h _
    exact h.elim
set_option maxHeartbeats 1000000 in
theorem collect55 (r Bm : Nat) (ps : List Pgd) (w : World) (hm : w.cell? ⟨Bm, 0, none⟩ = some (.map (some r))) (hr : w.heap[r]? = some (.map (entsFrom 0 ps).toArray ps.length)) (hlen : ps.length ≤ 65536) :
    Calls Tryd.prog 66 #[.func (.func 68) #[] #[.pointer (some ⟨Bm, 0, none⟩)]] w fun e w' => ∃ v, ∃ ys : List (Fin ps.length), e = .returned v ∧ ys.Perm (List.finRange ps.length) ∧ w'.ownsRow w.heap.size 22 1 v ys.length (ys.map (keyV ps)) ∧ (v = .slice none 0 0 ↔ ys = []) ∧ Below w.heap.size w w' := by
  have HA : Hid (Calls Tryd.prog 78 #[.slice none 0 0, .func (.func 68) #[] #[.pointer (some ⟨Bm, 0, none⟩)]] w fun e w' => ∃ v, ∃ ys : List (Fin ps.length), e = .returned v ∧ ys.Perm (List.finRange ps.length) ∧ w'.ownsRow w.heap.size 22 1 v ys.length (ys.map (keyV ps)) ∧ (v = .slice none 0 0 ↔ ys = []) ∧ Below w.heap.size w w') := appendSeq58 r Bm ps w hm hr hlen
  clear hm hr
  go_enter Tryd.func66, Tryd.ntmps66
  go_wp2_with fail
  refine HA.out.mono ?_
  rintro e w1 ⟨v, ys, rfl, h1, h2, h3, h4⟩
  have HX : Hid (ys.Perm (List.finRange ps.length) ∧ w1.ownsRow w.heap.size 22 1 v ys.length (ys.map (keyV ps)) ∧ (v = .slice none 0 0 ↔ ys = []) ∧ Below w.heap.size w w1) := ⟨h1, h2, h3, h4⟩
  clear h1 h2 h3 h4
  go_wp2
  go_ret
  exact ⟨v, ys, rfl, HX.out⟩
end
end Go.Proofs.YtnmpbihpoefeoaaDoor
