/- The pages of a memory, copied, by Base, rising: the walk (Pages). -/
import Derived.Test.YtndbkkldfinggabV1
namespace Go.Proofs.Ytndbkkldfinggab
open Go.RowKit Go.Shelf
attribute [local go_sem] Oper.semAt_some
theorem stepIn_append {F : Fence} {n : Nat} {P : Program} {ops : Array Oper} {o : Oper} {a : Act} {w : World} {K : Act → World → Prop} {Q : Exit → Act → World → Prop} {E : Prop} {v u : Value} (hgd : o.guard = none) (s x : Operand) (t : TypeId) (ho : o.op = .call { callee := .builtin .append, args := #[s, x], argTypes := #[t, t] }) (hs : a.eval s = v) (hx : a.eval x = u) (v' : Value) (w' : World) (hr : (Builtin.append_ #[t, t] o.type #[v, u]).run P w = .ok v' w') (h : K (a.put o.dst v') w') : if Region.wanted o (yielded ops a.tmps) = true then Oper.wpIn F n P o a w K Q else E := by
  have hw : Region.wanted o (yielded ops a.tmps) = true := by simp [Region.wanted, hgd]
  rw [if_pos hw]
  unfold Oper.wpIn
  refine ⟨by simp [Oper.about, ho, resolve, Target.leads, Sem.run_pure], ?_⟩
  rw [Oper.semAt_plain F _ _ (by rw [ho]; intro c hc'; cases hc')]
  simp [execOp, ho, resolve, invoke, builtin, hs, hx, hr, Result.andThen]
  exact h
set_option maxRecDepth 100000 in
set_option maxHeartbeats 2000000 in
theorem pages35 (b r : Nat) (ps : List Pgd) (bt : Nat → Nat → Int) (w : World) (h : Mm w b r ps bt) (hlen : ps.length ≤ 65536) :
    Calls Try.prog 35 #[.pointer (some ⟨b, 0, none⟩)] w fun e w' => ∃ v qs, e = .returned v ∧ w'.ownsRow w.heap.size 62 3 v ps.length (rowP qs) ∧ Cops w.heap.size ps bt w' (List.finRange ps.length) qs ∧ Below w.heap.size w w' := by
  obtain ⟨i0, hi, hz0, hz1, hz2⟩ := info_parts info62
  have HM : Hid (Mm w b r ps bt) := h
  have l1 := lt_of_cell h.cell
  have l3 := lt_of_some h.map
  clear h
  refine (callsIn_wide (n := 9)).1 ?_
  refine callsIn_of_wp_marks Try.func35 rfl trivial ?_ rfl
  simp only [Try.ntmps35, List.size_toArray, List.length_cons, List.length_nil, Nat.reduceAdd, Nat.reduceSub, Array.replicate_succ, Array.replicate_zero, List.push_toArray, List.append_toArray, List.nil_append, List.cons_append]
  gi_wp2_with fail
  refine ⟨trivial, ?_⟩
  refine (callsIn_wide.2 (inOrder36 b _)).mono ?_
  rintro e w1 ⟨rfl, e1⟩
  subst e1
  gi_wp2_with fail
  obtain ⟨W0, hW0⟩ : ∃ W0, ((w.alloc (.cells #[.slice none 0 0] 22)).alloc (.cells #[.pointer (some ⟨b, 0, none⟩)] 26)) = W0 := ⟨_, rfl⟩
  have hB0 : Below w.heap.size w W0 := by rw [← hW0]; exact ((Below.refl _ w).alloc (Nat.le_refl _) _).alloc (by simp) _
  have b0 : Boxed W0 w.heap.size 22 (.slice none 0 0) := by rw [← hW0]; exact (Boxed.new w 22 _).alloc _
  have m0 : Boxed W0 (w.heap.size + 1) 26 (.pointer (some ⟨b, 0, none⟩)) := by rw [← hW0]; have := Boxed.new (w.alloc (.cells #[.slice none 0 0] 22)) 26 (.pointer (some ⟨b, 0, none⟩)); simpa using this
  have hs0 : W0.heap.size = w.heap.size + 2 := by rw [← hW0]; simp
  rw [hW0]
  clear hW0
  refine wpIn_rangeFunc_ownH rfl (by omega) (gf := 50) (lb := #[.pointer (some ⟨w.heap.size + 1, 0, none⟩)]) rfl trivial (enters_of Try.func50 (by kernel_rfl) rfl)
    (order50 8 b r (w.heap.size + 1) ps W0 (by omega) m0.cell (HM.out.below hB0).cell (HM.out.below hB0).map hlen)
    (fun h k => h.trans k)
    (fun W l o o' hl ho hc _ => KeepO.put (B := W0.heap.size) W l o o' (by omega) (by omega) (by omega) hl ho hc)
    (Below.refl _ _) (fun _ => rfl)
    (fun (pre : List (Fin ps.length)) W => (∃ v qs, (Boxed W w.heap.size 22 v ∧ Boxed W (w.heap.size + 1) 26 (.pointer (some ⟨b, 0, none⟩))) ∧ W.ownsRow w.heap.size 62 3 v pre.length (rowP qs) ∧ Cops w.heap.size ps bt W pre qs) ∧ W0.heap.size ≤ W.heap.size ∧ Below w.heap.size w W)
    (fun _ _ _ => False)
    (fun s A B row hh hg hr => by
      obtain ⟨⟨v, qs, ⟨hv, hvm⟩, ho, hl, hc⟩, hsz, hB⟩ := hh
      refine ⟨⟨v, qs, ⟨hv.kept hg (by intro e; have := (hr _ e.symm).1; omega), hvm.kept hg (by intro e; have := (hr _ e.symm).1; omega)⟩, ?_, hl, fun i x y h1 h2 => ?_⟩, Nat.le_trans hsz hg.size, hB.grown hg hB.size (fun k e => by have := (hr k e).1; omega)⟩
      · refine ho.kept hg ?_
        rcases ho.2 with ⟨rfl, _⟩ | ⟨g, cap, cur, rfl, _, hgb, _⟩
        · exact .inl rfl
        · refine .inr (fun e => ?_)
          obtain ⟨_, o, hoo, hcc⟩ := hr g e.symm
          rw [hgb] at hoo; cases hoo; cases hcc
      · have c := hc i x y h1 h2
        refine c.kept hg (fun e => ?_)
        obtain ⟨_, o, ho, hcc⟩ := hr _ e
        obtain ⟨cur, hcur⟩ := c.own
        rw [hcur] at ho; cases ho; cases hcc)
    (fun _ _ _ _ _ hs _ _ => hs)
    ⟨⟨_, [], ⟨b0, m0⟩, World.ownsRow_nil _ _ _ _, rfl, by simp⟩, Nat.le_refl _, hB0⟩
    (fun x a' W => ∃ q, W0.heap.size ≤ q ∧ W.heap[q]? = some (.cells #[.int .u64 (ordP ps x.1).k, .int .i64 (ordP ps x.1).p, .slice (some ⟨(ordP ps x.1).g, 0, none⟩) 4096 (ordP ps x.1).c] 62) ∧ a' = { tmps := #[.pointer (some ⟨b, 0, none⟩), undef, .slice none 0 0, .pointer (some ⟨w.heap.size, 0, none⟩), .pointer (some ⟨q, 0, none⟩), .pointer (some ⟨b, 0, none⟩), .func (.func 50) #[] #[.pointer (some ⟨w.heap.size + 1, 0, none⟩)], pval (ordP ps x.1), undef, undef, undef, undef, undef, undef], defers := [] })
    (fun x a' s A B row hh hg hr => by obtain ⟨q, h1, h2, h3⟩ := hh; exact ⟨q, h1, (hg.block q (lt_of_some h2) (fun e => by obtain ⟨_, o, ho, hc⟩ := hr q e.symm; rw [h2] at ho; cases ho; cases hc)).trans h2, h3⟩)
    ?assign ?body ?done ?stop
  case assign =>
    intro l pre x W K hI hK
    obtain ⟨⟨v, qs, ⟨i1, im⟩, irow, il, ic⟩, hsz, hB⟩ := hI
    have HK : Hid (∀ a' W', KeepsFrom W0.heap.size W W' → KeepO b r (w.heap.size + 1) W W' → ((∃ v qs, (Boxed W' w.heap.size 22 v ∧ Boxed W' (w.heap.size + 1) 26 (.pointer (some ⟨b, 0, none⟩))) ∧ W'.ownsRow w.heap.size 62 3 v pre.length (rowP qs) ∧ Cops w.heap.size ps bt W' pre qs) ∧ W0.heap.size ≤ W'.heap.size ∧ Below w.heap.size w W') → _ → K a' W') := hK
    have HI : Hid ((Boxed W w.heap.size 22 v ∧ Boxed W (w.heap.size + 1) 26 (.pointer (some ⟨b, 0, none⟩))) ∧ W.ownsRow w.heap.size 62 3 v pre.length (rowP qs) ∧ Cops w.heap.size ps bt W pre qs ∧ Below w.heap.size w W) := ⟨⟨i1, im⟩, irow, ⟨il, ic⟩, hB⟩
    clear hK i1 im irow il ic hB
    unfold pval
    gi_wp2
    have hg := World.grownBy_alloc W (.cells #[.int .u64 (ordP ps x.1).k, .int .i64 (ordP ps x.1).p, .slice (some ⟨(ordP ps x.1).g, 0, none⟩) 4096 (ordP ps x.1).c] 62) none
    obtain ⟨⟨i1, im⟩, irow, ⟨il, ic⟩, hB⟩ := HI.out
    exact HK.out _ _ (KeepsFrom.of_grownBy hg (by intro k e; cases e)) (KeepO.grown hg (by omega) (by omega) (by omega)) ⟨⟨v, qs, ⟨i1.alloc _, im.alloc _⟩, irow.alloc _, il, fun i x' y h1 h2 => (ic i x' y h1 h2).kept hg (by intro e; cases e)⟩, by simp; omega, hB.alloc (by omega) _⟩ ⟨W.heap.size, hsz, heap_at _ _, rfl⟩
  case body =>
    rintro l pre x a' W hl0 _ ⟨⟨v, qs, ⟨hv, hvm⟩, hrow, hl, hcs⟩, hsz, hB⟩ ⟨q, hq, hqc, rfl⟩ hlt
    have hxm : ordP ps x.1 ∈ ps := (pg_k (ordP_k ps x.1 x.2)).2
    unfold pval
    obtain ⟨xx, hxx⟩ : ∃ xx, ordP ps x.1 = xx := ⟨_, rfl⟩
    have HXX : Hid (ordP ps x.1 = xx) := hxx
    rw [hxx] at hqc hxm ⊢
    clear hxx
    obtain ⟨xk, xp, xg, xc⟩ := xx
    dsimp only at hqc ⊢
    have hc := hv.cell
    have hf := hv.frozen
    have c2 : W.cell? ⟨q, 0, none⟩ = some (.int .u64 xk) := by simp [World.cell?, hqc]
    have c3 : W.cell? ⟨q, 1, none⟩ = some (.int .i64 xp) := by simp [World.cell?, hqc]
    have c4 : W.cell? ⟨q, 2, none⟩ = some (.slice (some ⟨xg, 0, none⟩) 4096 xc) := by simp [World.cell?, hqc]
    have ql : q < W.heap.size := lt_of_some hqc
    have HB : Hid (Below w.heap.size w W) := hB
    have HV : Hid (Boxed W w.heap.size 22 v ∧ Boxed W (w.heap.size + 1) 26 (.pointer (some ⟨b, 0, none⟩))) := ⟨hv, hvm⟩
    have HR : Hid (W.ownsRow w.heap.size 62 3 v pre.length (rowP qs)) := hrow
    have HC : Hid (∀ (i : Nat) (x : Fin ps.length) (y : Pgd), pre[i]? = some x → qs[i]? = some y → Cop w.heap.size bt W (ordP ps x.1) y) := hcs
    have HCo : Hid (Calls Try.prog 29 #[.agg #[.int .u64 xk, .int .i64 xp, .slice (some ⟨xg, 0, none⟩) 4096 xc]] W.drew fun e w' => ∃ g cap v' w5, e = .returned (.agg #[.int .u64 xk, .int .i64 xp, .slice (some ⟨g, 0, none⟩) 4096 cap]) ∧ w'.cell? ⟨w.heap.size, 0, none⟩ = some v ∧ (Builtin.append_ #[22, 22] 22 #[v, .slice (some ⟨w'.heap.size, 0, none⟩) 1 1]).run Try.prog (w'.alloc (.cells #[.int .u64 xk, .int .i64 xp, .slice (some ⟨g, 0, none⟩) 4096 cap] 62)) = .ok v' w5 ∧ w5.cell? ⟨w.heap.size, 0, none⟩ = some v ∧ w5.frozen? ⟨w.heap.size, 0, none⟩ = false ∧ Grew w W0 W b r ps bt pre qs xk xp xg g cap v' (w5.setCell ⟨w.heap.size, 0, none⟩ v')) := round35 b r ps bt w W0 W HM hlen hs0 hsz pre qs v xk xp xg xc hxm hlt hl HB HV HR HC
    clear hv hvm hrow hcs hB hxm hqc
    gi_wp2_with fail
    refine wpIn_region_any (by kernel_rfl) ?_
    change wpAnyIn _ _ _ _ _ _ _ _ _ (World.drew _)
    refine wpAnyIn_ready (rs := [0, 1]) (by kernel_rfl) (by simp) (AllReadyIn.cons rfl (fun K hK => ?_) (AllReadyIn.cons rfl (fun K hK => ?_) AllReadyIn.nil))
    · (go_simp; refine hK _ _ ?_; clear hK K)
      refine wpAnyIn_ready (rs := [1]) (by kernel_rfl) (by simp) (AllReadyIn.cons rfl (fun K hK => ?_) AllReadyIn.nil)
      (go_simp; refine hK _ _ ?_; clear hK K)
      refine wpAnyIn_ready (rs := [2]) (by kernel_rfl) (by simp) (AllReadyIn.cons rfl (fun K hK => ?_) AllReadyIn.nil)
      (go_simp; refine ⟨trivial, ?_⟩; refine (callsIn_wide.2 HCo.out).mono ?_; rintro e w4 ⟨g, cap, v', w5, rfl, dc, hap, dc5, df5, hfin⟩; have HF : Hid (Grew w W0 W b r ps bt pre qs xk xp xg g cap v' (w5.setCell ⟨w.heap.size, 0, none⟩ v')) := hfin; clear hfin; obtain ⟨g2, cap2, rfl⟩ := ownsRow_succ HF.out.row; have dl : w.heap.size < w4.heap.size := lt_of_cell dc; refine hK _ _ ?_; clear hK K)
      refine wpAnyIn_ready (rs := [3]) (by kernel_rfl) (by simp) (AllReadyIn.cons rfl (fun K hK => ?_) AllReadyIn.nil)
      (go_simp; refine hK _ _ ?_; clear hK K)
      refine wpAnyIn_ready (rs := [4]) (by kernel_rfl) (by simp) (AllReadyIn.cons rfl (fun K hK => ?_) AllReadyIn.nil)
      (refine stepIn_append rfl _ _ _ rfl rfl rfl _ _ hap (hK _ _ ?_); clear hK K)
      refine wpAnyIn_ready (rs := [5]) (by kernel_rfl) (by simp) (AllReadyIn.cons rfl (fun K hK => ?_) AllReadyIn.nil)
      (go_simp; refine hK _ _ ?_; clear hK K)
      refine wpAnyIn_done (by kernel_rfl) ?_ _
      exact ⟨HF.out.keeps, HF.out.keep, ⟨_, qs ++ [⟨xk, xp, g, cap⟩], ⟨HF.out.box, HF.out.boxm⟩, by rw [List.length_append, List.length_singleton]; exact HF.out.row, HF.out.cops x (by rw [HXX.out]) (by rw [HXX.out]) (by rw [HXX.out])⟩, HF.out.size, HF.out.below⟩
    · (go_simp; refine hK _ _ ?_; clear hK K)
      refine wpAnyIn_ready (rs := [0, 2]) (by kernel_rfl) (by simp) (AllReadyIn.cons rfl (fun K hK => ?_) (AllReadyIn.cons rfl (fun K hK => ?_) AllReadyIn.nil))
      · (go_simp; refine hK _ _ ?_; clear hK K)
        refine wpAnyIn_ready (rs := [2]) (by kernel_rfl) (by simp) (AllReadyIn.cons rfl (fun K hK => ?_) AllReadyIn.nil)
        (go_simp; refine ⟨trivial, ?_⟩; refine (callsIn_wide.2 HCo.out).mono ?_; rintro e w4 ⟨g, cap, v', w5, rfl, dc, hap, dc5, df5, hfin⟩; have HF : Hid (Grew w W0 W b r ps bt pre qs xk xp xg g cap v' (w5.setCell ⟨w.heap.size, 0, none⟩ v')) := hfin; clear hfin; obtain ⟨g2, cap2, rfl⟩ := ownsRow_succ HF.out.row; have dl : w.heap.size < w4.heap.size := lt_of_cell dc; refine hK _ _ ?_; clear hK K)
        refine wpAnyIn_ready (rs := [3]) (by kernel_rfl) (by simp) (AllReadyIn.cons rfl (fun K hK => ?_) AllReadyIn.nil)
        (go_simp; refine hK _ _ ?_; clear hK K)
        refine wpAnyIn_ready (rs := [4]) (by kernel_rfl) (by simp) (AllReadyIn.cons rfl (fun K hK => ?_) AllReadyIn.nil)
        (refine stepIn_append rfl _ _ _ rfl rfl rfl _ _ hap (hK _ _ ?_); clear hK K)
        refine wpAnyIn_ready (rs := [5]) (by kernel_rfl) (by simp) (AllReadyIn.cons rfl (fun K hK => ?_) AllReadyIn.nil)
        (go_simp; refine hK _ _ ?_; clear hK K)
        refine wpAnyIn_done (by kernel_rfl) ?_ _
        exact ⟨HF.out.keeps, HF.out.keep, ⟨_, qs ++ [⟨xk, xp, g, cap⟩], ⟨HF.out.box, HF.out.boxm⟩, by rw [List.length_append, List.length_singleton]; exact HF.out.row, HF.out.cops x (by rw [HXX.out]) (by rw [HXX.out]) (by rw [HXX.out])⟩, HF.out.size, HF.out.below⟩
      · (go_simp; refine ⟨trivial, ?_⟩; refine (callsIn_wide.2 HCo.out).mono ?_; rintro e w4 ⟨g, cap, v', w5, rfl, dc, hap, dc5, df5, hfin⟩; have HF : Hid (Grew w W0 W b r ps bt pre qs xk xp xg g cap v' (w5.setCell ⟨w.heap.size, 0, none⟩ v')) := hfin; clear hfin; obtain ⟨g2, cap2, rfl⟩ := ownsRow_succ HF.out.row; have dl : w.heap.size < w4.heap.size := lt_of_cell dc; refine hK _ _ ?_; clear hK K)
        refine wpAnyIn_ready (rs := [0, 3]) (by kernel_rfl) (by simp) (AllReadyIn.cons rfl (fun K hK => ?_) (AllReadyIn.cons rfl (fun K hK => ?_) AllReadyIn.nil))
        · (go_simp; refine hK _ _ ?_; clear hK K)
          refine wpAnyIn_ready (rs := [3]) (by kernel_rfl) (by simp) (AllReadyIn.cons rfl (fun K hK => ?_) AllReadyIn.nil)
          (go_simp; refine hK _ _ ?_; clear hK K)
          refine wpAnyIn_ready (rs := [4]) (by kernel_rfl) (by simp) (AllReadyIn.cons rfl (fun K hK => ?_) AllReadyIn.nil)
          (refine stepIn_append rfl _ _ _ rfl rfl rfl _ _ hap (hK _ _ ?_); clear hK K)
          refine wpAnyIn_ready (rs := [5]) (by kernel_rfl) (by simp) (AllReadyIn.cons rfl (fun K hK => ?_) AllReadyIn.nil)
          (go_simp; refine hK _ _ ?_; clear hK K)
          refine wpAnyIn_done (by kernel_rfl) ?_ _
          exact ⟨HF.out.keeps, HF.out.keep, ⟨_, qs ++ [⟨xk, xp, g, cap⟩], ⟨HF.out.box, HF.out.boxm⟩, by rw [List.length_append, List.length_singleton]; exact HF.out.row, HF.out.cops x (by rw [HXX.out]) (by rw [HXX.out]) (by rw [HXX.out])⟩, HF.out.size, HF.out.below⟩
        · (go_simp; refine hK _ _ ?_; clear hK K)
          refine wpAnyIn_ready (rs := [0]) (by kernel_rfl) (by simp) (AllReadyIn.cons rfl (fun K hK => ?_) AllReadyIn.nil)
          (go_simp; refine hK _ _ ?_; clear hK K)
          refine wpAnyIn_ready (rs := [4]) (by kernel_rfl) (by simp) (AllReadyIn.cons rfl (fun K hK => ?_) AllReadyIn.nil)
          (refine stepIn_append rfl _ _ _ rfl rfl rfl _ _ hap (hK _ _ ?_); clear hK K)
          refine wpAnyIn_ready (rs := [5]) (by kernel_rfl) (by simp) (AllReadyIn.cons rfl (fun K hK => ?_) AllReadyIn.nil)
          (go_simp; refine hK _ _ ?_; clear hK K)
          refine wpAnyIn_done (by kernel_rfl) ?_ _
          exact ⟨HF.out.keeps, HF.out.keep, ⟨_, qs ++ [⟨xk, xp, g, cap⟩], ⟨HF.out.box, HF.out.boxm⟩, by rw [List.length_append, List.length_singleton]; exact HF.out.row, HF.out.cops x (by rw [HXX.out]) (by rw [HXX.out]) (by rw [HXX.out])⟩, HF.out.size, HF.out.below⟩
  case done =>
    rintro D ys W hD hS ⟨⟨v, qs, ⟨hv, hvm⟩, hrow, hcl, hcs⟩, hsz, hB⟩ hK
    subst hS
    have hc := hv.cell
    have HX : Hid (W.ownsRow w.heap.size 62 3 v (List.finRange ps.length).length (rowP qs) ∧ qs.length = (List.finRange ps.length).length ∧ ∀ (i : Nat) (x : Fin ps.length) (y : Pgd), (List.finRange ps.length)[i]? = some x → qs[i]? = some y → Cop w.heap.size bt W (ordP ps x.1) y) := ⟨hrow, hcl, hcs⟩
    clear hrow hcl hcs
    gi_wp2
    refine ⟨by simp, .inl ⟨_, _, rfl, run_takeDeferred hK, ?_⟩⟩
    obtain ⟨hrow, hcl, hcs⟩ := HX.out
    have hg := grownBy_putObj' W D (.deferred none)
    refine ⟨_, results_tmp rfl _ _ _, v, qs, rfl, ?_, ⟨hcl, fun i x y h1 h2 => (hcs i x y h1 h2).kept hg (fun e => ?_)⟩, hB.trans (belowK_b (w := w) (Nat.le_refl _) W D _ _ (by omega) hK rfl rfl)⟩
    · have t := ownsRow_putObj hrow (.deferred none) hK rfl
      rw [List.length_finRange] at t
      exact t
    · obtain ⟨cur, hcur⟩ := (hcs i x y h1 h2).own
      rw [← Option.some.inj e, hK] at hcur
      cases hcur
  case stop =>
    rintro D c pre W _ _ h _
    exact h.elim
end Go.Proofs.Ytndbkkldfinggab
