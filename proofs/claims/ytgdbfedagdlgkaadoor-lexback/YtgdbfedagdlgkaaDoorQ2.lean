/- Whether a token has a text of its kind: the document's walk. -/
import Derived.Test.YtgdbfedagdlgkaaDoorQ1
namespace Go.Proofs.YtgdbfedagdlgkaaDoor
open Go.RowKit Go.Shelf
set_option maxHeartbeats 2000000 in
theorem right41 (k v f o : Int) (s : ByteArray) (w : World) (hT : Tb w) (hs : s.size ≤ 140737488355328) (hv0 : -9223372036854775808 ≤ v) (hv1 : v ≤ 9223372036854775807) :
    Calls Tryd.prog 41 #[tkv k s v f o] w fun e w' => e = .returned (.bool (rgB k s.data.toList v)) ∧ Below w.heap.size w w' := by
  have HN : Hid (∀ W, Calls Tryd.prog 16 #[.string s] W fun e w' => e = .returned (.bool (nameB s.data.toList)) ∧ Below W.heap.size W w') := fun W => name16 s W (by unfold maxLen; omega)
  have HW : Hid (∀ W, Calls Tryd.prog 14 #[.string s] W fun e w' => e = .returned (.bool (wdB s.data.toList)) ∧ Below W.heap.size W w') := fun W => word14 s W
  have HF : Hid (∀ W, Below w.heap.size w W → Calls Tryd.prog 49 #[.int .i64 v, .int .i64 10] W fun e w' => e = .returned (.string ⟨(Lib.itoa v).toArray⟩) ∧ Below W.heap.size W w') := fun W hW => itoa49 v hv0 hv1 W (hT.below hW (Nat.le_refl _))
  have HS : Hid (∀ W, 0 < s.size → Calls Tryd.prog 32 #[.string s, .int .i64 (0 : Nat)] W fun e w' => e = .returned (.string (s.extract 0 (0 + rsg (s.data.toList.drop 0)))) ∧ Below W.heap.size W w') := fun W h0 => sign32 s 0 W hs h0
  have hl := ByteArray.toList_eq s
  have hL := len_of s
  unfold rgB tkv
  clear hT
  by_cases h1 : k = 1
  · subst h1
    rw [if_pos rfl]
    generalize nameB s.data.toList = b at *
    go_enter Tryd.func41, Tryd.ntmps41
    go_wp2_with (go_at_call 16; refine (HN.out _).mono ?_; rintro e w1 ⟨rfl, hb⟩; have HB : Hid (Below w.heap.size w w1) := (below_cells w _ _).trans (hb.mono (by simp)); clear hb)
    go_ret
    exact ⟨rfl, HB.out⟩
  · rw [if_neg h1]
    have h1b : (k == 1) = false := by simpa using h1
    by_cases h2 : k = 2
    · subst h2
      rw [if_pos rfl]
      generalize wdB s.data.toList = b at *
      go_enter Tryd.func41, Tryd.ntmps41
      go_wp2_with (go_at_call 14; refine (HW.out _).mono ?_; rintro e w1 ⟨rfl, hb⟩; have HB : Hid (Below w.heap.size w w1) := (below_cells w _ _).trans (hb.mono (by simp)); clear hb)
      go_ret
      exact ⟨rfl, HB.out⟩
    · rw [if_neg h2]
      have h2b : (k == 2) = false := by simpa using h2
      by_cases h3 : k = 3
      · subst h3
        rw [if_pos rfl]
        generalize hi : Lib.itoa v = it at *
        have hx : (ByteArray.mk it.toArray).toList = it := by rw [ByteArray.toList_eq]
        by_cases hv : 0 ≤ v
        · rw [decide_eq_true hv, Bool.true_and]
          go_enter Tryd.func41, Tryd.ntmps41
          go_wp2_with fail
          have g0 : (w.alloc (.cells #[.int .i64 3, .string s, .int .i64 v, .int .i64 f, .int .i64 o] 42)).cell? ⟨w.heap.size, 0, none⟩ = some (.int .i64 3) := by simp
          have g1 : (w.alloc (.cells #[.int .i64 3, .string s, .int .i64 v, .int .i64 f, .int .i64 o] 42)).cell? ⟨w.heap.size, 1, none⟩ = some (.string s) := by simp
          have g2 : (w.alloc (.cells #[.int .i64 3, .string s, .int .i64 v, .int .i64 f, .int .i64 o] 42)).cell? ⟨w.heap.size, 2, none⟩ = some (.int .i64 v) := by simp
          have hbw : Below w.heap.size w (w.alloc (.cells #[.int .i64 3, .string s, .int .i64 v, .int .i64 f, .int .i64 o] 42)) := below_cells _ _ _
          have hsz : w.heap.size < (w.alloc (.cells #[.int .i64 3, .string s, .int .i64 v, .int .i64 f, .int .i64 o] 42)).heap.size := by simp
          generalize w.alloc (.cells #[.int .i64 3, .string s, .int .i64 v, .int .i64 f, .int .i64 o] 42) = W0 at *
          have HBW : Hid (Below w.heap.size w W0) := hbw
          have HPC : Hid (∀ W, Below W0.heap.size W0 W → W.cell? ⟨w.heap.size, 0, none⟩ = some (.int .i64 3) ∧ W.cell? ⟨w.heap.size, 1, none⟩ = some (.string s) ∧ W.cell? ⟨w.heap.size, 2, none⟩ = some (.int .i64 v)) := fun W hW => ⟨by rw [(bcell hW).1 _ _ hsz]; exact g0, by rw [(bcell hW).1 _ _ hsz]; exact g1, by rw [(bcell hW).1 _ _ hsz]; exact g2⟩
          have HZ : Hid (Below W0.heap.size W0 W0) := Below.refl _ _
          have HF' : Hid (∀ W, Below W0.heap.size W0 W → Calls Tryd.prog 49 #[.int .i64 v, .int .i64 10] W fun e w' => e = .returned (.string ⟨it.toArray⟩) ∧ Below W0.heap.size W0 w') := fun W hW => (HF.out W (hbw.trans (hW.mono hbw.size))).mono fun _ _ ⟨he, hb⟩ => ⟨he, hW.trans (hb.mono hW.size)⟩
          clear hbw HF
          go_region_held3 (fun w' => Below W0.heap.size W0 w' ∧ w'.cell? ⟨w.heap.size, 0, none⟩ = some (.int .i64 3) ∧ w'.cell? ⟨w.heap.size, 1, none⟩ = some (.string s) ∧ w'.cell? ⟨w.heap.size, 2, none⟩ = some (.int .i64 v)) (first | assumption | (refine ⟨?_, ?_, ?_, ?_⟩ <;> (first | assumption | (exact HZ.out) | (exact HZ.out.trans ⟨rfl, rfl, rfl, Nat.le_refl _, fun _ _ => rfl⟩) | (simp; done) | (simp; assumption)))) (first | (go_at_call 49; refine (HF'.out _ (by first | exact HZ.out.trans ⟨rfl, rfl, rfl, Nat.le_refl _, fun _ _ => rfl⟩ | assumption | exact And.left (by assumption))).mono ?_; rintro e w5 ⟨rfl, hB5⟩; obtain ⟨f0, f1, f2⟩ := HPC.out w5 hB5))
          go_wp2
          go_ret
          exact ⟨rfl, HBW.out.trans (hB5.mono HBW.out.size)⟩
        · rw [decide_eq_false hv, Bool.false_and]
          have hvb : decide (0 ≤ v) = false := decide_eq_false hv
          go_enter Tryd.func41, Tryd.ntmps41
          go_wp2
          refine wp_region_any (by kernel_rfl) ?_
          change wpAny _ _ _ _ _ _ _ (World.drew _)
          refine wpAny_take (i := 0) (v := ?_) rfl (by kernel_rfl) (by kernel_rfl) (by kernel_rfl) (fun _ _ _ h => h) (Or.inl ⟨by rfl, ?_⟩) ?_
          case refine_2 => ((intro w; go_simp) <;> with_reducible rfl)
          go_simp
          refine wpAny_ready (rs := [1]) (by kernel_rfl) (by simp) ?_
          refine AllReady.cons rfl ?_ AllReady.nil
          intro K hK
          go_simp
          refine hK _ _ ?_
          clear hK K
          refine wpAny_take (i := 2) (v := ?_) rfl (by kernel_rfl) (by kernel_rfl) (by kernel_rfl) (fun _ _ _ h => h) (Or.inl ⟨by rfl, ?_⟩) ?_
          case refine_2 => ((intro w; go_simp) <;> with_reducible rfl)
          go_simp
          refine wpAny_take (i := 3) (v := ?_) rfl (by kernel_rfl) (by kernel_rfl) (by kernel_rfl) (fun _ _ _ h => h) (Or.inl ⟨by rfl, ?_⟩) ?_
          case refine_2 => ((intro w; go_simp) <;> with_reducible rfl)
          go_simp
          refine wpAny_take (i := 4) (v := undef) rfl (by kernel_rfl) (by kernel_rfl) (by kernel_rfl) (fun _ _ _ h => h) (Or.inr ⟨by rfl, rfl⟩) ?_
          go_simp
          refine wpAny_take (i := 6) (v := undef) rfl (by kernel_rfl) (by kernel_rfl) (by kernel_rfl) (fun _ _ _ h => h) (Or.inr ⟨by rfl, rfl⟩) ?_
          go_simp
          refine wpAny_take (i := 5) (v := undef) rfl (by kernel_rfl) (by kernel_rfl) (by kernel_rfl) (fun _ _ _ h => h) (Or.inr ⟨by rfl, rfl⟩) ?_
          go_simp
          refine wpAny_take (i := 7) (v := undef) rfl (by kernel_rfl) (by kernel_rfl) (by kernel_rfl) (fun _ _ _ h => h) (Or.inr ⟨by rfl, rfl⟩) ?_
          go_simp
          refine wpAny_take (i := 8) (v := undef) rfl (by kernel_rfl) (by kernel_rfl) (by kernel_rfl) (fun _ _ _ h => h) (Or.inr ⟨by rfl, rfl⟩) ?_
          go_simp
          refine wpAny_take (i := 9) (v := undef) rfl (by kernel_rfl) (by kernel_rfl) (by kernel_rfl) (fun _ _ _ h => h) (Or.inr ⟨by rfl, rfl⟩) ?_
          go_simp
          refine wpAny_take (i := 10) (v := ?_) rfl (by kernel_rfl) (by kernel_rfl) (by kernel_rfl) (fun _ _ _ h => h) (Or.inl ⟨by rfl, ?_⟩) ?_
          case refine_2 => ((intro w; go_simp) <;> with_reducible rfl)
          go_simp
          refine wpAny_take (i := 11) (v := ?_) rfl (by kernel_rfl) (by kernel_rfl) (by kernel_rfl) (fun _ _ _ h => h) (Or.inl ⟨by rfl, ?_⟩) ?_
          case refine_2 => ((intro w; go_simp) <;> with_reducible rfl)
          go_simp
          refine wpAny_done (by kernel_rfl) ?_ _
          go_wp2
          go_ret
          exact ⟨rfl, (below_cells w _ _).drew⟩
      · rw [if_neg h3]
        have h3b : (k == 3) = false := by simpa using h3
        by_cases h4 : k = 4
        · subst h4
          rw [if_pos rfl]
          rw [Nat.zero_add, List.drop_zero] at HS
          generalize hr : rsg s.data.toList = r at *
          have hx : (s.extract 0 r).toList = s.data.toList.take r := by rw [ByteArray.toList_eq, toList_upto]
          by_cases h0 : s.data.toList = []
          · have hb0 : (s.data.toList == []) = true := by simpa using h0
            rw [hb0, Bool.not_true, Bool.false_and]
            obtain rfl : s = ⟨#[]⟩ := bytes_ext (by simpa using h0)
            go_enter Tryd.func41, Tryd.ntmps41
            go_wp2
            refine wp_region_any (by kernel_rfl) ?_
            change wpAny _ _ _ _ _ _ _ (World.drew _)
            refine wpAny_take (i := 0) (v := ?_) rfl (by kernel_rfl) (by kernel_rfl) (by kernel_rfl) (fun _ _ _ h => h) (Or.inl ⟨by rfl, ?_⟩) ?_
            case refine_2 => ((intro w; go_simp) <;> with_reducible rfl)
            go_simp
            refine wpAny_ready (rs := [1]) (by kernel_rfl) (by simp) ?_
            refine AllReady.cons rfl ?_ AllReady.nil
            intro K hK
            go_simp
            refine hK _ _ ?_
            clear hK K
            refine wpAny_take (i := 2) (v := ?_) rfl (by kernel_rfl) (by kernel_rfl) (by kernel_rfl) (fun _ _ _ h => h) (Or.inl ⟨by rfl, ?_⟩) ?_
            case refine_2 => ((intro w; go_simp) <;> with_reducible rfl)
            go_simp
            refine wpAny_take (i := 3) (v := ?_) rfl (by kernel_rfl) (by kernel_rfl) (by kernel_rfl) (fun _ _ _ h => h) (Or.inl ⟨by rfl, ?_⟩) ?_
            case refine_2 => ((intro w; go_simp) <;> with_reducible rfl)
            go_simp
            refine wpAny_take (i := 4) (v := undef) rfl (by kernel_rfl) (by kernel_rfl) (by kernel_rfl) (fun _ _ _ h => h) (Or.inr ⟨by rfl, rfl⟩) ?_
            go_simp
            refine wpAny_take (i := 7) (v := undef) rfl (by kernel_rfl) (by kernel_rfl) (by kernel_rfl) (fun _ _ _ h => h) (Or.inr ⟨by rfl, rfl⟩) ?_
            go_simp
            refine wpAny_take (i := 5) (v := undef) rfl (by kernel_rfl) (by kernel_rfl) (by kernel_rfl) (fun _ _ _ h => h) (Or.inr ⟨by rfl, rfl⟩) ?_
            go_simp
            refine wpAny_take (i := 8) (v := undef) rfl (by kernel_rfl) (by kernel_rfl) (by kernel_rfl) (fun _ _ _ h => h) (Or.inr ⟨by rfl, rfl⟩) ?_
            go_simp
            refine wpAny_take (i := 6) (v := undef) rfl (by kernel_rfl) (by kernel_rfl) (by kernel_rfl) (fun _ _ _ h => h) (Or.inr ⟨by rfl, rfl⟩) ?_
            go_simp
            refine wpAny_take (i := 9) (v := undef) rfl (by kernel_rfl) (by kernel_rfl) (by kernel_rfl) (fun _ _ _ h => h) (Or.inr ⟨by rfl, rfl⟩) ?_
            go_simp
            refine wpAny_take (i := 10) (v := ?_) rfl (by kernel_rfl) (by kernel_rfl) (by kernel_rfl) (fun _ _ _ h => h) (Or.inl ⟨by rfl, ?_⟩) ?_
            case refine_2 => ((intro w; go_simp) <;> with_reducible rfl)
            go_simp
            refine wpAny_take (i := 11) (v := ?_) rfl (by kernel_rfl) (by kernel_rfl) (by kernel_rfl) (fun _ _ _ h => h) (Or.inl ⟨by rfl, ?_⟩) ?_
            case refine_2 => ((intro w; go_simp) <;> with_reducible rfl)
            go_simp
            refine wpAny_done (by kernel_rfl) ?_ _
            go_wp2
            go_ret
            exact ⟨rfl, (below_cells w _ _).drew⟩
          · have hb0 : (s.data.toList == []) = false := by simpa using h0
            have hne : s.data.isEmpty = false := by simpa using h0
            have hs0 : 0 < s.size := by rw [← hL]; exact List.length_pos_iff.2 h0
            rw [hb0, Bool.not_false, Bool.true_and]
            go_enter Tryd.func41, Tryd.ntmps41
            go_wp2_with fail
            have g0 : (w.alloc (.cells #[.int .i64 4, .string s, .int .i64 v, .int .i64 f, .int .i64 o] 42)).cell? ⟨w.heap.size, 0, none⟩ = some (.int .i64 4) := by simp
            have g1 : (w.alloc (.cells #[.int .i64 4, .string s, .int .i64 v, .int .i64 f, .int .i64 o] 42)).cell? ⟨w.heap.size, 1, none⟩ = some (.string s) := by simp
            have g2 : (w.alloc (.cells #[.int .i64 4, .string s, .int .i64 v, .int .i64 f, .int .i64 o] 42)).cell? ⟨w.heap.size, 2, none⟩ = some (.int .i64 v) := by simp
            have hbw : Below w.heap.size w (w.alloc (.cells #[.int .i64 4, .string s, .int .i64 v, .int .i64 f, .int .i64 o] 42)) := below_cells _ _ _
            have hsz : w.heap.size < (w.alloc (.cells #[.int .i64 4, .string s, .int .i64 v, .int .i64 f, .int .i64 o] 42)).heap.size := by simp
            generalize w.alloc (.cells #[.int .i64 4, .string s, .int .i64 v, .int .i64 f, .int .i64 o] 42) = W0 at *
            have HBW : Hid (Below w.heap.size w W0) := hbw
            have HPC : Hid (∀ W, Below W0.heap.size W0 W → W.cell? ⟨w.heap.size, 0, none⟩ = some (.int .i64 4) ∧ W.cell? ⟨w.heap.size, 1, none⟩ = some (.string s) ∧ W.cell? ⟨w.heap.size, 2, none⟩ = some (.int .i64 v)) := fun W hW => ⟨by rw [(bcell hW).1 _ _ hsz]; exact g0, by rw [(bcell hW).1 _ _ hsz]; exact g1, by rw [(bcell hW).1 _ _ hsz]; exact g2⟩
            have HZ : Hid (Below W0.heap.size W0 W0) := Below.refl _ _
            have HS' : Hid (∀ W, Below W0.heap.size W0 W → Calls Tryd.prog 32 #[.string s, .int .i64 0] W fun e w' => e = .returned (.string (s.extract 0 r)) ∧ Below W0.heap.size W0 w') := fun W hW => (HS.out W hs0).mono fun _ _ ⟨he, hb⟩ => ⟨he, hW.trans (hb.mono hW.size)⟩
            clear hbw HS
            go_region_held3 (fun w' => Below W0.heap.size W0 w' ∧ w'.cell? ⟨w.heap.size, 0, none⟩ = some (.int .i64 4) ∧ w'.cell? ⟨w.heap.size, 1, none⟩ = some (.string s) ∧ w'.cell? ⟨w.heap.size, 2, none⟩ = some (.int .i64 v)) (first | assumption | (refine ⟨?_, ?_, ?_, ?_⟩ <;> (first | assumption | (exact HZ.out) | (exact HZ.out.trans ⟨rfl, rfl, rfl, Nat.le_refl _, fun _ _ => rfl⟩) | (simp; done) | (simp; assumption)))) (first | (go_at_call 32; refine (HS'.out _ (by first | exact HZ.out.trans ⟨rfl, rfl, rfl, Nat.le_refl _, fun _ _ => rfl⟩ | assumption | exact And.left (by assumption))).mono ?_; rintro e w5 ⟨rfl, hB5⟩; obtain ⟨f0, f1, f2⟩ := HPC.out w5 hB5))
            go_wp2
            go_ret
            exact ⟨rfl, HBW.out.trans (hB5.mono HBW.out.size)⟩
        · rw [if_neg h4]
          have h4b : (k == 4) = false := by simpa using h4
          go_enter Tryd.func41, Tryd.ntmps41
          go_wp2
          go_ret
          exact ⟨rfl, below_cells _ _ _⟩
end Go.Proofs.YtgdbfedagdlgkaaDoor
