/- Whether a token has a text of its kind: the program's walk. -/
import Derived.Test.YtgdbfedagdlgkaaDoorB3
import Derived.Deep.RegionHeld3
namespace Go.Proofs.YtgdbfedagdlgkaaDoor
open Go.RowKit Go.Shelf
def fmB (k : Int) (l : List UInt8) (v : Int) (wd : Nat) : Bool := if k = 5 then l == [] else if k = 3 then alB (fst l wd) l 3 && (l == Lib.itoa v) else alB (fst l wd) l k
theorem below_grow0 (w : World) (k : Nat) (os : Array Obj) : Below w.heap.size w (Go.Sort.grow (w.drewN k) os) :=
  ⟨rfl, rfl, rfl, by simp [Go.Sort.grow], fun i hi => by simp [Go.Sort.grow, Array.getElem?_append, hi]⟩
theorem below_growN {w w' : World} (h : ∃ k os, w' = Go.Sort.grow (w.drewN k) os) : Below w.heap.size w w' := by
  obtain ⟨k, os, rfl⟩ := h
  exact below_grow0 w k os
theorem itoa49 (v : Int) (h0 : -9223372036854775808 ≤ v) (h1 : v ≤ 9223372036854775807) (w : World) (hT : Tb w) : Calls Tryd.prog 49 #[.int .i64 v, .int .i64 10] w fun e w' => e = .returned (.string ⟨(Lib.itoa v).toArray⟩) ∧ Below w.heap.size w w' :=
  (Tryd.strconv_FormatInt_10 v h0 h1 w hT.pow).mono fun _ _ ⟨he, hw⟩ => ⟨he, below_growN hw⟩
set_option maxHeartbeats 2000000 in
theorem formed36 (k v f o : Int) (s : ByteArray) (w : World) (hT : Tb w) (hs : s.size ≤ 281474976710656) (hv0 : -9223372036854775808 ≤ v) (hv1 : v ≤ 9223372036854775807) :
    Calls Tryd.prog 36 #[tkv k s v f o] w fun e w' => e = .returned (.bool (fmB k s.data.toList v (Lib.decodeGo s).2)) ∧ Below w.heap.size w w' := by
  have HA : Hid (∀ W kind, Below w.heap.size w W → Calls Tryd.prog 34 #[.string s, .int .i64 kind] W fun e w' => e = .returned (.bool (alB (fst s.data.toList (Lib.decodeGo s).2) s.data.toList kind)) ∧ Below W.heap.size W w') := fun W kind hW => alone34 s kind W (hT.below hW (Nat.le_refl _)) hs
  have HF : Hid (∀ W, Below w.heap.size w W → Calls Tryd.prog 49 #[.int .i64 v, .int .i64 10] W fun e w' => e = .returned (.string ⟨(Lib.itoa v).toArray⟩) ∧ Below W.heap.size W w') := fun W hW => itoa49 v hv0 hv1 W (hT.below hW (Nat.le_refl _))
  have hl := ByteArray.toList_eq s
  unfold fmB
  unfold tkv
  clear hT
  by_cases h5 : k = 5
  · subst h5
    go_enter Tryd.func36, Tryd.ntmps36
    go_wp2
    go_ret
    exact ⟨rfl, below_cells _ _ _⟩
  · rw [if_neg h5]
    have h5b : (k == 5) = false := by simpa using h5
    by_cases h3 : k = 3
    · subst h3
      clear h5
      rw [if_pos rfl]
      generalize alB (fst s.data.toList (Lib.decodeGo s).2) s.data.toList = A at *
      generalize hi : Lib.itoa v = it at *
      have hx : (ByteArray.mk it.toArray).toList = it := by rw [ByteArray.toList_eq]
      obtain ⟨a3, hA⟩ : ∃ a, A 3 = a := ⟨_, rfl⟩
      rw [hA]
      cases a3
      · rw [Bool.false_and]
        go_enter Tryd.func36, Tryd.ntmps36
        go_wp2_with fail
        have g0 : (w.alloc (.cells #[.int .i64 3, .string s, .int .i64 v, .int .i64 f, .int .i64 o] 42)).cell? ⟨w.heap.size, 0, none⟩ = some (.int .i64 3) := by simp
        have g1 : (w.alloc (.cells #[.int .i64 3, .string s, .int .i64 v, .int .i64 f, .int .i64 o] 42)).cell? ⟨w.heap.size, 1, none⟩ = some (.string s) := by simp
        have g2 : (w.alloc (.cells #[.int .i64 3, .string s, .int .i64 v, .int .i64 f, .int .i64 o] 42)).cell? ⟨w.heap.size, 2, none⟩ = some (.int .i64 v) := by simp
        have hbw : Below w.heap.size w (w.alloc (.cells #[.int .i64 3, .string s, .int .i64 v, .int .i64 f, .int .i64 o] 42)) := below_cells _ _ _
        have hsz : w.heap.size < (w.alloc (.cells #[.int .i64 3, .string s, .int .i64 v, .int .i64 f, .int .i64 o] 42)).heap.size := by simp
        generalize w.alloc (.cells #[.int .i64 3, .string s, .int .i64 v, .int .i64 f, .int .i64 o] 42) = W0 at *
        have HBW : Hid (Below w.heap.size w W0) := hbw
        have HPC : Hid (∀ W, Below W0.heap.size W0 W → W.cell? ⟨w.heap.size, 0, none⟩ = some (.int .i64 3) ∧ W.cell? ⟨w.heap.size, 1, none⟩ = some (.string s) ∧ W.cell? ⟨w.heap.size, 2, none⟩ = some (.int .i64 v)) := fun W hW => ⟨by rw [(bcell hW).1 _ _ hsz]; exact g0, by rw [(bcell hW).1 _ _ hsz]; exact g1, by rw [(bcell hW).1 _ _ hsz]; exact g2⟩
        have HA' : Hid (∀ W, Below W0.heap.size W0 W → Calls Tryd.prog 34 #[.string s, .int .i64 3] W fun e w' => e = .returned (.bool false) ∧ Below W0.heap.size W0 w') := fun W hW => (hA ▸ HA.out W 3 (hbw.trans (hW.mono hbw.size))).mono fun _ _ ⟨he, hb⟩ => ⟨he, hW.trans (hb.mono hW.size)⟩
        have HF' : Hid (∀ W, Below W0.heap.size W0 W → Calls Tryd.prog 49 #[.int .i64 v, .int .i64 10] W fun e w' => e = .returned (.string ⟨it.toArray⟩) ∧ Below W0.heap.size W0 w') := fun W hW => (HF.out W (hbw.trans (hW.mono hbw.size))).mono fun _ _ ⟨he, hb⟩ => ⟨he, hW.trans (hb.mono hW.size)⟩
        clear hbw HA HF
        have HZ : Hid (Below W0.heap.size W0 W0) := Below.refl _ _
        refine wp_region_any (by kernel_rfl) ?_
        change wpAny _ _ _ _ _ _ _ (World.drew _)
        refine wpAny_take (i := 0) (v := ?_) rfl (by kernel_rfl) (by kernel_rfl) (by kernel_rfl) (fun _ _ _ h => h) (Or.inl ⟨by rfl, ?_⟩) ?_
        case refine_2 => ((intro w; go_simp) <;> with_reducible rfl)
        go_simp
        refine wpAny_ready (rs := [1]) (by kernel_rfl) (by simp) ?_
        refine AllReady.cons rfl ?_ AllReady.nil
        intro K hK
        go_simp
        refine hK _ _ ?_
        clear hK K
        refine wpAny_ready (rs := [2]) (by kernel_rfl) (by simp) ?_
        refine AllReady.cons rfl ?_ AllReady.nil
        intro K hK
        go_simp
        go_wp2_with fail
        refine (HA'.out _ HZ.out.drew).mono ?_
        rintro e w4 ⟨rfl, hB4⟩
        obtain ⟨e0, e1, e2⟩ := HPC.out w4 hB4
        refine hK _ _ ?_
        clear hK K
        refine wpAny_take (i := 3) (v := ?_) rfl (by kernel_rfl) (by kernel_rfl) (by kernel_rfl) (fun _ _ _ h => h) (Or.inl ⟨by rfl, ?_⟩) ?_
        case refine_2 => ((intro w; go_simp) <;> with_reducible rfl)
        go_simp
        refine wpAny_take (i := 4) (v := undef) rfl (by kernel_rfl) (by kernel_rfl) (by kernel_rfl) (fun _ _ _ h => h) (Or.inr ⟨by rfl, rfl⟩) ?_
        go_simp
        refine wpAny_take (i := 6) (v := undef) rfl (by kernel_rfl) (by kernel_rfl) (by kernel_rfl) (fun _ _ _ h => h) (Or.inr ⟨by rfl, rfl⟩) ?_
        go_simp
        refine wpAny_take (i := 5) (v := undef) rfl (by kernel_rfl) (by kernel_rfl) (by kernel_rfl) (fun _ _ _ h => h) (Or.inr ⟨by rfl, rfl⟩) ?_
        go_simp
        refine wpAny_take (i := 7) (v := undef) rfl (by kernel_rfl) (by kernel_rfl) (by kernel_rfl) (fun _ _ _ h => h) (Or.inr ⟨by rfl, rfl⟩) ?_
        go_simp
        refine wpAny_take (i := 8) (v := undef) rfl (by kernel_rfl) (by kernel_rfl) (by kernel_rfl) (fun _ _ _ h => h) (Or.inr ⟨by rfl, rfl⟩) ?_
        go_simp
        refine wpAny_take (i := 9) (v := undef) rfl (by kernel_rfl) (by kernel_rfl) (by kernel_rfl) (fun _ _ _ h => h) (Or.inr ⟨by rfl, rfl⟩) ?_
        go_simp
        refine wpAny_take (i := 10) (v := ?_) rfl (by kernel_rfl) (by kernel_rfl) (by kernel_rfl) (fun _ _ _ h => h) (Or.inl ⟨by rfl, ?_⟩) ?_
        case refine_2 => ((intro w; go_simp) <;> with_reducible rfl)
        go_simp
        refine wpAny_take (i := 11) (v := ?_) rfl (by kernel_rfl) (by kernel_rfl) (by kernel_rfl) (fun _ _ _ h => h) (Or.inl ⟨by rfl, ?_⟩) ?_
        case refine_2 => ((intro w; go_simp) <;> with_reducible rfl)
        go_simp
        refine wpAny_done (by kernel_rfl) ?_ _
        go_wp2
        go_ret
        exact ⟨rfl, HBW.out.trans (hB4.mono HBW.out.size)⟩
      · rw [Bool.true_and]
        go_enter Tryd.func36, Tryd.ntmps36
        go_wp2_with fail
        have g0 : (w.alloc (.cells #[.int .i64 3, .string s, .int .i64 v, .int .i64 f, .int .i64 o] 42)).cell? ⟨w.heap.size, 0, none⟩ = some (.int .i64 3) := by simp
        have g1 : (w.alloc (.cells #[.int .i64 3, .string s, .int .i64 v, .int .i64 f, .int .i64 o] 42)).cell? ⟨w.heap.size, 1, none⟩ = some (.string s) := by simp
        have g2 : (w.alloc (.cells #[.int .i64 3, .string s, .int .i64 v, .int .i64 f, .int .i64 o] 42)).cell? ⟨w.heap.size, 2, none⟩ = some (.int .i64 v) := by simp
        have hbw : Below w.heap.size w (w.alloc (.cells #[.int .i64 3, .string s, .int .i64 v, .int .i64 f, .int .i64 o] 42)) := below_cells _ _ _
        have hsz : w.heap.size < (w.alloc (.cells #[.int .i64 3, .string s, .int .i64 v, .int .i64 f, .int .i64 o] 42)).heap.size := by simp
        generalize w.alloc (.cells #[.int .i64 3, .string s, .int .i64 v, .int .i64 f, .int .i64 o] 42) = W0 at *
        have HBW : Hid (Below w.heap.size w W0) := hbw
        have HPC : Hid (∀ W, Below W0.heap.size W0 W → W.cell? ⟨w.heap.size, 0, none⟩ = some (.int .i64 3) ∧ W.cell? ⟨w.heap.size, 1, none⟩ = some (.string s) ∧ W.cell? ⟨w.heap.size, 2, none⟩ = some (.int .i64 v)) := fun W hW => ⟨by rw [(bcell hW).1 _ _ hsz]; exact g0, by rw [(bcell hW).1 _ _ hsz]; exact g1, by rw [(bcell hW).1 _ _ hsz]; exact g2⟩
        have HA' : Hid (∀ W, Below W0.heap.size W0 W → Calls Tryd.prog 34 #[.string s, .int .i64 3] W fun e w' => e = .returned (.bool true) ∧ Below W0.heap.size W0 w') := fun W hW => (hA ▸ HA.out W 3 (hbw.trans (hW.mono hbw.size))).mono fun _ _ ⟨he, hb⟩ => ⟨he, hW.trans (hb.mono hW.size)⟩
        have HF' : Hid (∀ W, Below W0.heap.size W0 W → Calls Tryd.prog 49 #[.int .i64 v, .int .i64 10] W fun e w' => e = .returned (.string ⟨it.toArray⟩) ∧ Below W0.heap.size W0 w') := fun W hW => (HF.out W (hbw.trans (hW.mono hbw.size))).mono fun _ _ ⟨he, hb⟩ => ⟨he, hW.trans (hb.mono hW.size)⟩
        clear hbw HA HF
        have HZ : Hid (Below W0.heap.size W0 W0) := Below.refl _ _
        go_region_held3 (fun w' => Below W0.heap.size W0 w' ∧ w'.cell? ⟨w.heap.size, 0, none⟩ = some (.int .i64 3) ∧ w'.cell? ⟨w.heap.size, 1, none⟩ = some (.string s) ∧ w'.cell? ⟨w.heap.size, 2, none⟩ = some (.int .i64 v)) (first | assumption | (refine ⟨?_, ?_, ?_, ?_⟩ <;> (first | assumption | (exact HZ.out) | (exact HZ.out.trans ⟨rfl, rfl, rfl, Nat.le_refl _, fun _ _ => rfl⟩) | (simp; done) | (simp; assumption)))) (first | (go_at_call 34; refine (HA'.out _ (by first | exact HZ.out.trans ⟨rfl, rfl, rfl, Nat.le_refl _, fun _ _ => rfl⟩ | assumption | exact And.left (by assumption))).mono ?_; rintro e w4 ⟨rfl, hB4⟩; obtain ⟨e0, e1, e2⟩ := HPC.out w4 hB4) | (go_at_call 49; refine (HF'.out _ (by first | exact HZ.out.trans ⟨rfl, rfl, rfl, Nat.le_refl _, fun _ _ => rfl⟩ | assumption | exact And.left (by assumption))).mono ?_; rintro e w5 ⟨rfl, hB5⟩; obtain ⟨f0, f1, f2⟩ := HPC.out w5 hB5))
        go_wp2
        go_ret
        exact ⟨rfl, HBW.out.trans (hB5.mono HBW.out.size)⟩
    · rw [if_neg h3]
      have h3b : (k == 3) = false := by simpa using h3
      have HA := (show Hid _ from fun W hW => HA.out W k hW)
      generalize alB (fst s.data.toList (Lib.decodeGo s).2) s.data.toList k = a at *
      go_enter Tryd.func36, Tryd.ntmps36
      go_wp2_with (go_at_call 34; refine (HA.out _ (below_cells _ _ _)).mono ?_; rintro e w1 ⟨rfl, hb⟩; have HB : Hid (Below w.heap.size w w1) := (below_cells w _ _).trans (hb.mono (by simp)); clear hb)
      go_ret
      exact ⟨rfl, HB.out⟩
end Go.Proofs.YtgdbfedagdlgkaaDoor
