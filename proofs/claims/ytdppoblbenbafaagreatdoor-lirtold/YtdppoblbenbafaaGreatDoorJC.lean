/- The document's own look at a function. -/
import Derived.Test.YtdppoblbenbafaaGreatDoorJX
import Derived.Test.YtdppoblbenbafaaGreatDoorGG
namespace Go.Proofs.YtdppoblbenbafaaGreatDoor
open Go.RowKit Go.Shelf
set_option maxHeartbeats 8000000
theorem lex25 : Region.lexB .any (opsOf (Tryz.f25.body.getD .skip) 12).toArray = true := by kernel_rfl
/-- A function's box, as it lies. -/
structure Bx1 (w W : World) (f : Fnh) : Prop where
  g : G w W
  sz : w.heap.size < W.heap.size
  f0 : W.cell? ⟨w.heap.size, 0, none⟩ = some (.string f.nm)
  f1 : W.cell? ⟨w.heap.size, 1, none⟩ = some (.int .i64 f.pa)
  f2 : W.cell? ⟨w.heap.size, 2, none⟩ = some (.int .i64 f.rg)
  f3 : W.cell? ⟨w.heap.size, 3, none⟩ = some (.int .i64 f.fr)
  f4 : W.cell? ⟨w.heap.size, 4, none⟩ = some (.slice f.ba f.bl f.bc)
theorem Bx1.to {w W W' : World} {f : Fnh} (h : Bx1 w W f) (hg : G W W') : Bx1 w W' f := by
  obtain ⟨kc, _⟩ := bcell hg.below
  have s := h.sz
  exact ⟨h.g.trans hg, Nat.lt_of_lt_of_le s hg.below.size, (kc _ _ s).trans h.f0, (kc _ _ s).trans h.f1, (kc _ _ s).trans h.f2, (kc _ _ s).trans h.f3, (kc _ _ s).trans h.f4⟩
theorem bx1 (w : World) (f : Fnh) : Bx1 w (w.alloc (.cells #[.string f.nm, .int .i64 f.pa, .int .i64 f.rg, .int .i64 f.fr, .slice f.ba f.bl f.bc] 27)) f :=
  ⟨(G.refl _).alloc _, by simp, by go_simp, by go_simp, by go_simp, by go_simp, by go_simp⟩
def fdN (_ : ByteArray) : Option (Option Int) := none
theorem atN (f : Fnh) (n j : Nat) (i : Ins) : atB f fdN n j i = (fdR f i && (nuR f.fr i.op i.n i.nm.data.toList && (caR i.op i.nm.data.toList i.gs.length && (endB i.op == decide (j + 1 = n))))) := by
  have h := inR_eq f i
  unfold inR at h
  unfold atB
  rw [show fdN i.nm = none from rfl, ← h]
  generalize fdR f i = a
  generalize nuR f.fr i.op i.n i.nm.data.toList = b
  generalize caR i.op i.nm.data.toList i.gs.length = c
  generalize (endB i.op == decide (j + 1 = n)) = d
  cases a <;> cases b <;> cases c <;> cases d <;> rfl

set_option maxRecDepth 20000 in
theorem rright25_head (f : Fnh) (w : World) (hs : f.nm.size ≤ maxLen) (h : nmB f.nm.data.toList = false ∨ ¬ (0 ≤ f.pa ∧ f.pa ≤ 7 ∧ f.pa ≤ f.rg ∧ f.rg ≤ 4096 ∧ 0 ≤ f.fr ∧ f.fr ≤ 4096 ∧ 1 ≤ f.bl ∧ f.bl ≤ 1024)) : Calls Tryz.prog 25 #[fnhV f] w fun e w' => e = .returned (.bool false) ∧ G w w' := by
  have HN : Hid (∀ w, Calls Tryz.prog 62 #[.string f.nm] w fun e w' => e = .returned (.bool (nmB f.nm.data.toList)) ∧ w' = w) := fun w => rname62 f.nm w hs
  clear hs
  unfold fnhV
  generalize nmB f.nm.data.toList = X at *
  cases X with
  | false =>
    clear h
    go_enter Tryz.func25, Tryz.ntmps25
    go_wp2_with (first | (go_at_call 62; refine (HN.out _).mono ?_; rintro e w' ⟨rfl, rfl⟩))
    go_ret
    exact ⟨rfl, (G.refl _).alloc _⟩
  | true =>
    replace h : ¬ (0 ≤ f.pa ∧ f.pa ≤ 7 ∧ f.pa ≤ f.rg ∧ f.rg ≤ 4096 ∧ 0 ≤ f.fr ∧ f.fr ≤ 4096 ∧ 1 ≤ f.bl ∧ f.bl ≤ 1024) := by simpa using h
    have HH : Hid (¬ (0 ≤ f.pa ∧ f.pa ≤ 7 ∧ f.pa ≤ f.rg ∧ f.rg ≤ 4096 ∧ 0 ≤ f.fr ∧ f.fr ≤ 4096 ∧ 1 ≤ f.bl ∧ f.bl ≤ 1024)) := h
    clear h
    by_cases c0 : f.pa < 0
    case pos =>
      clear HH
      go_enter Tryz.func25, Tryz.ntmps25
      go_wp2_with (first | (go_at_call 62; refine (HN.out _).mono ?_; rintro e w' ⟨rfl, rfl⟩))
      go_ret
      exact ⟨rfl, (G.refl _).alloc _⟩
    by_cases c1 : 7 < f.pa
    case pos =>
      clear HH
      go_enter Tryz.func25, Tryz.ntmps25
      go_wp2_with (first | (go_at_call 62; refine (HN.out _).mono ?_; rintro e w' ⟨rfl, rfl⟩))
      go_ret
      exact ⟨rfl, (G.refl _).alloc _⟩
    by_cases c2 : f.rg < f.pa
    case pos =>
      clear HH
      go_enter Tryz.func25, Tryz.ntmps25
      go_wp2_with (first | (go_at_call 62; refine (HN.out _).mono ?_; rintro e w' ⟨rfl, rfl⟩))
      go_ret
      exact ⟨rfl, (G.refl _).alloc _⟩
    by_cases c3 : 4096 < f.rg
    case pos =>
      clear HH
      go_enter Tryz.func25, Tryz.ntmps25
      go_wp2_with (first | (go_at_call 62; refine (HN.out _).mono ?_; rintro e w' ⟨rfl, rfl⟩))
      go_ret
      exact ⟨rfl, (G.refl _).alloc _⟩
    by_cases c4 : f.fr < 0
    case pos =>
      clear HH
      go_enter Tryz.func25, Tryz.ntmps25
      go_wp2_with (first | (go_at_call 62; refine (HN.out _).mono ?_; rintro e w' ⟨rfl, rfl⟩))
      go_ret
      exact ⟨rfl, (G.refl _).alloc _⟩
    by_cases c5 : 4096 < f.fr
    case pos =>
      clear HH
      go_enter Tryz.func25, Tryz.ntmps25
      go_wp2_with (first | (go_at_call 62; refine (HN.out _).mono ?_; rintro e w' ⟨rfl, rfl⟩))
      go_ret
      exact ⟨rfl, (G.refl _).alloc _⟩
    by_cases c6 : (f.bl : Int) < 1
    case pos =>
      clear HH
      go_enter Tryz.func25, Tryz.ntmps25
      go_wp2_with (first | (go_at_call 62; refine (HN.out _).mono ?_; rintro e w' ⟨rfl, rfl⟩))
      go_ret
      exact ⟨rfl, (G.refl _).alloc _⟩
    by_cases c7 : 1024 < (f.bl : Int)
    case pos =>
      clear HH
      go_enter Tryz.func25, Tryz.ntmps25
      go_wp2_with (first | (go_at_call 62; refine (HN.out _).mono ?_; rintro e w' ⟨rfl, rfl⟩))
      go_ret
      exact ⟨rfl, (G.refl _).alloc _⟩
    exact absurd ⟨by omega, by omega, by omega, by omega, by omega, by omega, by omega, by omega⟩ HH.out
end Go.Proofs.YtdppoblbenbafaaGreatDoor
