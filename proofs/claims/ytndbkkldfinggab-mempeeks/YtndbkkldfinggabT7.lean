/- The keys of a memory's map, sorted (slices.Sorted). -/
import Derived.Test.YtndbkkldfinggabT4
import Derived.Test.YtndbkkldfinggabT6
namespace Go.Proofs.Ytndbkkldfinggab
open Go.RowKit Go.Shelf Go.Sort
/-- The Bases, rising. -/
def keysS (ps : List Pgd) : List Int := (ps.map (·.k)).mergeSort (fun x y => decide (x ≤ y))
theorem keysS_len (ps : List Pgd) : (keysS ps).length = ps.length := by simp [keysS, List.length_mergeSort]
theorem sort_perm {ps : List Pgd} {ys : List (Fin ps.length)} (h : ys.Perm (List.finRange ps.length)) : (ys.map fun x => ps[x.1].k).mergeSort (fun x y => decide (x ≤ y)) = keysS ps := by
  have hp : (ys.map fun x => ps[x.1].k).Perm (ps.map (·.k)) := by
    refine (h.map _).trans ?_
    have : (List.finRange ps.length).map (fun x => ps[x.1].k) = ps.map (·.k) := by
      apply List.ext_getElem
      · simp
      · intro i h1 h2; simp
    rw [this]
  have tr : ∀ a b c : Int, decide (a ≤ b) = true → decide (b ≤ c) = true → decide (a ≤ c) = true := fun a b c h1 h2 => by simp at *; omega
  have tot : ∀ a b : Int, (decide (a ≤ b) || decide (b ≤ a)) = true := fun a b => by simp; omega
  have s1 := List.pairwise_mergeSort (le := fun x y : Int => decide (x ≤ y)) tr tot (ys.map fun x => ps[x.1].k)
  have s2 := List.pairwise_mergeSort (le := fun x y : Int => decide (x ≤ y)) tr tot (ps.map (·.k))
  unfold keysS
  refine List.Perm.eq_of_pairwise (le := fun x y => decide (x ≤ y) = true) ?_ s1 s2 ((List.mergeSort_perm _ _).trans (hp.trans (List.mergeSort_perm _ _).symm))
  intro a b _ _ h1 h2
  simp at h1 h2
  omega
theorem keysS_sorted {ps : List Pgd} (h : ps.Pairwise (fun x y => x.k < y.k)) : keysS ps = ps.map (·.k) := by
  unfold keysS
  apply List.mergeSort_of_pairwise
  rw [List.pairwise_map]
  exact h.imp (fun hxy => by simp; omega)
set_option maxHeartbeats 1000000 in
theorem sorted51 (r Bm : Nat) (ps : List Pgd) (w : World) (hm : w.cell? ⟨Bm, 0, none⟩ = some (.map (some r))) (hr : w.heap[r]? = some (.map (entsFrom 0 ps).toArray ps.length)) (hlen : ps.length ≤ 65536) (hne : ps ≠ []) :
    Calls Try.prog 51 #[.func (.func 57) #[] #[.pointer (some ⟨Bm, 0, none⟩)]] w fun e w' => ∃ g cap, e = .returned (.slice (some ⟨g, 0, none⟩) ps.length cap) ∧ w.heap.size ≤ g ∧ (∃ cur, w'.heap[g]? = some (.cells cur 23 (0, 0))) ∧ (∀ t, t < ps.length → w'.cell? ⟨g, 0 + t, none⟩ = some (.int .u64 ((keysS ps).getD t 0))) ∧ Below w.heap.size w w' := by
  have HA : Hid (Calls Try.prog 55 #[.func (.func 57) #[] #[.pointer (some ⟨Bm, 0, none⟩)]] w fun e w' => ∃ v, ∃ ys : List (Fin ps.length), e = .returned v ∧ ys.Perm (List.finRange ps.length) ∧ w'.ownsRow w.heap.size 23 1 v ys.length (ys.map (keyV ps)) ∧ (v = .slice none 0 0 ↔ ys = []) ∧ Below w.heap.size w w') := collect55 r Bm ps w hm hr hlen
  clear hm hr
  go_enter Try.func51, Try.ntmps51
  go_wp2_with fail
  refine HA.out.mono ?_
  rintro e w1 ⟨v, ys, rfl, h1, h2, h3, h4⟩
  have hl : ys.length = ps.length := by rw [h1.length_eq]; simp
  have hpos : 0 < ps.length := List.length_pos_iff.2 hne
  rcases h2.2 with ⟨_, hz⟩ | ⟨g, cap, cur, rfl, hg, hh, hnc, _, hcs, htk⟩
  · omega
  rw [hl] at hnc htk
  have hrow : Rw w1 g 0 (ys.map fun x => ps[x.1].k).toArray w1 := by
    refine ⟨World.grownBy.refl _ _, fun t ht => ?_, fun t ht => ?_, ⟨cur, hh⟩⟩
    · have ht' : t < ys.length := by simpa using ht
      have e : cur.toList[t]? = some (.int .u64 (ys.map fun x => ps[x.1].k).toArray[t]!) := by
        have t1 := congrArg (fun l => l[t]?) htk
        rw [List.getElem?_take_of_lt (by omega)] at t1
        rw [t1]
        simp [keyV, ht', getElem!_pos]
      simp only [World.cell?, hh, Nat.zero_add]
      simpa using e
    · simp [World.frozen?, hh]
  have HS : Hid (Calls Try.prog 56 #[.slice (some ⟨g, 0, none⟩) ys.length cap] w1 fun e w' => e = .returned (.tuple #[]) ∧ Rw w1 g 0 (Sort.sort ltInt (ys.map fun x => ps[x.1].k).toArray) w') := sort56 g 0 ys.length cap _ w1 hrow (by simp) (by omega)
  have HX : Hid (ys.Perm (List.finRange ps.length) ∧ Below w.heap.size w w1 ∧ w.heap.size ≤ g) := ⟨h1, h4, hg⟩
  rw [hl] at HS ⊢
  clear h1 h2 h3 h4 hh hcs htk hrow HA
  go_wp2_with fail
  refine HS.out.mono ?_
  rintro e w2 ⟨rfl, hr2⟩
  have H2 : Hid (Rw w1 g 0 (Sort.sort ltInt (ys.map fun x => ps[x.1].k).toArray) w2) := hr2
  clear hr2
  go_wp2
  go_ret
  obtain ⟨hp, hB, hg⟩ := HX.out
  have hsl := sort_list (ys.map fun x => ps[x.1].k)
  rw [sort_perm hp] at hsl
  have hsz : (Sort.sort ltInt (ys.map fun x => ps[x.1].k).toArray).size = ps.length := by rw [← Array.length_toList, hsl, keysS_len]
  refine ⟨g, cap, rfl, hg, H2.out.ty, fun t ht => ?_, hB.grown H2.out.grown hB.size (fun k e => by cases e; exact hg)⟩
  rw [H2.out.cell t (by omega)]
  congr 2
  rw [← hsl, getElem!_pos _ _ (by omega)]
  simp [List.getD, ht, hsz]
set_option maxHeartbeats 1000000 in
theorem sorted51_nil (r Bm : Nat) (w : World) (hm : w.cell? ⟨Bm, 0, none⟩ = some (.map (some r))) (hr : w.heap[r]? = some (.map #[] 0)) :
    Calls Try.prog 51 #[.func (.func 57) #[] #[.pointer (some ⟨Bm, 0, none⟩)]] w fun e w' => e = .returned (.slice none 0 0) ∧ Below w.heap.size w w' := by
  have HA : Hid (Calls Try.prog 55 #[.func (.func 57) #[] #[.pointer (some ⟨Bm, 0, none⟩)]] w fun e w' => ∃ v, ∃ ys : List (Fin ([] : List Pgd).length), e = .returned v ∧ ys.Perm (List.finRange ([] : List Pgd).length) ∧ w'.ownsRow w.heap.size 23 1 v ys.length (ys.map (keyV [])) ∧ (v = .slice none 0 0 ↔ ys = []) ∧ Below w.heap.size w w') := collect55 r Bm [] w hm hr (by simp)
  clear hm hr
  go_enter Try.func51, Try.ntmps51
  go_wp2_with fail
  refine HA.out.mono ?_
  rintro e w1 ⟨v, ys, rfl, h1, h2, h3, h4⟩
  obtain rfl : v = .slice none 0 0 := h3.2 (List.eq_nil_of_length_eq_zero (by rw [h1.length_eq]; simp))
  have HX : Hid (Below w.heap.size w w1) := h4
  clear h1 h2 h3 h4
  go_wp2_with fail
  refine (sort56_nil _).mono ?_
  rintro e w2 ⟨rfl, e2⟩
  subst e2
  go_wp2
  go_ret
  exact ⟨rfl, HX.out⟩
end Go.Proofs.Ytndbkkldfinggab
