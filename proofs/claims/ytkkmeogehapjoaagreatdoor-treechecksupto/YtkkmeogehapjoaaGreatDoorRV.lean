/- A node by itself: the document's own. A node by itself: the document's own walk. -/
import Derived.Test.YtkkmeogehapjoaaGreatDoorR5
import Derived.Test.YtkkmeogehapjoaaGreatDoorR7
import Derived.Test.YtkkmeogehapjoaaGreatDoorRU
namespace Go.Proofs.YtkkmeogehapjoaaGreatDoor
section
open Go.RowKit Go.Shelf
/-- Whether kinds are of a form. -/
def fitF (v : Int) (f : List UInt8) (kk : List Int) : Bool := if f = [102, 110] then fnG v kk else if f = [98, 108, 111, 99, 107] then bkG v kk else fitG f kk
theorem frm_ok (k : Int) : ∀ f ∈ frm k, f.length ≤ 10 ∧ (f = [98, 108, 111, 99, 107] → k = 20) ∧ ∀ j : Nat, f[j]? = some 42 → j + 1 < f.length := by
  have key : ∀ f : List UInt8, f.length ≤ 10 → (∀ j : Fin 10, f[j.val]? = some 42 → j.val + 1 < f.length) → ∀ j : Nat, f[j]? = some 42 → j + 1 < f.length := fun f h1 h2 j hj => by
    have hj' : j < f.length := (List.getElem?_eq_some_iff.1 hj).1
    exact h2 ⟨j, by omega⟩ hj
  intro f hf
  unfold frm at hf
  by_cases h1 : k = 1
  · rw [if_pos h1] at hf
    simp only [List.mem_cons, List.not_mem_nil, or_false] at hf
    subst hf
    exact ⟨by decide, fun h => absurd h (by decide), key _ (by decide) (by decide)⟩
  rw [if_neg h1] at hf
  by_cases h2 : k = 2
  · rw [if_pos h2] at hf
    simp only [List.mem_cons, List.not_mem_nil, or_false] at hf
    subst hf
    exact ⟨by decide, fun h => absurd h (by decide), key _ (by decide) (by decide)⟩
  rw [if_neg h2] at hf
  by_cases h3 : k = 3
  · rw [if_pos h3] at hf
    simp only [List.mem_cons, List.not_mem_nil, or_false] at hf
    subst hf
    exact ⟨by decide, fun h => absurd h (by decide), key _ (by decide) (by decide)⟩
  rw [if_neg h3] at hf
  by_cases h4 : k = 4
  · rw [if_pos h4] at hf
    simp only [List.mem_cons, List.not_mem_nil, or_false] at hf
    subst hf
    exact ⟨by decide, fun h => absurd h (by decide), key _ (by decide) (by decide)⟩
  rw [if_neg h4] at hf
  by_cases h5 : k = 5
  · rw [if_pos h5] at hf
    simp only [List.mem_cons, List.not_mem_nil, or_false] at hf
    subst hf
    exact ⟨by decide, fun h => absurd h (by decide), key _ (by decide) (by decide)⟩
  rw [if_neg h5] at hf
  by_cases h6 : k = 6
  · rw [if_pos h6] at hf
    simp only [List.mem_cons, List.not_mem_nil, or_false] at hf
    rcases hf with rfl | rfl <;> exact ⟨by decide, fun h => absurd h (by decide), key _ (by decide) (by decide)⟩
  rw [if_neg h6] at hf
  by_cases h7 : k = 7
  · rw [if_pos h7] at hf
    simp only [List.mem_cons, List.not_mem_nil, or_false] at hf
    subst hf
    exact ⟨by decide, fun h => absurd h (by decide), key _ (by decide) (by decide)⟩
  rw [if_neg h7] at hf
  by_cases h14 : k = 14
  · rw [if_pos h14] at hf
    simp only [List.mem_cons, List.not_mem_nil, or_false] at hf
    subst hf
    exact ⟨by decide, fun h => absurd h (by decide), key _ (by decide) (by decide)⟩
  rw [if_neg h14] at hf
  by_cases h15 : k = 15
  · rw [if_pos h15] at hf
    simp only [List.mem_cons, List.not_mem_nil, or_false] at hf
    subst hf
    exact ⟨by decide, fun h => absurd h (by decide), key _ (by decide) (by decide)⟩
  rw [if_neg h15] at hf
  by_cases h16 : k = 16
  · rw [if_pos h16] at hf
    simp only [List.mem_cons, List.not_mem_nil, or_false] at hf
    subst hf
    exact ⟨by decide, fun h => absurd h (by decide), key _ (by decide) (by decide)⟩
  rw [if_neg h16] at hf
  by_cases h20 : k = 20
  · rw [if_pos h20] at hf
    simp only [List.mem_cons, List.not_mem_nil, or_false] at hf
    subst hf
    exact ⟨by decide, fun _ => h20, key _ (by decide) (by decide)⟩
  rw [if_neg h20] at hf
  by_cases h21 : k = 21
  · rw [if_pos h21] at hf
    simp only [List.mem_cons, List.not_mem_nil, or_false] at hf
    rcases hf with rfl | rfl <;> exact ⟨by decide, fun h => absurd h (by decide), key _ (by decide) (by decide)⟩
  rw [if_neg h21] at hf
  by_cases h22 : k = 22
  · rw [if_pos h22] at hf
    simp only [List.mem_cons, List.not_mem_nil, or_false] at hf
    subst hf
    exact ⟨by decide, fun h => absurd h (by decide), key _ (by decide) (by decide)⟩
  rw [if_neg h22] at hf
  by_cases h23 : k = 23
  · rw [if_pos h23] at hf
    simp only [List.mem_cons, List.not_mem_nil, or_false] at hf
    subst hf
    exact ⟨by decide, fun h => absurd h (by decide), key _ (by decide) (by decide)⟩
  rw [if_neg h23] at hf
  by_cases h24 : k = 24
  · rw [if_pos h24] at hf
    simp only [List.mem_cons, List.not_mem_nil, or_false] at hf
    subst hf
    exact ⟨by decide, fun h => absurd h (by decide), key _ (by decide) (by decide)⟩
  rw [if_neg h24] at hf
  by_cases h25 : k = 25
  · rw [if_pos h25] at hf
    simp only [List.mem_cons, List.not_mem_nil, or_false] at hf
    rcases hf with rfl | rfl <;> exact ⟨by decide, fun h => absurd h (by decide), key _ (by decide) (by decide)⟩
  rw [if_neg h25] at hf
  by_cases h34 : k = 34
  · rw [if_pos h34] at hf
    simp only [List.mem_cons, List.not_mem_nil, or_false] at hf
    subst hf
    exact ⟨by decide, fun h => absurd h (by decide), key _ (by decide) (by decide)⟩
  rw [if_neg h34] at hf
  by_cases h35 : k = 35
  · rw [if_pos h35] at hf
    simp only [List.mem_cons, List.not_mem_nil, or_false] at hf
    subst hf
    exact ⟨by decide, fun h => absurd h (by decide), key _ (by decide) (by decide)⟩
  rw [if_neg h35] at hf
  by_cases h36 : k = 36
  · rw [if_pos h36] at hf
    simp only [List.mem_cons, List.not_mem_nil, or_false] at hf
    subst hf
    exact ⟨by decide, fun h => absurd h (by decide), key _ (by decide) (by decide)⟩
  rw [if_neg h36] at hf
  by_cases h37 : k = 37
  · rw [if_pos h37] at hf
    simp only [List.mem_cons, List.not_mem_nil, or_false] at hf
    rcases hf with rfl | rfl <;> exact ⟨by decide, fun h => absurd h (by decide), key _ (by decide) (by decide)⟩
  rw [if_neg h37] at hf
  by_cases h38 : k = 38
  · rw [if_pos h38] at hf
    simp only [List.mem_cons, List.not_mem_nil, or_false] at hf
    subst hf
    exact ⟨by decide, fun h => absurd h (by decide), key _ (by decide) (by decide)⟩
  rw [if_neg h38] at hf
  by_cases h39 : k = 39
  · rw [if_pos h39] at hf
    simp only [List.mem_cons, List.not_mem_nil, or_false] at hf
    subst hf
    exact ⟨by decide, fun h => absurd h (by decide), key _ (by decide) (by decide)⟩
  rw [if_neg h39] at hf
  by_cases h40 : k = 40
  · rw [if_pos h40] at hf
    simp only [List.mem_cons, List.not_mem_nil, or_false] at hf
    subst hf
    exact ⟨by decide, fun h => absurd h (by decide), key _ (by decide) (by decide)⟩
  rw [if_neg h40] at hf
  by_cases h41 : k = 41
  · rw [if_pos h41] at hf
    simp only [List.mem_cons, List.not_mem_nil, or_false] at hf
    subst hf
    exact ⟨by decide, fun h => absurd h (by decide), key _ (by decide) (by decide)⟩
  rw [if_neg h41] at hf
  by_cases h42 : k = 42
  · rw [if_pos h42] at hf
    simp only [List.mem_cons, List.not_mem_nil, or_false] at hf
    subst hf
    exact ⟨by decide, fun h => absurd h (by decide), key _ (by decide) (by decide)⟩
  rw [if_neg h42] at hf
  by_cases h43 : k = 43
  · rw [if_pos h43] at hf
    simp only [List.mem_cons, List.not_mem_nil, or_false] at hf
    subst hf
    exact ⟨by decide, fun h => absurd h (by decide), key _ (by decide) (by decide)⟩
  rw [if_neg h43] at hf
  by_cases h44 : k = 44
  · rw [if_pos h44] at hf
    simp only [List.mem_cons, List.not_mem_nil, or_false] at hf
    subst hf
    exact ⟨by decide, fun h => absurd h (by decide), key _ (by decide) (by decide)⟩
  rw [if_neg h44] at hf
  by_cases h45 : k = 45
  · rw [if_pos h45] at hf
    simp only [List.mem_cons, List.not_mem_nil, or_false] at hf
    rcases hf with rfl | rfl <;> exact ⟨by decide, fun h => absurd h (by decide), key _ (by decide) (by decide)⟩
  rw [if_neg h45] at hf
  by_cases h46 : k = 46
  · rw [if_pos h46] at hf
    simp only [List.mem_cons, List.not_mem_nil, or_false] at hf
    subst hf
    exact ⟨by decide, fun h => absurd h (by decide), key _ (by decide) (by decide)⟩
  rw [if_neg h46] at hf
  by_cases h47 : k = 47
  · rw [if_pos h47] at hf
    simp only [List.mem_cons, List.not_mem_nil, or_false] at hf
    subst hf
    exact ⟨by decide, fun h => absurd h (by decide), key _ (by decide) (by decide)⟩
  rw [if_neg h47] at hf
  by_cases h54 : k = 54
  · rw [if_pos h54] at hf
    simp only [List.mem_cons, List.not_mem_nil, or_false] at hf
    rcases hf with rfl | rfl <;> exact ⟨by decide, fun h => absurd h (by decide), key _ (by decide) (by decide)⟩
  rw [if_neg h54] at hf
  simp only [List.mem_cons, List.not_mem_nil, or_false] at hf
  subst hf
  exact ⟨by decide, fun h => absurd h (by decide), key _ (by decide) (by decide)⟩
theorem frm_len (k : Int) : (frm k).length ≤ 2 := by
  unfold frm
  by_cases h1 : k = 1
  · rw [if_pos h1]
    decide
  rw [if_neg h1]
  by_cases h2 : k = 2
  · rw [if_pos h2]
    decide
  rw [if_neg h2]
  by_cases h3 : k = 3
  · rw [if_pos h3]
    decide
  rw [if_neg h3]
  by_cases h4 : k = 4
  · rw [if_pos h4]
    decide
  rw [if_neg h4]
  by_cases h5 : k = 5
  · rw [if_pos h5]
    decide
  rw [if_neg h5]
  by_cases h6 : k = 6
  · rw [if_pos h6]
    decide
  rw [if_neg h6]
  by_cases h7 : k = 7
  · rw [if_pos h7]
    decide
  rw [if_neg h7]
  by_cases h14 : k = 14
  · rw [if_pos h14]
    decide
  rw [if_neg h14]
  by_cases h15 : k = 15
  · rw [if_pos h15]
    decide
  rw [if_neg h15]
  by_cases h16 : k = 16
  · rw [if_pos h16]
    decide
  rw [if_neg h16]
  by_cases h20 : k = 20
  · rw [if_pos h20]
    decide
  rw [if_neg h20]
  by_cases h21 : k = 21
  · rw [if_pos h21]
    decide
  rw [if_neg h21]
  by_cases h22 : k = 22
  · rw [if_pos h22]
    decide
  rw [if_neg h22]
  by_cases h23 : k = 23
  · rw [if_pos h23]
    decide
  rw [if_neg h23]
  by_cases h24 : k = 24
  · rw [if_pos h24]
    decide
  rw [if_neg h24]
  by_cases h25 : k = 25
  · rw [if_pos h25]
    decide
  rw [if_neg h25]
  by_cases h34 : k = 34
  · rw [if_pos h34]
    decide
  rw [if_neg h34]
  by_cases h35 : k = 35
  · rw [if_pos h35]
    decide
  rw [if_neg h35]
  by_cases h36 : k = 36
  · rw [if_pos h36]
    decide
  rw [if_neg h36]
  by_cases h37 : k = 37
  · rw [if_pos h37]
    decide
  rw [if_neg h37]
  by_cases h38 : k = 38
  · rw [if_pos h38]
    decide
  rw [if_neg h38]
  by_cases h39 : k = 39
  · rw [if_pos h39]
    decide
  rw [if_neg h39]
  by_cases h40 : k = 40
  · rw [if_pos h40]
    decide
  rw [if_neg h40]
  by_cases h41 : k = 41
  · rw [if_pos h41]
    decide
  rw [if_neg h41]
  by_cases h42 : k = 42
  · rw [if_pos h42]
    decide
  rw [if_neg h42]
  by_cases h43 : k = 43
  · rw [if_pos h43]
    decide
  rw [if_neg h43]
  by_cases h44 : k = 44
  · rw [if_pos h44]
    decide
  rw [if_neg h44]
  by_cases h45 : k = 45
  · rw [if_pos h45]
    decide
  rw [if_neg h45]
  by_cases h46 : k = 46
  · rw [if_pos h46]
    decide
  rw [if_neg h46]
  by_cases h47 : k = 47
  · rw [if_pos h47]
    decide
  rw [if_neg h47]
  by_cases h54 : k = 54
  · rw [if_pos h54]
    decide
  rw [if_neg h54]
  decide
theorem fits78 (l : List Nd) (x : Nd) (ao : Option Addr) (c : Nat) (f : List UInt8) (w : World) (hl : NdS w ao c l) (hk : IsA w x.ka x.kc x.ks) (hi : Inn l x.ks) (hf : f ∈ frm x.k) (hv : nuB x.k x.v = true) : Calls Tryz.prog 78 #[.agg #[.slice ao l.length c], nwv x, .string ⟨f.toArray⟩] w fun e w' => e = .returned (.bool (fitF x.v f (x.ks.map (kdK l)))) ∧ Below w.heap.size w w' := by
  obtain ⟨h1, h2, h3⟩ := frm_ok x.k f hf
  unfold fitF
  by_cases e1 : f = [102, 110]
  · rw [if_pos e1]
    subst e1
    exact fits_fn l x ao c w hl hk hi
  rw [if_neg e1]
  by_cases e2 : f = [98, 108, 111, 99, 107]
  · rw [if_pos e2]
    have h20 := h2 e2
    subst e2
    rw [h20] at hv
    have hv' : x.v = 0 ∨ x.v = 1 := by simpa [nuB] using hv
    rcases hv' with h | h
    · exact fits_blk0 l x ao c w hl hk hi h
    · exact fits_blk1 l x ao c w hl hk hi h
  rw [if_neg e2]
  have t := fits_gen l x ao c ⟨f.toArray⟩ w hl hk hi (by simpa using e1) (by simpa using e2) (by show f.toArray.size ≤ 10; simpa using h1) (fun j hj => by
    have := h3 j (by simpa using hj)
    show j + 1 < f.toArray.size
    simpa using this)
  simpa using t
end
section
open Go.RowKit Go.Shelf
def kinB (i : Nat) (ks : List Int) : Bool := ks.all fun y => decide (0 ≤ y) && decide (y < (i : Int))
/-- Whether a node is right, but for what it is a kid of. -/
def rnB (l : List Nd) (i : Nat) (x : Nd) : Bool := knB x.k && (nfB x.k x.nm.data.toList && (nuB x.k x.v && (!(decide (x.fr < 0)) && (!(decide (x.en < x.fr)) && (kinB i x.ks && (frm x.k).any fun f => fitF x.v f (x.ks.map (kdK l)))))))
set_option maxRecDepth 100000 in
set_option maxHeartbeats 4000000 in
theorem node48 (l : List Nd) (ao : Option Addr) (c i : Nat) (x : Nd) (w : World) (hl : NdA w ao c l) (hx : l[i]? = some x) : Calls Tryz.prog 48 #[.agg #[.slice ao l.length c], .int .i64 i] w fun e w' => e = .returned (.bool (rnB l i x)) ∧ Below w.heap.size w w' := by
  have hxo := hl.2.2.1 x (List.mem_of_getElem? hx)
  have hil : i < l.length := (List.getElem?_eq_some_iff.1 hx).1
  have H74 : Hid (∀ W, Calls Tryz.prog 74 #[.int .i64 x.k] W fun e w' => e = .returned (.bool (knB x.k)) ∧ w' = W) := fun W => known74 x.k W
  have H75 : Hid (∀ W, Calls Tryz.prog 75 #[.agg #[.int .i64 x.k, .string x.nm, .int .i64 x.v, .slice x.ka x.ks.length x.kc, .int .i64 x.fr, .int .i64 x.en]] W fun e w' => e = .returned (.bool (nfB x.k x.nm.data.toList)) ∧ Below W.heap.size W w') := fun W => named75 x.k x.v x.fr x.en x.nm x.ka x.ks.length x.kc W hxo.nm
  have H76 : Hid (∀ W, Calls Tryz.prog 76 #[.agg #[.int .i64 x.k, .string x.nm, .int .i64 x.v, .slice x.ka x.ks.length x.kc, .int .i64 x.fr, .int .i64 x.en]] W fun e w' => e = .returned (.bool (nuB x.k x.v)) ∧ Below W.heap.size W w') := fun W => counted76 x.k x.v x.fr x.en x.nm x.ka x.ks.length x.kc W
  have H77 : Hid (∀ W, Calls Tryz.prog 77 #[.agg #[.int .i64 x.k, .string x.nm, .int .i64 x.v, .slice x.ka x.ks.length x.kc, .int .i64 x.fr, .int .i64 x.en]] W fun e w' => ∃ g, e = .returned (.slice (some ⟨g, 0, none⟩) (frm x.k).length (frm x.k).length) ∧ StA w' g (frm x.k) ∧ Below W.heap.size W w') := fun W => forms77 x W
  have H78 : Hid (nuB x.k x.v = true → kinB i x.ks = true → ∀ W f, f ∈ frm x.k → Below w.heap.size w W → Calls Tryz.prog 78 #[.agg #[.slice ao l.length c], .agg #[.int .i64 x.k, .string x.nm, .int .i64 x.v, .slice x.ka x.ks.length x.kc, .int .i64 x.fr, .int .i64 x.en], .string ⟨f.toArray⟩] W fun e w' => e = .returned (.bool (fitF x.v f (x.ks.map (kdK l)))) ∧ Below W.heap.size W w') := fun hv hi W f hf hW => fits78 l x ao c f W (hl.below hW).s (hxo.ks.below hW) (fun y hy => by
    have t := List.all_eq_true.1 hi y hy
    simp only [Bool.and_eq_true, decide_eq_true_eq] at t
    omega) hf hv
  have HI : Hid (∀ W, Below w.heap.size w W → IsA W x.ka x.kc x.ks) := fun W hW => hxo.ks.below hW
  obtain ⟨gn, on, he, hnd⟩ := hl.2.2.2 (by omega)
  subst he
  obtain ⟨y0, y1, y2, y3, y4, y5⟩ := nd_cells hnd hx
  have hg : gn < w.heap.size := World.block_lt_of_cell? _ _ y0
  have h1 := hl.1
  have h2 := hl.2.1
  have hfl : (frm x.k).length ≤ 2 := frm_len x.k
  have hkc : x.ks.length ≤ x.kc := hxo.ks.1
  have hkc2 : x.kc ≤ 9223372036854775807 := hxo.ks.2.1
  have hii : (i : Int) < (l.length : Int) := by omega
  have c53 := cells53
  have c3 := cells3'
  have c9 : Tryz.prog.cellsOf 9 = 1 := by kernel_rfl
  obtain ⟨R, hR⟩ : ∃ R, R = rnB l i x := ⟨_, rfl⟩
  rw [← hR]
  unfold rnB at hR
  generalize hkn : knB x.k = bk at *
  generalize hnf : nfB x.k x.nm.data.toList = bn at *
  generalize hnu : nuB x.k x.v = bv at *
  generalize hki : kinB i x.ks = bi at *
  have HR : Hid (R = (bk && (bn && (bv && (!(decide (x.fr < 0)) && (!(decide (x.en < x.fr)) && (bi && (frm x.k).any fun f => fitF x.v f (x.ks.map (kdK l))))))))) := hR
  have HKI : Hid (kinB i x.ks = bi) := hki
  clear hl hxo hnd hx hR hkn hnf hnu hki
  generalize frm x.k = fm at *
  generalize (x.ks.map (kdK l)) = kk at *
  obtain ⟨xk, xn, xv, xa, xc, xs, xf, xe⟩ := x
  simp only at *
  obtain ⟨m, hm⟩ : ∃ m, m = xs.length := ⟨_, rfl⟩
  rw [← hm] at H75 H76 H77 H78 y3 hkc
  have HM : Hid (m = xs.length) := hm
  clear hm
  obtain ⟨fl, hfe⟩ : ∃ fl, fl = fm.length := ⟨_, rfl⟩
  rw [← hfe] at H77 hfl
  have HFL : Hid (fl = fm.length) := hfe
  clear hfe
  generalize l.length = n at *
  have HB : Hid (∀ o o', Below w.heap.size w ((w.alloc o).alloc o')) := fun o o' => ((Below.refl _ w).alloc (Nat.le_refl _) o).alloc (by simp) o'
  have hX0 := fx_new w (.slice (some ⟨gn, on, none⟩) n c) (.slice xa m xc) xk xn xv xf xe
  have hbw := HB.out (.cells #[.slice (some ⟨gn, on, none⟩) n c] 24) (.cells #[.int .i64 xk, .string xn, .int .i64 xv, .slice xa m xc, .int .i64 xf, .int .i64 xe] 53)
  have hzz : w.heap.size + 1 < ((w.alloc (.cells #[.slice (some ⟨gn, on, none⟩) n c] 24)).alloc (.cells #[.int .i64 xk, .string xn, .int .i64 xv, .slice xa m xc, .int .i64 xf, .int .i64 xe] 53)).heap.size := by simp
  obtain ⟨W0, hW0⟩ : ∃ W, W = (w.alloc (.cells #[.slice (some ⟨gn, on, none⟩) n c] 24)).alloc (.cells #[.int .i64 xk, .string xn, .int .i64 xv, .slice xa m xc, .int .i64 xf, .int .i64 xe] 53) := ⟨_, rfl⟩
  rw [← hW0] at hX0 hbw hzz
  have HX : Hid (∀ W, Below W0.heap.size W0 W → Fx W0 w.heap.size (.slice (some ⟨gn, on, none⟩) n c) (.slice xa m xc) xk xn xv xf xe W) := fun W hW => Fx.go hW hzz hX0
  have HBW : Hid (Below w.heap.size w W0) := hbw
  have HW0 : Hid (W0 = (w.alloc (.cells #[.slice (some ⟨gn, on, none⟩) n c] 24)).alloc (.cells #[.int .i64 xk, .string xn, .int .i64 xv, .slice xa m xc, .int .i64 xf, .int .i64 xe] 53)) := hW0
  have HFin : Hid (∀ W, Below W0.heap.size W0 W → Below w.heap.size w W) := fun W hW => HBW.out.trans (hW.mono HBW.out.size)
  clear hX0 hbw hzz hW0 HB
  cases bk
  · obtain rfl : R = false := HR.out
    go_enter Tryz.func48, Tryz.ntmps48
    go_wp2_with fail
    refine (H74.out _).mono ?_
    rintro e w1 ⟨rfl, rfl⟩
    go_wp2
    go_ret
    exact ⟨rfl, HFin.out _ (by rw [HW0.out]; exact Below.refl _ _)⟩
  go_enter Tryz.func48, Tryz.ntmps48
  go_wp2_with fail
  refine (H74.out _).mono ?_
  rintro e w1 ⟨rfl, rfl⟩
  rw [← HW0.out]
  clear y0 y1 y2 y3 y4 y5
  obtain ⟨hB0, t0, n0, n1, n2, n3, n4, n5⟩ := HX.out W0 (Below.refl _ _)
  have HB0 : Hid (Below W0.heap.size W0 W0) := hB0
  clear hB0
  go_wp2_with fail
  refine (H75.out _).mono ?_
  rintro e w2 ⟨rfl, hb2⟩
  have HB2 : Hid (Below W0.heap.size W0 w2) := hb2
  clear t0 n0 n1 n2 n3 n4 n5
  obtain ⟨_, t0, n0, n1, n2, n3, n4, n5⟩ := HX.out w2 hb2
  clear hb2
  cases bn
  · obtain rfl : R = false := HR.out
    go_wp2
    go_ret
    exact ⟨rfl, HFin.out _ HB2.out⟩
  go_wp2_with fail
  refine (H76.out _).mono ?_
  rintro e w3 ⟨rfl, hb3⟩
  have HB3 : Hid (Below W0.heap.size W0 w3) := HB2.out.trans (hb3.mono HB2.out.size)
  clear t0 n0 n1 n2 n3 n4 n5
  obtain ⟨_, t0, n0, n1, n2, n3, n4, n5⟩ := HX.out w3 HB3.out
  clear hb3
  cases bv
  · obtain rfl : R = false := HR.out
    go_wp2
    go_ret
    exact ⟨rfl, HFin.out _ HB3.out⟩
  by_cases hF : xf < 0
  · have hFd : decide (xf < 0) = true := decide_eq_true hF
    obtain rfl : R = false := by rw [HR.out, hFd]; rfl
    go_wp2
    go_ret
    exact ⟨rfl, HFin.out _ HB3.out⟩
  have hFd : decide (xf < 0) = false := decide_eq_false hF
  by_cases hE : xe < xf
  · have hEd : decide (xe < xf) = true := decide_eq_true hE
    obtain rfl : R = false := by rw [HR.out, hFd, hEd]; rfl
    go_wp2
    go_ret
    exact ⟨rfl, HFin.out _ HB3.out⟩
  have hEd : decide (xe < xf) = false := decide_eq_false hE
  have HR2 : Hid (R = (bi && fm.any fun f => fitF xv f kk)) := by
    show R = _
    rw [HR.out, hFd, hEd]
    rfl
  have H78' : Hid (bi = true → ∀ W f, f ∈ fm → Below W0.heap.size W0 W → Calls Tryz.prog 78 #[.agg #[.slice (some ⟨gn, on, none⟩) n c], .agg #[.int .i64 xk, .string xn, .int .i64 xv, .slice xa m xc, .int .i64 xf, .int .i64 xe], .string ⟨f.toArray⟩] W fun e w' => e = .returned (.bool (fitF xv f kk)) ∧ Below W.heap.size W w') := fun hi W f hf hW => H78.out rfl hi W f hf (HFin.out W hW)
  clear HR H78 hFd hEd
  go_wp2
  go_loop [7, 44] (fun _ q => ∃ j : Nat, j ≤ m ∧ q = .int .i64 j ∧ kinB i (xs.take j) = true) (fun _ q => m - (intOf q).toNat)
  case atStart => exact ⟨0, Nat.zero_le _, rfl, rfl⟩
  case round =>
    obtain ⟨j, hj, rfl, hA⟩ := hrel
    by_cases hlt : j < m
    · obtain ⟨y, hy⟩ : ∃ y, xs[j]? = some y := ⟨_, List.getElem?_eq_getElem (by have := HM.out; omega)⟩
      obtain ⟨gk, ok, rfl, hkc'⟩ := (HI.out _ (HFin.out _ HB3.out)).2.2 (by have := HM.out; omega)
      have b0 := hkc' j y hy
      have HV : Hid (kinB i (xs.take (j + 1)) = (decide (0 ≤ y) && decide (y < (i : Int))) ∧ ((decide (0 ≤ y) && decide (y < (i : Int))) = false → R = false)) := by
        refine ⟨?_, fun h => ?_⟩
        · unfold kinB at *
          rw [List.take_add_one, hy, List.all_append, hA, Bool.true_and]
          simp
        · rw [HR2.out, ← HKI.out]
          have : kinB i xs = false := by
            rw [← Bool.not_eq_true]
            unfold kinB
            rw [List.all_eq_true]
            intro hh
            have t := hh y (List.mem_of_getElem? hy)
            rw [h] at t
            cases t
          rw [this, Bool.false_and]
      clear hkc' hy hA
      by_cases hy0 : y < 0
      · obtain rfl := HV.out.2 (by rw [decide_eq_false (show ¬ 0 ≤ y by omega), Bool.false_and])
        go_wp2
        go_ret
        exact ⟨rfl, HFin.out _ HB3.out⟩
      · by_cases hyi : (i : Int) ≤ y
        · obtain rfl := HV.out.2 (by rw [decide_eq_false (show ¬ y < (i : Int) by omega), Bool.and_false])
          go_wp2
          go_ret
          exact ⟨rfl, HFin.out _ HB3.out⟩
        · have HV2 : Hid (kinB i (xs.take (j + 1)) = true) := by
            show _ = _
            rw [HV.out.1, decide_eq_true (show 0 ≤ y by omega), decide_eq_true (show y < (i : Int) by omega)]
            rfl
          go_wp2
          exact ⟨⟨j + 1, by omega, by go_num, HV2.out⟩, by simp [intOf]; omega⟩
    · obtain rfl : j = m := by omega
      have hta : xs.take j = xs := List.take_of_length_le (by have := HM.out; omega)
      rw [hta] at hA
      have hbi : bi = true := by rw [← HKI.out, hA]
      have HR3 : Hid (R = fm.any fun f => fitF xv f kk) := by
        show R = _
        rw [HR2.out, hbi]
        rfl
      have H78f : Hid (∀ W f, f ∈ fm → Below W0.heap.size W0 W → Calls Tryz.prog 78 #[.agg #[.slice (some ⟨gn, on, none⟩) n c], .agg #[.int .i64 xk, .string xn, .int .i64 xv, .slice xa j xc, .int .i64 xf, .int .i64 xe], .string ⟨f.toArray⟩] W fun e w' => e = .returned (.bool (fitF xv f kk)) ∧ Below W.heap.size W w') := H78'.out hbi
      clear hta hA hbi H78' HR2
      go_wp2_with fail
      refine (H77.out _).mono ?_
      rintro e w4 ⟨g, rfl, hst, hb4⟩
      have HB4 : Hid (Below W0.heap.size W0 w4) := HB3.out.trans (hb4.mono HB3.out.size)
      have HST : Hid (StA w4 g fm) := hst
      clear t0 n0 n1 n2 n3 n4 n5 hb4 hst
      go_wp2
      go_loopw [9, 59] (fun _ z wx => ∃ q : Nat, q ≤ fl ∧ z = .int .i64 q ∧ Below W0.heap.size W0 wx ∧ Below w4.heap.size w4 wx ∧ R = (fm.drop q).any fun f => fitF xv f kk) (fun _ z _ => fl - (intOf z).toNat)
      case atStart => exact ⟨0, Nat.zero_le _, rfl, HB4.out, Below.refl _ _, HR3.out⟩
      case round =>
        obtain ⟨q, hq, rfl, hB, hB', hE2⟩ := hrel
        have HBq : Hid (Below W0.heap.size W0 wr ∧ Below w4.heap.size w4 wr) := ⟨hB, hB'⟩
        by_cases hlt2 : q < fl
        · obtain ⟨f, hf⟩ : ∃ f, fm[q]? = some f := ⟨_, List.getElem?_eq_getElem (by have := HFL.out; omega)⟩
          have s0 := (HST.out.below hB') q f hf
          obtain ⟨_, t0, n0, n1, n2, n3, n4, n5⟩ := HX.out wr hB
          have HCf : Hid (∀ W, Below W0.heap.size W0 W → Calls Tryz.prog 78 #[.agg #[.slice (some ⟨gn, on, none⟩) n c], .agg #[.int .i64 xk, .string xn, .int .i64 xv, .slice xa j xc, .int .i64 xf, .int .i64 xe], .string ⟨f.toArray⟩] W fun e w' => e = .returned (.bool (fitF xv f kk)) ∧ Below W.heap.size W w') := fun W hW => H78f.out W f (List.mem_of_getElem? hf) hW
          have hdq : fm.drop q = f :: fm.drop (q + 1) := by
            obtain ⟨hk', e⟩ := List.getElem?_eq_some_iff.1 hf
            rw [← e]
            exact List.drop_eq_getElem_cons hk'
          rw [hdq, List.any_cons] at hE2
          have HE2 : Hid (R = (fitF xv f kk || (fm.drop (q + 1)).any fun f => fitF xv f kk)) := hE2
          clear hE2 hdq hf hB hB'
          generalize fitF xv f kk = b at *
          generalize f.toArray = fa at *
          cases b
          · have HE3 : Hid (R = (fm.drop (q + 1)).any fun f => fitF xv f kk) := HE2.out
            go_wp2_with fail
            refine (HCf.out _ HBq.out.1).mono ?_
            rintro e w5 ⟨rfl, hb5⟩
            have HB5 : Hid (Below W0.heap.size W0 w5 ∧ Below w4.heap.size w4 w5) := ⟨HBq.out.1.trans (hb5.mono HBq.out.1.size), HBq.out.2.trans (hb5.mono HBq.out.2.size)⟩
            clear hb5
            go_wp2
            exact ⟨⟨q + 1, by omega, by go_num, HB5.out.1, HB5.out.2, HE3.out⟩, by simp [intOf]; omega⟩
          · obtain rfl : R = true := HE2.out
            go_wp2_with fail
            refine (HCf.out _ HBq.out.1).mono ?_
            rintro e w5 ⟨rfl, hb5⟩
            have HB5 : Hid (Below W0.heap.size W0 w5) := HBq.out.1.trans (hb5.mono HBq.out.1.size)
            clear hb5
            go_wp2
            go_ret
            exact ⟨rfl, HFin.out _ HB5.out⟩
        · obtain rfl : q = fl := by omega
          have hdn : fm.drop q = [] := List.drop_eq_nil_of_le (by have := HFL.out; omega)
          rw [hdn] at hE2
          obtain rfl : R = false := hE2
          clear hdn hB hB'
          go_wp2
          go_ret
          exact ⟨rfl, HFin.out _ HBq.out.1⟩
end
end Go.Proofs.YtkkmeogehapjoaaGreatDoor
