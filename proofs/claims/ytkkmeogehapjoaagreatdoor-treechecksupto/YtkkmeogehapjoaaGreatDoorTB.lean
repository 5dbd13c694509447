/- Kids of groups, one for each. A node's kids: whether they fit its kind. Small rules on codes: where one ends, and with what; a node's kids by its kind. -/
import Derived.Test.YtkkmeogehapjoaaGreatDoorTA
namespace Go.Proofs.YtkkmeogehapjoaaGreatDoor
section
open Go.RowKit Go.Shelf
/-- Groups in memory. -/
def GrA (w : World) (ao : Option Addr) (c : Nat) (l : List Nat) : Prop := l.length ≤ c ∧ c ≤ 9223372036854775807 ∧ (∀ x ∈ l, x < 18446744073709551616) ∧ (0 < l.length → ∃ g o, ao = some ⟨g, o, none⟩ ∧ ∀ (j y : Nat), l[j]? = some y → w.cell? ⟨g, o + j, none⟩ = some (.int .u64 (y : Int)))
theorem GrA.below {W W' : World} {ao : Option Addr} {c : Nat} {l : List Nat} (h : GrA W ao c l) (hb : Below W.heap.size W W') : GrA W' ao c l := by
  obtain ⟨h1, h2, h0, h3⟩ := h
  refine ⟨h1, h2, h0, fun hl => ?_⟩
  obtain ⟨g, o, e1, e2⟩ := h3 hl
  exact ⟨g, o, e1, fun j y hy => by
    have t := e2 j y hy
    rw [(bcell hb).1 g _ (World.block_lt_of_cell? _ _ t)]
    exact t⟩
def kAre (l : List Nd) : List Int → List Nat → Bool
  | [], [] => true
  | y :: ks, g :: gs => hasB g (kdK l y) && kAre l ks gs
  | _, _ => false
theorem kAre_len {l : List Nd} : ∀ {ks : List Int} {gs : List Nat}, kAre l ks gs = true → ks.length = gs.length
  | [], [], _ => rfl
  | _ :: ks, _ :: gs, h => by
    simp only [kAre, Bool.and_eq_true] at h
    simp [kAre_len h.2]
  | [], _ :: _, h => by simp [kAre] at h
  | _ :: _, [], h => by simp [kAre] at h
theorem kAre_at {l : List Nd} : ∀ {ks : List Int} {gs : List Nat} (j : Nat) (y : Int) (g : Nat), kAre l ks gs = true → ks[j]? = some y → gs[j]? = some g → hasB g (kdK l y) = true
  | _ :: _, _ :: _, 0, y, g, h, hy, hg => by
    simp at hy hg
    subst hy hg
    simp only [kAre, Bool.and_eq_true] at h
    exact h.1
  | _ :: ks, _ :: gs, j + 1, y, g, h, hy, hg => by
    simp only [kAre, Bool.and_eq_true] at h
    exact kAre_at (ks := ks) (gs := gs) j y g h.2 (by simpa using hy) (by simpa using hg)
  | [], _, _, _, _, _, hy, _ => by simp at hy
  | _ :: _, [], _, _, _, _, _, hg => by simp at hg
theorem kAre_next {l : List Nd} : ∀ {ks : List Int} {gs : List Nat} (j : Nat) (y : Int) (g : Nat), kAre l (ks.take j) (gs.take j) = true → ks[j]? = some y → gs[j]? = some g → kAre l (ks.take (j + 1)) (gs.take (j + 1)) = hasB g (kdK l y)
  | _ :: _, _ :: _, 0, y, g, h, hy, hg => by
    simp at hy hg
    subst hy hg
    simp [kAre]
  | a :: ks, b :: gs, j + 1, y, g, h, hy, hg => by
    simp only [List.take_succ_cons, kAre, Bool.and_eq_true] at h
    rw [List.take_succ_cons, List.take_succ_cons]
    show (hasB b (kdK l a) && kAre l (ks.take (j + 1)) (gs.take (j + 1))) = _
    rw [h.1, Bool.true_and]
    exact kAre_next (ks := ks) (gs := gs) j y g h.2 (by simpa using hy) (by simpa using hg)
  | [], _, _, _, _, _, hy, _ => by simp at hy
  | _ :: _, [], _, _, _, _, _, hg => by simp at hg
set_option maxRecDepth 100000 in
set_option maxHeartbeats 4000000 in
theorem is108 (l : List Nd) (ao : Option Addr) (b c g : Nat) (y : Int) (w : World) (hl : NdA w ao c l) (hb : w.cell? ⟨b, 0, none⟩ = some (.slice ao l.length c)) (h0 : 0 ≤ y) (h1 : y < l.length) (hg : g < 18446744073709551616) : Calls Tryz.prog 108 #[.int .i64 y, .int .u64 g, .pointer (some ⟨b, 0, none⟩)] w fun e w' => e = .returned (.bool (hasB g (kdK l y))) ∧ w' = w := by
  obtain ⟨q, rfl⟩ : ∃ q : Nat, y = q := ⟨y.toNat, by omega⟩
  obtain ⟨l1, l2, _, l4⟩ := hl
  have hqn : q < l.length := by omega
  obtain ⟨x, hx⟩ : ∃ x, l[q]? = some x := ⟨_, List.getElem?_eq_getElem hqn⟩
  obtain ⟨gn, on, rfl, hnc⟩ := l4 (by omega)
  obtain ⟨b0, _⟩ := nd_cells hnc hx
  have hkd : kdK l (q : Int) = x.k := by unfold kdK; rw [Int.toNat_natCast, hx]
  have H1 : Hid (∀ W, Calls Tryz.prog 37 #[.int .u64 g, .int .i64 x.k] W fun e w' => e = .returned (.bool (hasB g x.k)) ∧ w' = W) := fun W => has37 g x.k W hg
  rw [hkd]
  have c53 := cells53
  clear hnc hx hkd l4
  generalize x.k = K at *
  generalize hasB g K = r at *
  generalize l.length = n at *
  go_enter Tryz.func108, Tryz.ntmps108
  go_wp2_with (go_at_call 37; refine (H1.out _).mono ?_; rintro e w' ⟨rfl, rfl⟩)
  go_ret
  exact ⟨rfl, rfl⟩
set_option maxRecDepth 100000 in
set_option maxHeartbeats 4000000 in
theorem eqf107 (l : List Nd) (ks : List Int) (gs : List Nat) (ao ko go : Option Addr) (b c kc gc : Nat) (w : World) (hl : NdA w ao c l) (hb : w.cell? ⟨b, 0, none⟩ = some (.slice ao l.length c)) (hk : IsA w ko kc ks) (hi : Inn l ks) (hg : GrA w go gc gs) : Calls Tryz.prog 107 #[.slice ko ks.length kc, .slice go gs.length gc, .func (.func 108) #[] #[.pointer (some ⟨b, 0, none⟩)]] w fun e w' => e = .returned (.bool (kAre l ks gs)) ∧ w' = w := by
  obtain ⟨k1, k2, k3⟩ := hk
  obtain ⟨g1, g2, g0, g3⟩ := hg
  obtain ⟨m, hm⟩ : ∃ m, m = ks.length := ⟨_, rfl⟩
  obtain ⟨p, hp⟩ : ∃ p, p = gs.length := ⟨_, rfl⟩
  rw [← hm] at k1 k3 ⊢
  rw [← hp] at g1 g3 ⊢
  have HN : Hid (m = ks.length ∧ p = gs.length) := ⟨hm, hp⟩
  have c3 := cells3'
  have c75 : Tryz.prog.cellsOf 75 = 1 := by kernel_rfl
  have K3 : Hid (0 < m → ∃ g o, ko = some ⟨g, o, none⟩ ∧ ∀ j y, ks[j]? = some y → w.cell? ⟨g, o + j, none⟩ = some (.int .i64 y)) := k3
  have G3 : Hid (0 < p → ∃ g o, go = some ⟨g, o, none⟩ ∧ ∀ (j y : Nat), gs[j]? = some y → w.cell? ⟨g, o + j, none⟩ = some (.int .u64 (y : Int))) := g3
  have H1 : Hid (∀ y g, y ∈ ks → g ∈ gs → Calls Tryz.prog 108 #[.int .i64 y, .int .u64 (g : Int), .pointer (some ⟨b, 0, none⟩)] w fun e w' => e = .returned (.bool (hasB g (kdK l y))) ∧ w' = w) := fun y g hy hg => is108 l ao b c g y w hl hb (hi y hy).1 (hi y hy).2 (g0 g hg)
  generalize hR : kAre l ks gs = R at *
  have HR : Hid (kAre l ks gs = R) := hR
  clear hm hp k3 g3 hl hb hi g0 hR
  by_cases hmp : m = p
  · subst hmp
    go_enter Tryz.func107, Tryz.ntmps107
    go_wp2
    go_loop [7, 8, 9, 17] (fun _ _ _ i => ∃ j : Nat, j ≤ m ∧ i = .int .i64 j ∧ kAre l (ks.take j) (gs.take j) = true) (fun _ _ _ i => m - (intOf i).toNat)
    case atStart => exact ⟨0, Nat.zero_le _, rfl, rfl⟩
    case round =>
      obtain ⟨j, hj, rfl, hT⟩ := hrel
      have HT : Hid (kAre l (ks.take j) (gs.take j) = true) := hT
      clear hT
      by_cases hlt : j < m
      · obtain ⟨y, hy⟩ : ∃ y, ks[j]? = some y := ⟨_, List.getElem?_eq_getElem (by have := HN.out.1; omega)⟩
        obtain ⟨g, hg⟩ : ∃ g, gs[j]? = some g := ⟨_, List.getElem?_eq_getElem (by have := HN.out.2; omega)⟩
        obtain ⟨gk, ok, rfl, hkc⟩ := K3.out (by omega)
        obtain ⟨gg, og, rfl, hgc⟩ := G3.out (by omega)
        have a0 := hkc j y hy
        have b0 := hgc j g hg
        have HV : Hid (kAre l (ks.take (j + 1)) (gs.take (j + 1)) = hasB g (kdK l y) ∧ (hasB g (kdK l y) = false → R = false)) := by
          refine ⟨kAre_next j y g HT.out hy hg, fun h => ?_⟩
          rw [← HR.out, ← Bool.not_eq_true]
          intro hh
          rw [kAre_at j y g hh hy hg] at h
          cases h
        have HC : Hid (Calls Tryz.prog 108 #[.int .i64 y, .int .u64 (g : Int), .pointer (some ⟨b, 0, none⟩)] w fun e w' => e = .returned (.bool (hasB g (kdK l y))) ∧ w' = w) := H1.out y g (List.mem_of_getElem? hy) (List.mem_of_getElem? hg)
        clear hkc hgc hy hg
        generalize hasB g (kdK l y) = r at *
        cases r
        · obtain rfl := HV.out.2 rfl
          go_wp2_with fail
          refine HC.out.mono ?_
          rintro e w' ⟨rfl, rfl⟩
          go_wp2
          go_ret
          exact ⟨rfl, rfl⟩
        · go_wp2_with fail
          refine HC.out.mono ?_
          rintro e w' ⟨rfl, rfl⟩
          go_wp2
          exact ⟨⟨j + 1, by omega, by go_num, HV.out.1⟩, by simp [intOf]; omega⟩
      · obtain rfl : j = m := by omega
        have hta : ks.take j = ks := List.take_of_length_le (by have := HN.out.1; omega)
        have htb : gs.take j = gs := List.take_of_length_le (by have := HN.out.2; omega)
        have hR : R = true := by rw [← HR.out, ← HT.out, hta, htb]
        subst hR
        go_wp2
        go_ret
        exact ⟨rfl, rfl⟩
  · have hR : R = false := by
      rw [← HR.out, ← Bool.not_eq_true]
      intro h
      have := kAre_len h
      have := HN.out
      omega
    subst hR
    have hne : ((m : Int) != (p : Int)) = true := by simp; omega
    go_enter Tryz.func107, Tryz.ntmps107
    go_wp2
    go_ret
    exact ⟨rfl, rfl⟩
set_option maxRecDepth 100000 in
set_option maxHeartbeats 4000000 in
theorem kindsAre86 (l : List Nd) (ks : List Int) (gs : List Nat) (ao ko go : Option Addr) (c kc gc : Nat) (w : World) (hl : NdA w ao c l) (hk : IsA w ko kc ks) (hi : Inn l ks) (hg : GrA w go gc gs) : Calls Tryz.prog 86 #[.slice ao l.length c, .slice ko ks.length kc, .slice go gs.length gc] w fun e w' => e = .returned (.bool (kAre l ks gs)) ∧ Below w.heap.size w w' := by
  have hbc := below_cells w #[.slice ao l.length c] 22
  have H1 : Hid (Calls Tryz.prog 107 #[.slice ko ks.length kc, .slice go gs.length gc, .func (.func 108) #[] #[.pointer (some ⟨w.heap.size, 0, none⟩)]] (w.alloc (.cells #[.slice ao l.length c] 22)) fun e w' => e = .returned (.bool (kAre l ks gs)) ∧ w' = w.alloc (.cells #[.slice ao l.length c] 22)) := eqf107 l ks gs ao ko go w.heap.size c kc gc _ (hl.below hbc) (by simp) (hk.below hbc) hi (hg.below hbc)
  generalize kAre l ks gs = R at *
  clear hl hk hi hg
  go_enter Tryz.func86, Tryz.ntmps86
  go_wp2_with fail
  refine H1.out.mono ?_
  rintro e w' ⟨rfl, rfl⟩
  go_wp2
  go_ret
  exact ⟨rfl, hbc⟩
end
section
open Go.RowKit Go.Shelf
/-- What the two closures of a node's kids lean on. -/
structure Bx (l : List Nd) (x : Nd) (ao : Option Addr) (c b d : Nat) (w : World) : Prop where
  nd : NdA w ao c l
  ks : IsA w x.ka x.kc x.ks
  inn : Inn l x.ks
  bx : w.cell? ⟨b, 0, none⟩ = some (.slice ao l.length c)
  cs : ∀ j y, (ndc x)[j]? = some y → w.cell? ⟨d, j, none⟩ = some y
theorem Bx.below {l : List Nd} {x : Nd} {ao : Option Addr} {c b d : Nat} {w w' : World} (h : Bx l x ao c b d w) (hb : Below w.heap.size w w') : Bx l x ao c b d w' :=
  ⟨h.nd.below hb, h.ks.below hb, h.inn, by rw [(bcell hb).1 b 0 (World.block_lt_of_cell? _ _ h.bx)]; exact h.bx, fun j y hy => by have t := h.cs j y hy; rw [(bcell hb).1 d j (World.block_lt_of_cell? _ _ t)]; exact t⟩
set_option maxRecDepth 100000 in
set_option maxHeartbeats 4000000 in
theorem all87 (l : List Nd) (x : Nd) (ao : Option Addr) (c b d g : Nat) (w : World) (h : Bx l x ao c b d w) (hg : g < 18446744073709551616) : Calls Tryz.prog 87 #[.int .u64 g, .pointer (some ⟨b, 0, none⟩), .pointer (some ⟨d, 0, none⟩)] w fun e w' => e = .returned (.bool (kAll l x.ks g)) ∧ w' = w := by
  have H1 : Hid (Calls Tryz.prog 88 #[.slice ao l.length c, .slice x.ka x.ks.length x.kc, .int .u64 g] w fun e w' => e = .returned (.bool (kAll l x.ks g)) ∧ w' = w) := kindsAll88 l x.ks ao x.ka c x.kc g w h.nd h.ks h.inn hg
  have a0 := h.bx
  have a1 : w.cell? ⟨d, 3, none⟩ = some (.slice x.ka x.ks.length x.kc) := h.cs 3 _ rfl
  clear h
  generalize kAll l x.ks g = R at *
  go_enter Tryz.func87, Tryz.ntmps87
  go_wp2_with fail
  refine H1.out.mono ?_
  rintro e w' ⟨rfl, rfl⟩
  go_wp2
  go_ret
  exact ⟨rfl, rfl⟩
set_option maxRecDepth 100000 in
set_option maxHeartbeats 4000000 in
theorem are85 (l : List Nd) (x : Nd) (gs : List Nat) (ao go : Option Addr) (c b d gc : Nat) (w : World) (h : Bx l x ao c b d w) (hg : GrA w go gc gs) : Calls Tryz.prog 85 #[.slice go gs.length gc, .pointer (some ⟨b, 0, none⟩), .pointer (some ⟨d, 0, none⟩)] w fun e w' => e = .returned (.bool (kAre l x.ks gs)) ∧ Below w.heap.size w w' := by
  have H1 : Hid (Calls Tryz.prog 86 #[.slice ao l.length c, .slice x.ka x.ks.length x.kc, .slice go gs.length gc] w fun e w' => e = .returned (.bool (kAre l x.ks gs)) ∧ Below w.heap.size w w') := kindsAre86 l x.ks gs ao x.ka go c x.kc gc w h.nd h.ks h.inn hg
  have a0 := h.bx
  have a1 : w.cell? ⟨d, 3, none⟩ = some (.slice x.ka x.ks.length x.kc) := h.cs 3 _ rfl
  clear h hg
  generalize kAre l x.ks gs = R at *
  go_enter Tryz.func85, Tryz.ntmps85
  go_wp2_with fail
  refine H1.out.mono ?_
  rintro e w1 ⟨rfl, hb⟩
  have HB : Hid (Below w.heap.size w w1) := hb
  clear hb
  go_wp2
  go_ret
  exact ⟨rfl, HB.out⟩
end
section
open Go.RowKit Go.Shelf
def At (e : Exit) (A : Act) (W : World) : Exit → Act → World → Prop := fun e' a' w' => e' = e ∧ a' = A ∧ w' = W
theorem At.mk {e : Exit} {A : Act} {W : World} : At e A W e A W := ⟨rfl, rfl, rfl⟩
theorem seq_to {P : Program} {x y : Code} {Q : Exit → Act → World → Prop} {a A : Act} {w W : World} (h : x.wp P (At .normal A W) a w) (k : y.wp P Q A W) : (Code.seq x y).wp P Q a w :=
  wp_seq (wp_mono h fun _ _ _ q => by obtain ⟨rfl, rfl, rfl⟩ := q; exact k)
theorem seq_exit {P : Program} {x y : Code} {n : Nat} {a A : Act} {w W : World} (h : x.wp P (At (.exit n) A W) a w) : (Code.seq x y).wp P (At (.exit n) A W) a w :=
  wp_seq (wp_mono h fun _ _ _ q => by obtain ⟨rfl, rfl, rfl⟩ := q; exact At.mk)
theorem blk_catch {P : Program} {c : Code} {n : Nat} {a A : Act} {w W : World} (h : c.wp P (At (.exit n) A W) a w) : (Code.block n c).wp P (At .normal A W) a w :=
  wp_block (wp_mono h fun _ _ _ q => by obtain ⟨rfl, rfl, rfl⟩ := q; simp only [Exit.inBlock, if_true]; exact At.mk)
theorem blk_pass {P : Program} {c : Code} {j n : Nat} {a A : Act} {w W : World} (hn : n ≠ j) (h : c.wp P (At (.exit n) A W) a w) : (Code.block j c).wp P (At (.exit n) A W) a w :=
  wp_block (wp_mono h fun _ _ _ q => by obtain ⟨rfl, rfl, rfl⟩ := q; simp only [Exit.inBlock, hn, if_false]; exact At.mk)
theorem blk_norm {P : Program} {c : Code} {j : Nat} {a A : Act} {w W : World} (h : c.wp P (At .normal A W) a w) : (Code.block j c).wp P (At .normal A W) a w :=
  wp_block (wp_mono h fun _ _ _ q => by obtain ⟨rfl, rfl, rfl⟩ := q; exact At.mk)
/-- A code leaves the function, and then this holds. -/
def Rt (R : Act → World → Prop) : Exit → Act → World → Prop := fun e' a' w' => e' = .ret ∧ R a' w'
theorem Rt.mk {R : Act → World → Prop} {A : Act} {W : World} (h : R A W) : Rt R .ret A W := ⟨rfl, h⟩
theorem seq_ret {P : Program} {x y : Code} {R : Act → World → Prop} {a : Act} {w : World} (h : x.wp P (Rt R) a w) : (Code.seq x y).wp P (Rt R) a w :=
  wp_seq (wp_mono h fun _ _ _ q => by obtain ⟨rfl, q⟩ := q; exact Rt.mk q)
theorem blk_ret {P : Program} {c : Code} {n : Nat} {R : Act → World → Prop} {a : Act} {w : World} (h : c.wp P (Rt R) a w) : (Code.block n c).wp P (Rt R) a w :=
  wp_block (wp_mono h fun _ _ _ q => by obtain ⟨rfl, q⟩ := q; simp only [Exit.inBlock]; exact Rt.mk q)
theorem cut_ret {P : Program} {c : Code} {Q : Exit → Act → World → Prop} {a : Act} {w : World} (h : c.wp P (Rt (Q .ret)) a w) : c.wp P Q a w :=
  wp_mono h fun _ _ _ q => by obtain ⟨rfl, q⟩ := q; exact q
theorem gr_1 (w : World) (g : Nat) (t : TypeId) (h : g < 18446744073709551616) : GrA (w.alloc (.cells #[.int .u64 (g : Int)] t)) (some ⟨w.heap.size, 0, none⟩) 1 [g] :=
  ⟨Nat.le_refl _, by omega, fun x hx => by simp at hx; omega, fun _ => ⟨w.heap.size, 0, rfl, fun j y hy => by
    match j, hy with
    | 0, hy => simp at hy; subst hy; simp
    | j + 1, hy => simp at hy⟩⟩
theorem gr_2 (w : World) (g h : Nat) (t : TypeId) (h1 : g < 18446744073709551616) (h2 : h < 18446744073709551616) : GrA (w.alloc (.cells #[.int .u64 (g : Int), .int .u64 (h : Int)] t)) (some ⟨w.heap.size, 0, none⟩) 2 [g, h] :=
  ⟨Nat.le_refl _, by omega, fun x hx => by simp at hx; omega, fun _ => ⟨w.heap.size, 0, rfl, fun j y hy => by
    match j, hy with
    | 0, hy => simp at hy; subst hy; simp
    | 1, hy => simp at hy; subst hy; simp
    | j + 2, hy => simp at hy⟩⟩
theorem gr_3 (w : World) (g h i : Nat) (t : TypeId) (h1 : g < 18446744073709551616) (h2 : h < 18446744073709551616) (h3 : i < 18446744073709551616) : GrA (w.alloc (.cells #[.int .u64 (g : Int), .int .u64 (h : Int), .int .u64 (i : Int)] t)) (some ⟨w.heap.size, 0, none⟩) 3 [g, h, i] :=
  ⟨Nat.le_refl _, by omega, fun x hx => by simp at hx; omega, fun _ => ⟨w.heap.size, 0, rfl, fun j y hy => by
    match j, hy with
    | 0, hy => simp at hy; subst hy; simp
    | 1, hy => simp at hy; subst hy; simp
    | 2, hy => simp at hy; subst hy; simp
    | j + 3, hy => simp at hy⟩⟩
/-- What every walk of a node's kids leans on. -/
theorem bx_new (l : List Nd) (x : Nd) (ao : Option Addr) (c : Nat) (w : World) (hl : NdA w ao c l) (hk : IsA w x.ka x.kc x.ks) (hi : Inn l x.ks) : Bx l x ao c w.heap.size (w.heap.size + 1) ((w.alloc (.cells #[.slice ao l.length c] 22)).alloc (.cells #[.int .i64 x.k, .string x.nm, .int .i64 x.v, .slice x.ka x.ks.length x.kc, .int .i64 x.fr, .int .i64 x.en] 53)) := by
  have hb : Below w.heap.size w ((w.alloc (.cells #[.slice ao l.length c] 22)).alloc (.cells #[.int .i64 x.k, .string x.nm, .int .i64 x.v, .slice x.ka x.ks.length x.kc, .int .i64 x.fr, .int .i64 x.en] 53)) := (below_cells w _ _).alloc (by simp) _
  refine ⟨hl.below hb, hk.below hb, hi, by simp, fun j y hy => ?_⟩
  match j, hy with
  | 0, hy => cases hy; simp
  | 1, hy => cases hy; simp
  | 2, hy => cases hy; simp
  | 3, hy => cases hy; simp
  | 4, hy => cases hy; simp
  | 5, hy => cases hy; simp
  | j + 6, hy => simp [ndc] at hy
end
end Go.Proofs.YtkkmeogehapjoaaGreatDoor
