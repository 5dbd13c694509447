/- The unit's type put; the little tree. The little tree's nodes put. The little tree: what is asked of it holds. -/
import Derived.Test.YtkkmeogehapjoaaGreatDoorY8
namespace Go.Proofs.YtkkmeogehapjoaaGreatDoor
section
open Go.RowKit Go.Shelf
set_option maxRecDepth 100000 in
set_option maxHeartbeats 4000000 in
theorem node_type (w0 : World) (b : Nat) (nd : Value) (x : Nd) (t T : List UInt8) (W : World) (hS : St w0 b nd t W) (h1 : hasB 140667696185344 x.k = false) (h2 : hasB 266338304 x.k = false) (h3 : hasB 130048 x.k = true) (H : ∀ W', St w0 b nd t W' → Calls Tryz.prog 71 #[.pointer (some ⟨b, 0, none⟩), nda x] W' fun e w' => e = .returned (.tuple #[]) ∧ PoS w0 b nd T W' w') : Calls Tryz.prog 46 #[.pointer (some ⟨b, 0, none⟩), nda x] W fun e w' => e = .returned (.tuple #[]) ∧ PoS w0 b nd T W w' := by
  have g1 : Hid (∀ W, Calls Tryz.prog 37 #[.int .u64 140667696185344, .int .i64 x.k] W fun e w' => e = .returned (.bool false) ∧ w' = W) := fun W => by have t := has37 140667696185344 x.k W (by decide); rw [h1] at t; exact t
  have g2 : Hid (∀ W, Calls Tryz.prog 37 #[.int .u64 266338304, .int .i64 x.k] W fun e w' => e = .returned (.bool false) ∧ w' = W) := fun W => by have t := has37 266338304 x.k W (by decide); rw [h2] at t; exact t
  have g3 : Hid (∀ W, Calls Tryz.prog 37 #[.int .u64 130048, .int .i64 x.k] W fun e w' => e = .returned (.bool true) ∧ w' = W) := fun W => by have t := has37 130048 x.k W (by decide); rw [h3] at t; exact t
  unfold nda at *
  have HW : Hid (∀ o, Calls Tryz.prog 71 #[.pointer (some ⟨b, 0, none⟩), .agg #[.int .i64 x.k, .string x.nm, .int .i64 x.v, .slice x.ka x.ks.length x.kc, .int .i64 x.fr, .int .i64 x.en]] (W.alloc o) fun e w' => e = .returned (.tuple #[]) ∧ PoS w0 b nd T W w') := fun o => (H _ (hS.alloc o)).mono fun e w' ⟨a1, a2⟩ => ⟨a1, a2.of_alloc⟩
  clear h1 h2 h3 hS H
  obtain ⟨xk, xn, xv, xa, xc, xs, xf, xe⟩ := x
  simp only at *
  generalize xs.length = xl at *
  go_enter Tryz.func46, Tryz.ntmps46
  go_wp2_with fail
  refine (g1.out _).mono ?_
  rintro e w' ⟨rfl, rfl⟩
  go_wp2_with fail
  refine (g2.out _).mono ?_
  rintro e w' ⟨rfl, rfl⟩
  go_wp2_with fail
  refine (g3.out _).mono ?_
  rintro e w' ⟨rfl, rfl⟩
  go_wp2_with fail
  refine (HW.out _).mono ?_
  rintro e w' ⟨rfl, hE⟩
  have HE : Hid (PoS w0 b nd T W w') := hE
  clear hE
  go_wp2
  go_end0
  exact ⟨rfl, HE.out⟩
set_option maxRecDepth 100000 in
set_option maxHeartbeats 4000000 in
theorem type_12 (w0 : World) (b : Nat) (nd : Value) (l : List Nd) (nt : Nat → Tks) (K : Nat) (hP : Puts w0 b nd l nt K 3) (x : Nd) (hk : x.k = 12) (hx1 : x.ks.length ≤ x.kc) (hx2 : x.kc ≤ 9223372036854775807) (t : List UInt8) (W : World) (hS : St w0 b nd t W) (hlen : (run t (psT nt l [.s ⟨#[40]⟩, .s ⟨#[41]⟩])).length ≤ 140737488355328) : Calls Tryz.prog 71 #[.pointer (some ⟨b, 0, none⟩), nda x] W fun e w' => e = .returned (.tuple #[]) ∧ PoS w0 b nd (run t (psT nt l [.s ⟨#[40]⟩, .s ⟨#[41]⟩])) W w' := by
  have HC : Hid (∀ W g, g = W.heap.size → St w0 b nd t W → Calls Tryz.prog 26 #[.pointer (some ⟨b, 0, none⟩), .slice (some ⟨g, 0, none⟩) 2 2] (W.alloc (.cells #[.iface 9 (.string ⟨#[40]⟩), .iface 9 (.string ⟨#[41]⟩)] 20)) fun e w' => e = .returned (.tuple #[]) ∧ PoS w0 b nd (run t (psT nt l [.s ⟨#[40]⟩, .s ⟨#[41]⟩])) W w') := fun W g hg hW => by
    subst hg
    exact put_at hP [.s ⟨#[40]⟩, .s ⟨#[41]⟩] (by simp) (fun p hp => by simp at hp; rcases hp with rfl | rfl <;> exact ⟨by simp [Pt.rk], trivial⟩) 2 rfl _ rfl t W hW hlen
  have HS : Hid (St w0 b nd t W) := hS
  clear hP hlen hS
  generalize run t (psT nt l [.s ⟨#[40]⟩, .s ⟨#[41]⟩]) = T at *
  unfold nda
  obtain ⟨xk, xn, xv, xa, xc, xs, xf, xe⟩ := x
  simp only at *
  subst hk
  generalize xs.length = xl at *
  go_enter Tryz.func71, Tryz.ntmps71
  go_wp2_with fail
  refine (HC.out (W.alloc _) _ (by simp) (HS.out.alloc _)).mono ?_
  rintro e w' ⟨rfl, hE⟩
  have HE : Hid (PoS w0 b nd T W w') := hE.of_alloc
  clear hE
  go_wp2
  go_end0
  exact ⟨rfl, HE.out⟩
/-- The little tree. -/
def lx0 : Nd := ⟨12, ⟨#[]⟩, 0, none, 0, [], 0, 0⟩
def lx1 : Nd := ⟨20, ⟨#[]⟩, 0, none, 0, [], 0, 0⟩
def lx2 (a : Nat) : Nd := ⟨2, ⟨#[109, 97, 105, 110]⟩, 0, some ⟨a, 0, none⟩, 2, [0, 1], 0, 0⟩
def lx3 (a : Nat) : Nd := ⟨1, ⟨#[]⟩, 0, some ⟨a, 0, none⟩, 1, [2], 0, 0⟩
def lit (a2 a3 : Nat) : List Nd := [lx0, lx1, lx2 a2, lx3 a3]
def ntl : Nat → Tks
  | 0 => [[40], [41]]
  | 1 => [[123], [125]]
  | 2 => [[102, 110], [109, 97, 105, 110], [40], [41], [123], [125]]
  | 3 => [[102, 110], [109, 97, 105, 110], [40], [41], [123], [125]]
  | _ => []
theorem lit_right (a2 a3 : Nat) : rightB (lit a2 a3) = true := by kernel_rfl
theorem lit_par (a2 a3 : Nat) : parR (lit a2 a3) = some [2, 2, 3, -1] := by kernel_rfl
theorem lit_deep : Lib.maxOf (depR [2, 2, 3, -1]) = 2 := by kernel_rfl
theorem lit_text : run [] (ntl 3) = [102, 110, 32, 109, 97, 105, 110, 32, 40, 32, 41, 32, 123, 32, 125] := by kernel_rfl
end
section
open Go.RowKit Go.Shelf
theorem lit_len (a2 a3 : Nat) : (lit a2 a3).length = 4 := rfl
theorem lit_0 (w0 : World) (b : Nat) (ao : Option Addr) (c a2 a3 : Nat) (hl : NdA w0 ao c (lit a2 a3)) : NodeC w0 b (.slice ao (lit a2 a3).length c) (lit a2 a3) ntl 0 := by
  intro x t W hx hS hlen
  obtain rfl : lx0 = x := Option.some.inj hx
  have hP := puts_all w0 b ao c (lit a2 a3) ntl 0 hl (Nat.zero_le _) (fun k hk => absurd hk (Nat.not_lt_zero _))
  exact node_type w0 b _ lx0 t (run t (ntl 0)) W hS (by kernel_rfl) (by kernel_rfl) (by kernel_rfl) fun W' hW => type_12 w0 b _ (lit a2 a3) ntl 0 hP lx0 rfl (Nat.le_refl _) (by decide) t W' hW hlen
theorem lit_1 (w0 : World) (b : Nat) (ao : Option Addr) (c a2 a3 : Nat) (hl : NdA w0 ao c (lit a2 a3)) : NodeC w0 b (.slice ao (lit a2 a3).length c) (lit a2 a3) ntl 1 := by
  intro x t W hx hS hlen
  obtain rfl : lx1 = x := Option.some.inj hx
  have hP := puts_all w0 b ao c (lit a2 a3) ntl 1 hl (by rw [lit_len]; decide) (fun k hk => by
    obtain rfl : k = 0 := by omega
    exact lit_0 w0 b ao c a2 a3 hl)
  exact node_expr w0 b _ lx1 t (run t (ntl 1)) W hS (by kernel_rfl) fun W' hW => expr_20 w0 b _ (lit a2 a3) ntl 1 hP lx1 rfl (hl.2.2.1 lx1 (by simp [lit])).ks (fun y hy => by cases hy) t W' hW hlen
theorem lit_2 (w0 : World) (b : Nat) (ao : Option Addr) (c a2 a3 : Nat) (hl : NdA w0 ao c (lit a2 a3)) : NodeC w0 b (.slice ao (lit a2 a3).length c) (lit a2 a3) ntl 2 := by
  intro x t W hx hS hlen
  obtain rfl : lx2 a2 = x := Option.some.inj hx
  have hP := puts_all w0 b ao c (lit a2 a3) ntl 2 hl (by rw [lit_len]; decide) (fun k hk => by
    obtain rfl | rfl : k = 0 ∨ k = 1 := by omega
    · exact lit_0 w0 b ao c a2 a3 hl
    · exact lit_1 w0 b ao c a2 a3 hl)
  have e : fnT (lit a2 a3) ntl (lx2 a2) 0 1 = ntl 2 := by kernel_rfl
  refine node_item w0 b _ (lx2 a2) t (run t (ntl 2)) W hS (by kernel_rfl) (by kernel_rfl) (by kernel_rfl) (by kernel_rfl) fun W' hW => ?_
  rw [← e] at hlen ⊢
  exact item_2 w0 b ao c (lit a2 a3) ntl 2 hl (by rw [lit_len]; decide) hP (lx2 a2) rfl (hl.2.2.1 (lx2 a2) (by simp [lit])).ks (fun y hy => by simp [lx2] at hy; omega) 0 1 (Nat.le_refl _) rfl rfl t W' hW hlen
theorem lit_3 (w0 : World) (b : Nat) (ao : Option Addr) (c a2 a3 : Nat) (hl : NdA w0 ao c (lit a2 a3)) : NodeC w0 b (.slice ao (lit a2 a3).length c) (lit a2 a3) ntl 3 := by
  intro x t W hx hS hlen
  obtain rfl : lx3 a3 = x := Option.some.inj hx
  have hP := puts_all w0 b ao c (lit a2 a3) ntl 3 hl (by rw [lit_len]; decide) (fun k hk => by
    obtain rfl | rfl | rfl : k = 0 ∨ k = 1 ∨ k = 2 := by omega
    · exact lit_0 w0 b ao c a2 a3 hl
    · exact lit_1 w0 b ao c a2 a3 hl
    · exact lit_2 w0 b ao c a2 a3 hl)
  have e : psT ntl (lit a2 a3) [.ea (lx3 a3).ka (lx3 a3).kc (lx3 a3).ks] = ntl 3 := by kernel_rfl
  refine node_item w0 b _ (lx3 a3) t (run t (ntl 3)) W hS (by kernel_rfl) (by kernel_rfl) (by kernel_rfl) (by kernel_rfl) fun W' hW => ?_
  rw [← e] at hlen ⊢
  exact item_1 w0 b _ (lit a2 a3) ntl 3 hP (lx3 a3) rfl (hl.2.2.1 (lx3 a3) (by simp [lit])).ks (fun y hy => by simp [lx3] at hy; omega) t W' hW hlen
theorem lit_print (ao : Option Addr) (c a2 a3 : Nat) (w : World) (hT : Tm w) (hl : NdA w ao c (lit a2 a3)) : Calls Tryz.prog 9 #[.agg #[.slice ao 4 c]] w fun e w' => e = .returned (.tuple #[.string ⟨#[102, 110, 32, 109, 97, 105, 110, 32, 40, 32, 41, 32, 123, 32, 125]⟩, .int .i64 0]) ∧ Below w.heap.size w w' :=
  print_right (lit a2 a3) ao c w hT hl (lit_right a2 a3) (by rw [lit_len]; decide) ntl (fun w0 b h k hk => by
    rw [lit_len] at hk
    obtain rfl | rfl | rfl | rfl : k = 0 ∨ k = 1 ∨ k = 2 ∨ k = 3 := by omega
    · exact lit_0 w0 b ao c a2 a3 h
    · exact lit_1 w0 b ao c a2 a3 h
    · exact lit_2 w0 b ao c a2 a3 h
    · exact lit_3 w0 b ao c a2 a3 h) _ lit_text (by simp) (by decide)
theorem lit_depth (ao : Option Addr) (c a2 a3 : Nat) (w : World) (hT : Tm w) (hl : NdA w ao c (lit a2 a3)) : Calls Tryz.prog 23 #[.agg #[.slice ao 4 c]] w fun e w' => e = .returned (.tuple #[.int .i64 2, .int .i64 0]) ∧ Below w.heap.size w w' := by
  have t := depth_right (lit a2 a3) ao c w hT hl (lit_right a2 a3) _ (lit_par a2 a3)
  rw [lit_deep] at t
  exact t
theorem nil_check (w : World) (hT : Tm w) : Calls Tryz.prog 11 #[.agg #[.slice none 0 0]] w fun e w' => e = .returned (.int .i64 3) ∧ Below w.heap.size w w' := by
  have t := check11 [] none 0 w hT ⟨Nat.le_refl _, by decide, (fun x hx => by simp at hx), fun h => absurd h (Nat.lt_irrefl _)⟩
  rw [show rightB [] = false by kernel_rfl, if_neg (by simp)] at t
  exact t
end
section
open Go.RowKit Go.Shelf
def litC (a2 a3 : Nat) : Array Value := #[.int .i64 12, .string ⟨#[]⟩, .int .i64 0, .slice none 0 0, .int .i64 0, .int .i64 0, .int .i64 20, .string ⟨#[]⟩, .int .i64 0, .slice none 0 0, .int .i64 0, .int .i64 0, .int .i64 2, .string ⟨#[109, 97, 105, 110]⟩, .int .i64 0, .slice (some ⟨a2, 0, none⟩) 2 2, .int .i64 0, .int .i64 0, .int .i64 1, .string ⟨#[]⟩, .int .i64 0, .slice (some ⟨a3, 0, none⟩) 1 1, .int .i64 0, .int .i64 0]
theorem lit_cells (a2 a3 : Nat) : ∀ i x, (lit a2 a3)[i]? = some x → ∀ j y, (ndc x)[j]? = some y → (litC a2 a3)[0 + i * 6 + j]? = some y := by
  intro i x hx
  match i, hx with
  | 0, hx =>
    cases hx
    intro j y hy
    match j, hy with
    | 0, hy => exact hy
    | 1, hy => exact hy
    | 2, hy => exact hy
    | 3, hy => exact hy
    | 4, hy => exact hy
    | 5, hy => exact hy
    | n + 6, hy => simp [ndc] at hy
  | 1, hx =>
    cases hx
    intro j y hy
    match j, hy with
    | 0, hy => exact hy
    | 1, hy => exact hy
    | 2, hy => exact hy
    | 3, hy => exact hy
    | 4, hy => exact hy
    | 5, hy => exact hy
    | n + 6, hy => simp [ndc] at hy
  | 2, hx =>
    cases hx
    intro j y hy
    match j, hy with
    | 0, hy => exact hy
    | 1, hy => exact hy
    | 2, hy => exact hy
    | 3, hy => exact hy
    | 4, hy => exact hy
    | 5, hy => exact hy
    | n + 6, hy => simp [ndc] at hy
  | 3, hx =>
    cases hx
    intro j y hy
    match j, hy with
    | 0, hy => exact hy
    | 1, hy => exact hy
    | 2, hy => exact hy
    | 3, hy => exact hy
    | 4, hy => exact hy
    | 5, hy => exact hy
    | n + 6, hy => simp [ndc] at hy
  | n + 4, hx => simp [lit] at hx
theorem isa_nil (W : World) : IsA W none 0 [] := ⟨Nat.le_refl _, by decide, fun h => absurd h (Nat.lt_irrefl _)⟩
theorem lit_lies (W : World) (g a2 a3 : Nat) (hg : W.heap[g]? = some (.cells (litC a2 a3) 53 (0, 0))) (h2 : W.heap[a2]? = some (.cells #[.int .i64 0, .int .i64 1] 3 (0, 0))) (h3 : W.heap[a3]? = some (.cells #[.int .i64 2] 3 (0, 0))) : NdA W (some ⟨g, 0, none⟩) 4 (lit a2 a3) := by
  refine ⟨Nat.le_refl _, by decide, fun x hx => ?_, fun _ => ⟨g, 0, rfl, fun i x hi j y hy => ?_⟩⟩
  · simp only [lit, List.mem_cons, List.not_mem_nil, or_false] at hx
    rcases hx with rfl | rfl | rfl | rfl
    · exact ⟨by decide, by decide, by decide, isa_nil W⟩
    · exact ⟨by decide, by decide, by decide, isa_nil W⟩
    · refine ⟨by show (4 : Nat) ≤ 4294967280; decide, by show (-9223372036854775808 : Int) ≤ 0; decide, by show (0 : Int) ≤ 9223372036854775807; decide, Nat.le_refl _, by show 2 ≤ 9223372036854775807; decide, fun _ => ⟨a2, 0, rfl, fun j y hy => ?_⟩⟩
      rw [Lib.cell_of_heap h2]
      match j, hy with
      | 0, hy => cases hy; rfl
      | 1, hy => cases hy; rfl
      | n + 2, hy => simp [lx2] at hy
    · refine ⟨by show (0 : Nat) ≤ 4294967280; decide, by show (-9223372036854775808 : Int) ≤ 0; decide, by show (0 : Int) ≤ 9223372036854775807; decide, Nat.le_refl _, by show 1 ≤ 9223372036854775807; decide, fun _ => ⟨a3, 0, rfl, fun j y hy => ?_⟩⟩
      rw [Lib.cell_of_heap h3]
      match j, hy with
      | 0, hy => cases hy; rfl
      | n + 1, hy => simp [lx3] at hy
  · rw [Lib.cell_of_heap hg]
    exact lit_cells a2 a3 i x hi j y hy
/-- The world in which the little tree lies. -/
def litW (w : World) : World := (((w.alloc (.cells #[.int .i64 0, .int .i64 1] 3)).alloc (.cells #[.int .i64 2] 3)).alloc (.cells (litC w.heap.size (w.heap.size + 1)) 53)).alloc (.cells #[.slice (some ⟨w.heap.size + 1 + 1, 0, none⟩) 4 4] 24)
theorem litW_all (w : World) : Below w.heap.size w (litW w) ∧ NdA (litW w) (some ⟨w.heap.size + 1 + 1, 0, none⟩) 4 (lit w.heap.size (w.heap.size + 1)) ∧ (litW w).cell? ⟨w.heap.size + 1 + 1 + 1, 0, none⟩ = some (.slice (some ⟨w.heap.size + 1 + 1, 0, none⟩) 4 4) ∧ w.heap.size + 1 + 1 + 1 < (litW w).heap.size := by
  obtain ⟨w1, e1⟩ : ∃ w1, w1 = w.alloc (.cells #[.int .i64 0, .int .i64 1] 3) := ⟨_, rfl⟩
  obtain ⟨w2, e2⟩ : ∃ w2, w2 = w1.alloc (.cells #[.int .i64 2] 3) := ⟨_, rfl⟩
  obtain ⟨w3, e3⟩ : ∃ w3, w3 = w2.alloc (.cells (litC w.heap.size (w.heap.size + 1)) 53) := ⟨_, rfl⟩
  have s1 : w1.heap.size = w.heap.size + 1 := by rw [e1]; simp
  have s2 : w2.heap.size = w.heap.size + 1 + 1 := by rw [e2]; simp [s1]
  have s3 : w3.heap.size = w.heap.size + 1 + 1 + 1 := by rw [e3]; simp [s2]
  have e4 : litW w = w3.alloc (.cells #[.slice (some ⟨w.heap.size + 1 + 1, 0, none⟩) 4 4] 24) := by rw [e3, e2, e1]; rfl
  have s4 : (litW w).heap.size = w.heap.size + 1 + 1 + 1 + 1 := by rw [e4]; simp [s3]
  have n1 : w1.heap[w.heap.size]? = some (.cells #[.int .i64 0, .int .i64 1] 3 (0, 0)) := by rw [e1]; exact Go.heap_alloc_new w _
  have n2 : w2.heap[w.heap.size + 1]? = some (.cells #[.int .i64 2] 3 (0, 0)) := by rw [e2, ← s1]; exact Go.heap_alloc_new w1 _
  have n3 : w3.heap[w.heap.size + 1 + 1]? = some (.cells (litC w.heap.size (w.heap.size + 1)) 53 (0, 0)) := by rw [e3, ← s2]; exact Go.heap_alloc_new w2 _
  have n4 : (litW w).heap[w.heap.size + 1 + 1 + 1]? = some (.cells #[.slice (some ⟨w.heap.size + 1 + 1, 0, none⟩) 4 4] 24 (0, 0)) := by rw [e4, ← s3]; exact Go.heap_alloc_new w3 _
  have o2 : ∀ i, i < w.heap.size + 1 → w2.heap[i]? = w1.heap[i]? := fun i hi => by rw [e2, Lib.alloc_old w1 _ i (by omega)]
  have o3 : ∀ i, i < w.heap.size + 1 + 1 → w3.heap[i]? = w2.heap[i]? := fun i hi => by rw [e3, Lib.alloc_old w2 _ i (by omega)]
  have o4 : ∀ i, i < w.heap.size + 1 + 1 + 1 → (litW w).heap[i]? = w3.heap[i]? := fun i hi => by rw [e4, Lib.alloc_old w3 _ i (by omega)]
  refine ⟨?_, lit_lies _ _ _ _ ?_ ?_ ?_, ?_, by omega⟩
  · have b1 : Below w.heap.size w w1 := by rw [e1]; exact below_cells w _ _
    have b2 : Below w.heap.size w w2 := by rw [e2]; exact b1.alloc b1.size _
    have b3 : Below w.heap.size w w3 := by rw [e3]; exact b2.alloc b2.size _
    rw [e4]
    exact b3.alloc b3.size _
  · rw [o4 _ (by omega), n3]
  · rw [o4 _ (by omega), o3 _ (by omega), o2 _ (by omega), n1]
  · rw [o4 _ (by omega), o3 _ (by omega), n2]
  · rw [Lib.cell_of_heap n4]; rfl
set_option maxRecDepth 100000 in
set_option maxHeartbeats 4000000 in
theorem small13 (w : World) (hT : Tm w) : Calls Tryz.prog 13 #[] w fun e w' => e = .returned (.bool true) ∧ Below w.heap.size w w' := by
  obtain ⟨hb, hl, hc, hz⟩ := litW_all w
  have H9 : Hid (Calls Tryz.prog 9 #[.agg #[.slice (some ⟨w.heap.size + 1 + 1, 0, none⟩) 4 4]] (litW w) fun e w' => e = .returned (.tuple #[.string ⟨#[102, 110, 32, 109, 97, 105, 110, 32, 40, 32, 41, 32, 123, 32, 125]⟩, .int .i64 0]) ∧ Below (litW w).heap.size (litW w) w') := lit_print _ _ _ _ _ (hT.below hb) hl
  have H23 : Hid (∀ W, Below (litW w).heap.size (litW w) W → Calls Tryz.prog 23 #[.agg #[.slice (some ⟨w.heap.size + 1 + 1, 0, none⟩) 4 4]] W fun e w' => e = .returned (.tuple #[.int .i64 2, .int .i64 0]) ∧ Below W.heap.size W w') := fun W hW => lit_depth _ _ _ _ _ ((hT.below hb).below hW) (hl.below hW)
  have H11 : Hid (∀ W, Below w.heap.size w W → Calls Tryz.prog 11 #[.agg #[.slice none 0 0]] W fun e w' => e = .returned (.int .i64 3) ∧ Below W.heap.size W w') := fun W hW => nil_check W (hT.below hW)
  have HB : Hid (Below w.heap.size w (litW w)) := hb
  have HC : Hid ((litW w).cell? ⟨w.heap.size + 1 + 1 + 1, 0, none⟩ = some (.slice (some ⟨w.heap.size + 1 + 1, 0, none⟩) 4 4) ∧ w.heap.size + 1 + 1 + 1 < (litW w).heap.size) := ⟨hc, hz⟩
  clear hT hb hl hc hz
  go_enter Tryz.func13, Tryz.ntmps13
  go_wp2_with fail
  refine H9.out.mono ?_
  rintro e w1 ⟨rfl, hb⟩
  have HB1 : Hid (Below (litW w).heap.size (litW w) w1) := hb
  have d0 : w1.cell? ⟨w.heap.size + 1 + 1 + 1, 0, none⟩ = some (.slice (some ⟨w.heap.size + 1 + 1, 0, none⟩) 4 4) := ((bcell hb).1 _ 0 HC.out.2).trans HC.out.1
  clear hb H9
  go_wp2_with fail
  refine (H23.out _ HB1.out).mono ?_
  rintro e w2 ⟨rfl, hb⟩
  have HB2 : Hid (Below w.heap.size w w2) := HB.out.trans ((HB1.out.trans (hb.mono HB1.out.size)).mono HB.out.size)
  clear hb H23 d0 HB1
  go_wp2_with fail
  refine (H11.out _ HB2.out).mono ?_
  rintro e w3 ⟨rfl, hb⟩
  have HB3 : Hid (Below w.heap.size w w3) := HB2.out.trans (hb.mono HB2.out.size)
  clear hb H11
  go_wp2
  go_ret
  exact ⟨rfl, HB3.out⟩
end
end Go.Proofs.YtkkmeogehapjoaaGreatDoor
