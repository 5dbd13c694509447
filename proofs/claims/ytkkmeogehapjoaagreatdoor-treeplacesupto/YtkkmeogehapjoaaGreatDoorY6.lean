/- A node put: where its kind is an item's, or an expression's. -/
import Derived.Test.YtkkmeogehapjoaaGreatDoorY5
namespace Go.Proofs.YtkkmeogehapjoaaGreatDoor
open Go.RowKit Go.Shelf
/-- A list of parts in memory, put. -/
theorem put_at {w0 : World} {b : Nat} {nd : Value} {l : List Nd} {nt : Nat → Tks} {K : Nat} (hP : Puts w0 b nd l nt K 3) (ps : List Pt) (h1 : 0 < ps.length ∧ ps.length ≤ 100) (h2 : ∀ p ∈ ps, p.rk < 3 ∧ p.ok w0 K) (n : Nat) (hn : n = ps.length) (vs : Array Value) (hvs : vs = (ps.map Pt.v).toArray) (t : List UInt8) (W : World) (hS : St w0 b nd t W) (hlen : (run t (psT nt l ps)).length ≤ 140737488355328) : Calls Tryz.prog 26 #[.pointer (some ⟨b, 0, none⟩), .slice (some ⟨W.heap.size, 0, none⟩) n n] (W.alloc (.cells vs 20)) fun e w' => e = .returned (.tuple #[]) ∧ PoS w0 b nd (run t (psT nt l ps)) W w' := by
  subst hvs
  exact (hP ps h1 h2 t (W.alloc (.cells (ps.map Pt.v).toArray 20)) W.heap.size n hn (hS.alloc _) (Go.heap_alloc_new W _) hlen).mono fun e w' ⟨h1, h2⟩ => ⟨h1, h2.of_alloc⟩
def nda (x : Nd) : Value := .agg #[.int .i64 x.k, .string x.nm, .int .i64 x.v, .slice x.ka x.ks.length x.kc, .int .i64 x.fr, .int .i64 x.en]
set_option maxRecDepth 100000 in
set_option maxHeartbeats 4000000 in
theorem node_item (w0 : World) (b : Nat) (nd : Value) (x : Nd) (t T : List UInt8) (W : World) (hS : St w0 b nd t W) (h1 : hasB 140667696185344 x.k = false) (h2 : hasB 266338304 x.k = false) (h3 : hasB 130048 x.k = false) (h4 : hasB 34902897112121344 x.k = false) (H : ∀ W', St w0 b nd t W' → Calls Tryz.prog 73 #[.pointer (some ⟨b, 0, none⟩), nda x] W' fun e w' => e = .returned (.tuple #[]) ∧ PoS w0 b nd T W' w') : Calls Tryz.prog 46 #[.pointer (some ⟨b, 0, none⟩), nda x] W fun e w' => e = .returned (.tuple #[]) ∧ PoS w0 b nd T W w' := by
  have g1 : Hid (∀ W, Calls Tryz.prog 37 #[.int .u64 140667696185344, .int .i64 x.k] W fun e w' => e = .returned (.bool false) ∧ w' = W) := fun W => by have t := has37 140667696185344 x.k W (by decide); rw [h1] at t; exact t
  have g2 : Hid (∀ W, Calls Tryz.prog 37 #[.int .u64 266338304, .int .i64 x.k] W fun e w' => e = .returned (.bool false) ∧ w' = W) := fun W => by have t := has37 266338304 x.k W (by decide); rw [h2] at t; exact t
  have g3 : Hid (∀ W, Calls Tryz.prog 37 #[.int .u64 130048, .int .i64 x.k] W fun e w' => e = .returned (.bool false) ∧ w' = W) := fun W => by have t := has37 130048 x.k W (by decide); rw [h3] at t; exact t
  have g4 : Hid (∀ W, Calls Tryz.prog 37 #[.int .u64 34902897112121344, .int .i64 x.k] W fun e w' => e = .returned (.bool false) ∧ w' = W) := fun W => by have t := has37 34902897112121344 x.k W (by decide); rw [h4] at t; exact t
  unfold nda at *
  have HW : Hid (∀ o, Calls Tryz.prog 73 #[.pointer (some ⟨b, 0, none⟩), .agg #[.int .i64 x.k, .string x.nm, .int .i64 x.v, .slice x.ka x.ks.length x.kc, .int .i64 x.fr, .int .i64 x.en]] (W.alloc o) fun e w' => e = .returned (.tuple #[]) ∧ PoS w0 b nd T W w') := fun o => (H _ (hS.alloc o)).mono fun e w' ⟨a1, a2⟩ => ⟨a1, a2.of_alloc⟩
  clear h1 h2 h3 h4 hS H
  obtain ⟨xk, xn, xv, xa, xc, xs, xf, xe⟩ := x
  simp only at *
  generalize xs.length = xl at *
  go_enter Tryz.func46, Tryz.ntmps46
  go_wp2_with fail
  refine (g1.out _).mono ?_
  rintro e w' ⟨rfl, rfl⟩
  go_wp2_with fail
  refine (g2.out _).mono ?_
  rintro e w' ⟨rfl, rfl⟩
  go_wp2_with fail
  refine (g3.out _).mono ?_
  rintro e w' ⟨rfl, rfl⟩
  go_wp2_with fail
  refine (g4.out _).mono ?_
  rintro e w' ⟨rfl, rfl⟩
  go_wp2_with fail
  refine (HW.out _).mono ?_
  rintro e w' ⟨rfl, hE⟩
  have HE : Hid (PoS w0 b nd T W w') := hE
  clear hE
  go_wp2
  go_end0
  exact ⟨rfl, HE.out⟩
set_option maxRecDepth 100000 in
set_option maxHeartbeats 4000000 in
theorem node_expr (w0 : World) (b : Nat) (nd : Value) (x : Nd) (t T : List UInt8) (W : World) (hS : St w0 b nd t W) (h1 : hasB 140667696185344 x.k = true) (H : ∀ W', St w0 b nd t W' → Calls Tryz.prog 69 #[.pointer (some ⟨b, 0, none⟩), nda x] W' fun e w' => e = .returned (.tuple #[]) ∧ PoS w0 b nd T W' w') : Calls Tryz.prog 46 #[.pointer (some ⟨b, 0, none⟩), nda x] W fun e w' => e = .returned (.tuple #[]) ∧ PoS w0 b nd T W w' := by
  have g1 : Hid (∀ W, Calls Tryz.prog 37 #[.int .u64 140667696185344, .int .i64 x.k] W fun e w' => e = .returned (.bool true) ∧ w' = W) := fun W => by have t := has37 140667696185344 x.k W (by decide); rw [h1] at t; exact t
  unfold nda at *
  have HW : Hid (∀ o, Calls Tryz.prog 69 #[.pointer (some ⟨b, 0, none⟩), .agg #[.int .i64 x.k, .string x.nm, .int .i64 x.v, .slice x.ka x.ks.length x.kc, .int .i64 x.fr, .int .i64 x.en]] (W.alloc o) fun e w' => e = .returned (.tuple #[]) ∧ PoS w0 b nd T W w') := fun o => (H _ (hS.alloc o)).mono fun e w' ⟨a1, a2⟩ => ⟨a1, a2.of_alloc⟩
  clear h1 hS H
  obtain ⟨xk, xn, xv, xa, xc, xs, xf, xe⟩ := x
  simp only at *
  generalize xs.length = xl at *
  go_enter Tryz.func46, Tryz.ntmps46
  go_wp2_with fail
  refine (g1.out _).mono ?_
  rintro e w' ⟨rfl, rfl⟩
  go_wp2_with fail
  refine (HW.out _).mono ?_
  rintro e w' ⟨rfl, hE⟩
  have HE : Hid (PoS w0 b nd T W w') := hE
  clear hE
  go_wp2
  go_end0
  exact ⟨rfl, HE.out⟩
end Go.Proofs.YtkkmeogehapjoaaGreatDoor
