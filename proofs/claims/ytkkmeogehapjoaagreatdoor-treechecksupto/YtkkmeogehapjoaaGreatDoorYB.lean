/- A node put: where its kind is an item's, or an expression's. A crate, a block put. -/
import Derived.Test.YtkkmeogehapjoaaGreatDoorY5
namespace Go.Proofs.YtkkmeogehapjoaaGreatDoor
section
open Go.RowKit Go.Shelf
/-- A list of parts in memory, put. -/
theorem put_at {w0 : World} {b : Nat} {nd : Value} {l : List Nd} {nt : Nat → Tks} {K : Nat} (hP : Puts w0 b nd l nt K 3) (ps : List Pt) (h1 : 0 < ps.length ∧ ps.length ≤ 100) (h2 : ∀ p ∈ ps, p.rk < 3 ∧ p.ok w0 K) (n : Nat) (hn : n = ps.length) (vs : Array Value) (hvs : vs = (ps.map Pt.v).toArray) (t : List UInt8) (W : World) (hS : St w0 b nd t W) (hlen : (run t (psT nt l ps)).length ≤ 140737488355328) : Calls Tryz.prog 26 #[.pointer (some ⟨b, 0, none⟩), .slice (some ⟨W.heap.size, 0, none⟩) n n] (W.alloc (.cells vs 20)) fun e w' => e = .returned (.tuple #[]) ∧ PoS w0 b nd (run t (psT nt l ps)) W w' := by
  subst hvs
  exact (hP ps h1 h2 t (W.alloc (.cells (ps.map Pt.v).toArray 20)) W.heap.size n hn (hS.alloc _) (Go.heap_alloc_new W _) hlen).mono fun e w' ⟨h1, h2⟩ => ⟨h1, h2.of_alloc⟩
def nda (x : Nd) : Value := .agg #[.int .i64 x.k, .string x.nm, .int .i64 x.v, .slice x.ka x.ks.length x.kc, .int .i64 x.fr, .int .i64 x.en]
set_option maxRecDepth 100000 in
set_option maxHeartbeats 4000000 in
theorem node_item (w0 : World) (b : Nat) (nd : Value) (x : Nd) (t T : List UInt8) (W : World) (hS : St w0 b nd t W) (h1 : hasB 140667696185344 x.k = false) (h2 : hasB 266338304 x.k = false) (h3 : hasB 130048 x.k = false) (h4 : hasB 34902897112121344 x.k = false) (H : ∀ W', St w0 b nd t W' → Calls Tryz.prog 73 #[.pointer (some ⟨b, 0, none⟩), nda x] W' fun e w' => e = .returned (.tuple #[]) ∧ PoS w0 b nd T W' w') : Calls Tryz.prog 46 #[.pointer (some ⟨b, 0, none⟩), nda x] W fun e w' => e = .returned (.tuple #[]) ∧ PoS w0 b nd T W w' := by
  have g1 : Hid (∀ W, Calls Tryz.prog 37 #[.int .u64 140667696185344, .int .i64 x.k] W fun e w' => e = .returned (.bool false) ∧ w' = W) := fun W => by have t := has37 140667696185344 x.k W (by decide); rw [h1] at t; exact t
  have g2 : Hid (∀ W, Calls Tryz.prog 37 #[.int .u64 266338304, .int .i64 x.k] W fun e w' => e = .returned (.bool false) ∧ w' = W) := fun W => by have t := has37 266338304 x.k W (by decide); rw [h2] at t; exact t
  have g3 : Hid (∀ W, Calls Tryz.prog 37 #[.int .u64 130048, .int .i64 x.k] W fun e w' => e = .returned (.bool false) ∧ w' = W) := fun W => by have t := has37 130048 x.k W (by decide); rw [h3] at t; exact t
  have g4 : Hid (∀ W, Calls Tryz.prog 37 #[.int .u64 34902897112121344, .int .i64 x.k] W fun e w' => e = .returned (.bool false) ∧ w' = W) := fun W => by have t := has37 34902897112121344 x.k W (by decide); rw [h4] at t; exact t
  unfold nda at *
  have HW : Hid (∀ o, Calls Tryz.prog 73 #[.pointer (some ⟨b, 0, none⟩), .agg #[.int .i64 x.k, .string x.nm, .int .i64 x.v, .slice x.ka x.ks.length x.kc, .int .i64 x.fr, .int .i64 x.en]] (W.alloc o) fun e w' => e = .returned (.tuple #[]) ∧ PoS w0 b nd T W w') := fun o => (H _ (hS.alloc o)).mono fun e w' ⟨a1, a2⟩ => ⟨a1, a2.of_alloc⟩
  clear h1 h2 h3 h4 hS H
  obtain ⟨xk, xn, xv, xa, xc, xs, xf, xe⟩ := x
  simp only at *
  generalize xs.length = xl at *
  go_enter Tryz.func46, Tryz.ntmps46
  go_wp2_with fail
  refine (g1.out _).mono ?_
  rintro e w' ⟨rfl, rfl⟩
  go_wp2_with fail
  refine (g2.out _).mono ?_
  rintro e w' ⟨rfl, rfl⟩
  go_wp2_with fail
  refine (g3.out _).mono ?_
  rintro e w' ⟨rfl, rfl⟩
  go_wp2_with fail
  refine (g4.out _).mono ?_
  rintro e w' ⟨rfl, rfl⟩
  go_wp2_with fail
  refine (HW.out _).mono ?_
  rintro e w' ⟨rfl, hE⟩
  have HE : Hid (PoS w0 b nd T W w') := hE
  clear hE
  go_wp2
  go_end0
  exact ⟨rfl, HE.out⟩
set_option maxRecDepth 100000 in
set_option maxHeartbeats 4000000 in
theorem node_expr (w0 : World) (b : Nat) (nd : Value) (x : Nd) (t T : List UInt8) (W : World) (hS : St w0 b nd t W) (h1 : hasB 140667696185344 x.k = true) (H : ∀ W', St w0 b nd t W' → Calls Tryz.prog 69 #[.pointer (some ⟨b, 0, none⟩), nda x] W' fun e w' => e = .returned (.tuple #[]) ∧ PoS w0 b nd T W' w') : Calls Tryz.prog 46 #[.pointer (some ⟨b, 0, none⟩), nda x] W fun e w' => e = .returned (.tuple #[]) ∧ PoS w0 b nd T W w' := by
  have g1 : Hid (∀ W, Calls Tryz.prog 37 #[.int .u64 140667696185344, .int .i64 x.k] W fun e w' => e = .returned (.bool true) ∧ w' = W) := fun W => by have t := has37 140667696185344 x.k W (by decide); rw [h1] at t; exact t
  unfold nda at *
  have HW : Hid (∀ o, Calls Tryz.prog 69 #[.pointer (some ⟨b, 0, none⟩), .agg #[.int .i64 x.k, .string x.nm, .int .i64 x.v, .slice x.ka x.ks.length x.kc, .int .i64 x.fr, .int .i64 x.en]] (W.alloc o) fun e w' => e = .returned (.tuple #[]) ∧ PoS w0 b nd T W w') := fun o => (H _ (hS.alloc o)).mono fun e w' ⟨a1, a2⟩ => ⟨a1, a2.of_alloc⟩
  clear h1 hS H
  obtain ⟨xk, xn, xv, xa, xc, xs, xf, xe⟩ := x
  simp only at *
  generalize xs.length = xl at *
  go_enter Tryz.func46, Tryz.ntmps46
  go_wp2_with fail
  refine (g1.out _).mono ?_
  rintro e w' ⟨rfl, rfl⟩
  go_wp2_with fail
  refine (HW.out _).mono ?_
  rintro e w' ⟨rfl, hE⟩
  have HE : Hid (PoS w0 b nd T W w') := hE
  clear hE
  go_wp2
  go_end0
  exact ⟨rfl, HE.out⟩
end
section
open Go.RowKit Go.Shelf
set_option maxRecDepth 100000 in
set_option maxHeartbeats 4000000 in
theorem item_1 (w0 : World) (b : Nat) (nd : Value) (l : List Nd) (nt : Nat → Tks) (K : Nat) (hP : Puts w0 b nd l nt K 3) (x : Nd) (hk : x.k = 1) (hks : IsA w0 x.ka x.kc x.ks) (hin : ∀ y ∈ x.ks, 0 ≤ y ∧ y < K) (t : List UInt8) (W : World) (hS : St w0 b nd t W) (hlen : (run t (psT nt l [.ea x.ka x.kc x.ks])).length ≤ 140737488355328) : Calls Tryz.prog 73 #[.pointer (some ⟨b, 0, none⟩), nda x] W fun e w' => e = .returned (.tuple #[]) ∧ PoS w0 b nd (run t (psT nt l [.ea x.ka x.kc x.ks])) W w' := by
  have HC : Hid (∀ W g, g = W.heap.size → St w0 b nd t W → Calls Tryz.prog 26 #[.pointer (some ⟨b, 0, none⟩), .slice (some ⟨g, 0, none⟩) 1 1] (W.alloc (.cells #[.iface 87 (.slice x.ka x.ks.length x.kc)] 20)) fun e w' => e = .returned (.tuple #[]) ∧ PoS w0 b nd (run t (psT nt l [.ea x.ka x.kc x.ks])) W w') := fun W g hg hW => by
    subst hg
    exact put_at hP [.ea x.ka x.kc x.ks] (by simp) (fun p hp => by simp at hp; subst hp; exact ⟨by simp [Pt.rk], hks, hin⟩) 1 rfl _ rfl t W hW hlen
  have hk1 := hks.1
  have hk2 := hks.2.1
  have HS : Hid (St w0 b nd t W) := hS
  clear hP hks hin hlen hS
  generalize run t (psT nt l [.ea x.ka x.kc x.ks]) = T at *
  unfold nda
  obtain ⟨xk, xn, xv, xa, xc, xs, xf, xe⟩ := x
  simp only at *
  subst hk
  generalize xs.length = xl at *
  go_enter Tryz.func73, Tryz.ntmps73
  go_wp2_with fail
  refine (HC.out (W.alloc _) _ (by simp) (HS.out.alloc _)).mono ?_
  rintro e w' ⟨rfl, hE⟩
  have HE : Hid (PoS w0 b nd T W w') := hE.of_alloc
  clear hE
  go_wp2
  go_end0
  exact ⟨rfl, HE.out⟩
set_option maxRecDepth 100000 in
set_option maxHeartbeats 4000000 in
theorem expr_20 (w0 : World) (b : Nat) (nd : Value) (l : List Nd) (nt : Nat → Tks) (K : Nat) (hP : Puts w0 b nd l nt K 3) (x : Nd) (hk : x.k = 20) (hks : IsA w0 x.ka x.kc x.ks) (hin : ∀ y ∈ x.ks, 0 ≤ y ∧ y < K) (t : List UInt8) (W : World) (hS : St w0 b nd t W) (hlen : (run t (psT nt l [.s ⟨#[123]⟩, .ea x.ka x.kc x.ks, .s ⟨#[125]⟩])).length ≤ 140737488355328) : Calls Tryz.prog 69 #[.pointer (some ⟨b, 0, none⟩), nda x] W fun e w' => e = .returned (.tuple #[]) ∧ PoS w0 b nd (run t (psT nt l [.s ⟨#[123]⟩, .ea x.ka x.kc x.ks, .s ⟨#[125]⟩])) W w' := by
  have HC : Hid (∀ W g, g = W.heap.size → St w0 b nd t W → Calls Tryz.prog 26 #[.pointer (some ⟨b, 0, none⟩), .slice (some ⟨g, 0, none⟩) 3 3] (W.alloc (.cells #[.iface 9 (.string ⟨#[123]⟩), .iface 87 (.slice x.ka x.ks.length x.kc), .iface 9 (.string ⟨#[125]⟩)] 20)) fun e w' => e = .returned (.tuple #[]) ∧ PoS w0 b nd (run t (psT nt l [.s ⟨#[123]⟩, .ea x.ka x.kc x.ks, .s ⟨#[125]⟩])) W w') := fun W g hg hW => by
    subst hg
    exact put_at hP [.s ⟨#[123]⟩, .ea x.ka x.kc x.ks, .s ⟨#[125]⟩] (by simp) (fun p hp => by simp at hp; rcases hp with rfl | rfl | rfl <;> first | exact ⟨by simp [Pt.rk], hks, hin⟩ | exact ⟨by simp [Pt.rk], trivial⟩) 3 rfl _ rfl t W hW hlen
  have hk1 := hks.1
  have hk2 := hks.2.1
  have HS : Hid (St w0 b nd t W) := hS
  clear hP hks hin hlen hS
  generalize run t (psT nt l [.s ⟨#[123]⟩, .ea x.ka x.kc x.ks, .s ⟨#[125]⟩]) = T at *
  unfold nda
  obtain ⟨xk, xn, xv, xa, xc, xs, xf, xe⟩ := x
  simp only at *
  subst hk
  generalize xs.length = xl at *
  go_enter Tryz.func69, Tryz.ntmps69
  go_wp2_with fail
  refine (HC.out (W.alloc _) _ (by simp) (HS.out.alloc _)).mono ?_
  rintro e w' ⟨rfl, hE⟩
  have HE : Hid (PoS w0 b nd T W w') := hE.of_alloc
  clear hE
  go_wp2
  go_end0
  exact ⟨rfl, HE.out⟩
end
end Go.Proofs.YtkkmeogehapjoaaGreatDoor
