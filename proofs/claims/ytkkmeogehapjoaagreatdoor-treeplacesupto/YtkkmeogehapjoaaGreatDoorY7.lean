/- A crate, a block put. -/
import Derived.Test.YtkkmeogehapjoaaGreatDoorY6
namespace Go.Proofs.YtkkmeogehapjoaaGreatDoor
open Go.RowKit Go.Shelf
set_option maxRecDepth 100000 in
set_option maxHeartbeats 4000000 in
theorem item_1 (w0 : World) (b : Nat) (nd : Value) (l : List Nd) (nt : Nat → Tks) (K : Nat) (hP : Puts w0 b nd l nt K 3) (x : Nd) (hk : x.k = 1) (hks : IsA w0 x.ka x.kc x.ks) (hin : ∀ y ∈ x.ks, 0 ≤ y ∧ y < K) (t : List UInt8) (W : World) (hS : St w0 b nd t W) (hlen : (run t (psT nt l [.ea x.ka x.kc x.ks])).length ≤ 140737488355328) : Calls Tryz.prog 73 #[.pointer (some ⟨b, 0, none⟩), nda x] W fun e w' => e = .returned (.tuple #[]) ∧ PoS w0 b nd (run t (psT nt l [.ea x.ka x.kc x.ks])) W w' := by
  have HC : Hid (∀ W g, g = W.heap.size → St w0 b nd t W → Calls Tryz.prog 26 #[.pointer (some ⟨b, 0, none⟩), .slice (some ⟨g, 0, none⟩) 1 1] (W.alloc (.cells #[.iface 87 (.slice x.ka x.ks.length x.kc)] 20)) fun e w' => e = .returned (.tuple #[]) ∧ PoS w0 b nd (run t (psT nt l [.ea x.ka x.kc x.ks])) W w') := fun W g hg hW => by
    subst hg
    exact put_at hP [.ea x.ka x.kc x.ks] (by simp) (fun p hp => by simp at hp; subst hp; exact ⟨by simp [Pt.rk], hks, hin⟩) 1 rfl _ rfl t W hW hlen
  have hk1 := hks.1
  have hk2 := hks.2.1
  have HS : Hid (St w0 b nd t W) := hS
  clear hP hks hin hlen hS
  generalize run t (psT nt l [.ea x.ka x.kc x.ks]) = T at *
  unfold nda
  obtain ⟨xk, xn, xv, xa, xc, xs, xf, xe⟩ := x
  simp only at *
  subst hk
  generalize xs.length = xl at *
  go_enter Tryz.func73, Tryz.ntmps73
  go_wp2_with fail
  refine (HC.out (W.alloc _) _ (by simp) (HS.out.alloc _)).mono ?_
  rintro e w' ⟨rfl, hE⟩
  have HE : Hid (PoS w0 b nd T W w') := hE.of_alloc
  clear hE
  go_wp2
  go_end0
  exact ⟨rfl, HE.out⟩
set_option maxRecDepth 100000 in
set_option maxHeartbeats 4000000 in
theorem expr_20 (w0 : World) (b : Nat) (nd : Value) (l : List Nd) (nt : Nat → Tks) (K : Nat) (hP : Puts w0 b nd l nt K 3) (x : Nd) (hk : x.k = 20) (hks : IsA w0 x.ka x.kc x.ks) (hin : ∀ y ∈ x.ks, 0 ≤ y ∧ y < K) (t : List UInt8) (W : World) (hS : St w0 b nd t W) (hlen : (run t (psT nt l [.s ⟨#[123]⟩, .ea x.ka x.kc x.ks, .s ⟨#[125]⟩])).length ≤ 140737488355328) : Calls Tryz.prog 69 #[.pointer (some ⟨b, 0, none⟩), nda x] W fun e w' => e = .returned (.tuple #[]) ∧ PoS w0 b nd (run t (psT nt l [.s ⟨#[123]⟩, .ea x.ka x.kc x.ks, .s ⟨#[125]⟩])) W w' := by
  have HC : Hid (∀ W g, g = W.heap.size → St w0 b nd t W → Calls Tryz.prog 26 #[.pointer (some ⟨b, 0, none⟩), .slice (some ⟨g, 0, none⟩) 3 3] (W.alloc (.cells #[.iface 9 (.string ⟨#[123]⟩), .iface 87 (.slice x.ka x.ks.length x.kc), .iface 9 (.string ⟨#[125]⟩)] 20)) fun e w' => e = .returned (.tuple #[]) ∧ PoS w0 b nd (run t (psT nt l [.s ⟨#[123]⟩, .ea x.ka x.kc x.ks, .s ⟨#[125]⟩])) W w') := fun W g hg hW => by
    subst hg
    exact put_at hP [.s ⟨#[123]⟩, .ea x.ka x.kc x.ks, .s ⟨#[125]⟩] (by simp) (fun p hp => by simp at hp; rcases hp with rfl | rfl | rfl <;> first | exact ⟨by simp [Pt.rk], hks, hin⟩ | exact ⟨by simp [Pt.rk], trivial⟩) 3 rfl _ rfl t W hW hlen
  have hk1 := hks.1
  have hk2 := hks.2.1
  have HS : Hid (St w0 b nd t W) := hS
  clear hP hks hin hlen hS
  generalize run t (psT nt l [.s ⟨#[123]⟩, .ea x.ka x.kc x.ks, .s ⟨#[125]⟩]) = T at *
  unfold nda
  obtain ⟨xk, xn, xv, xa, xc, xs, xf, xe⟩ := x
  simp only at *
  subst hk
  generalize xs.length = xl at *
  go_enter Tryz.func69, Tryz.ntmps69
  go_wp2_with fail
  refine (HC.out (W.alloc _) _ (by simp) (HS.out.alloc _)).mono ?_
  rintro e w' ⟨rfl, hE⟩
  have HE : Hid (PoS w0 b nd T W w') := hE.of_alloc
  clear hE
  go_wp2
  go_end0
  exact ⟨rfl, HE.out⟩
end Go.Proofs.YtkkmeogehapjoaaGreatDoor
