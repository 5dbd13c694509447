/- The unit's type put; the little tree. -/
import Derived.Test.YtkkmeogehapjoaaGreatDoorY10
namespace Go.Proofs.YtkkmeogehapjoaaGreatDoor
open Go.RowKit Go.Shelf
set_option maxRecDepth 100000 in
set_option maxHeartbeats 4000000 in
theorem node_type (w0 : World) (b : Nat) (nd : Value) (x : Nd) (t T : List UInt8) (W : World) (hS : St w0 b nd t W) (h1 : hasB 140667696185344 x.k = false) (h2 : hasB 266338304 x.k = false) (h3 : hasB 130048 x.k = true) (H : ∀ W', St w0 b nd t W' → Calls Tryz.prog 71 #[.pointer (some ⟨b, 0, none⟩), nda x] W' fun e w' => e = .returned (.tuple #[]) ∧ PoS w0 b nd T W' w') : Calls Tryz.prog 46 #[.pointer (some ⟨b, 0, none⟩), nda x] W fun e w' => e = .returned (.tuple #[]) ∧ PoS w0 b nd T W w' := by
  have g1 : Hid (∀ W, Calls Tryz.prog 37 #[.int .u64 140667696185344, .int .i64 x.k] W fun e w' => e = .returned (.bool false) ∧ w' = W) := fun W => by have t := has37 140667696185344 x.k W (by decide); rw [h1] at t; exact t
  have g2 : Hid (∀ W, Calls Tryz.prog 37 #[.int .u64 266338304, .int .i64 x.k] W fun e w' => e = .returned (.bool false) ∧ w' = W) := fun W => by have t := has37 266338304 x.k W (by decide); rw [h2] at t; exact t
  have g3 : Hid (∀ W, Calls Tryz.prog 37 #[.int .u64 130048, .int .i64 x.k] W fun e w' => e = .returned (.bool true) ∧ w' = W) := fun W => by have t := has37 130048 x.k W (by decide); rw [h3] at t; exact t
  unfold nda at *
  have HW : Hid (∀ o, Calls Tryz.prog 71 #[.pointer (some ⟨b, 0, none⟩), .agg #[.int .i64 x.k, .string x.nm, .int .i64 x.v, .slice x.ka x.ks.length x.kc, .int .i64 x.fr, .int .i64 x.en]] (W.alloc o) fun e w' => e = .returned (.tuple #[]) ∧ PoS w0 b nd T W w') := fun o => (H _ (hS.alloc o)).mono fun e w' ⟨a1, a2⟩ => ⟨a1, a2.of_alloc⟩
  clear h1 h2 h3 hS H
  obtain ⟨xk, xn, xv, xa, xc, xs, xf, xe⟩ := x
  simp only at *
  generalize xs.length = xl at *
  go_enter Tryz.func46, Tryz.ntmps46
  go_wp2_with fail
  refine (g1.out _).mono ?_
  rintro e w' ⟨rfl, rfl⟩
  go_wp2_with fail
  refine (g2.out _).mono ?_
  rintro e w' ⟨rfl, rfl⟩
  go_wp2_with fail
  refine (g3.out _).mono ?_
  rintro e w' ⟨rfl, rfl⟩
  go_wp2_with fail
  refine (HW.out _).mono ?_
  rintro e w' ⟨rfl, hE⟩
  have HE : Hid (PoS w0 b nd T W w') := hE
  clear hE
  go_wp2
  go_end0
  exact ⟨rfl, HE.out⟩
set_option maxRecDepth 100000 in
set_option maxHeartbeats 4000000 in
theorem type_12 (w0 : World) (b : Nat) (nd : Value) (l : List Nd) (nt : Nat → Tks) (K : Nat) (hP : Puts w0 b nd l nt K 3) (x : Nd) (hk : x.k = 12) (hx1 : x.ks.length ≤ x.kc) (hx2 : x.kc ≤ 9223372036854775807) (t : List UInt8) (W : World) (hS : St w0 b nd t W) (hlen : (run t (psT nt l [.s ⟨#[40]⟩, .s ⟨#[41]⟩])).length ≤ 140737488355328) : Calls Tryz.prog 71 #[.pointer (some ⟨b, 0, none⟩), nda x] W fun e w' => e = .returned (.tuple #[]) ∧ PoS w0 b nd (run t (psT nt l [.s ⟨#[40]⟩, .s ⟨#[41]⟩])) W w' := by
  have HC : Hid (∀ W g, g = W.heap.size → St w0 b nd t W → Calls Tryz.prog 26 #[.pointer (some ⟨b, 0, none⟩), .slice (some ⟨g, 0, none⟩) 2 2] (W.alloc (.cells #[.iface 9 (.string ⟨#[40]⟩), .iface 9 (.string ⟨#[41]⟩)] 20)) fun e w' => e = .returned (.tuple #[]) ∧ PoS w0 b nd (run t (psT nt l [.s ⟨#[40]⟩, .s ⟨#[41]⟩])) W w') := fun W g hg hW => by
    subst hg
    exact put_at hP [.s ⟨#[40]⟩, .s ⟨#[41]⟩] (by simp) (fun p hp => by simp at hp; rcases hp with rfl | rfl <;> exact ⟨by simp [Pt.rk], trivial⟩) 2 rfl _ rfl t W hW hlen
  have HS : Hid (St w0 b nd t W) := hS
  clear hP hlen hS
  generalize run t (psT nt l [.s ⟨#[40]⟩, .s ⟨#[41]⟩]) = T at *
  unfold nda
  obtain ⟨xk, xn, xv, xa, xc, xs, xf, xe⟩ := x
  simp only at *
  subst hk
  generalize xs.length = xl at *
  go_enter Tryz.func71, Tryz.ntmps71
  go_wp2_with fail
  refine (HC.out (W.alloc _) _ (by simp) (HS.out.alloc _)).mono ?_
  rintro e w' ⟨rfl, hE⟩
  have HE : Hid (PoS w0 b nd T W w') := hE.of_alloc
  clear hE
  go_wp2
  go_end0
  exact ⟨rfl, HE.out⟩
/-- The little tree. -/
def lx0 : Nd := ⟨12, ⟨#[]⟩, 0, none, 0, [], 0, 0⟩
def lx1 : Nd := ⟨20, ⟨#[]⟩, 0, none, 0, [], 0, 0⟩
def lx2 (a : Nat) : Nd := ⟨2, ⟨#[109, 97, 105, 110]⟩, 0, some ⟨a, 0, none⟩, 2, [0, 1], 0, 0⟩
def lx3 (a : Nat) : Nd := ⟨1, ⟨#[]⟩, 0, some ⟨a, 0, none⟩, 1, [2], 0, 0⟩
def lit (a2 a3 : Nat) : List Nd := [lx0, lx1, lx2 a2, lx3 a3]
def ntl : Nat → Tks
  | 0 => [[40], [41]]
  | 1 => [[123], [125]]
  | 2 => [[102, 110], [109, 97, 105, 110], [40], [41], [123], [125]]
  | 3 => [[102, 110], [109, 97, 105, 110], [40], [41], [123], [125]]
  | _ => []
theorem lit_right (a2 a3 : Nat) : rightB (lit a2 a3) = true := by kernel_rfl
theorem lit_par (a2 a3 : Nat) : parR (lit a2 a3) = some [2, 2, 3, -1] := by kernel_rfl
theorem lit_deep : Lib.maxOf (depR [2, 2, 3, -1]) = 2 := by kernel_rfl
theorem lit_text : run [] (ntl 3) = [102, 110, 32, 109, 97, 105, 110, 32, 40, 32, 41, 32, 123, 32, 125] := by kernel_rfl
end Go.Proofs.YtkkmeogehapjoaaGreatDoor
