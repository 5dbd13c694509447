/- The little tree's nodes put. -/
import Derived.Test.YtkkmeogehapjoaaGreatDoorY11
namespace Go.Proofs.YtkkmeogehapjoaaGreatDoor
open Go.RowKit Go.Shelf
theorem lit_len (a2 a3 : Nat) : (lit a2 a3).length = 4 := rfl
theorem lit_0 (w0 : World) (b : Nat) (ao : Option Addr) (c a2 a3 : Nat) (hl : NdA w0 ao c (lit a2 a3)) : NodeC w0 b (.slice ao (lit a2 a3).length c) (lit a2 a3) ntl 0 := by
  intro x t W hx hS hlen
  obtain rfl : lx0 = x := Option.some.inj hx
  have hP := puts_all w0 b ao c (lit a2 a3) ntl 0 hl (Nat.zero_le _) (fun k hk => absurd hk (Nat.not_lt_zero _))
  exact node_type w0 b _ lx0 t (run t (ntl 0)) W hS (by kernel_rfl) (by kernel_rfl) (by kernel_rfl) fun W' hW => type_12 w0 b _ (lit a2 a3) ntl 0 hP lx0 rfl (Nat.le_refl _) (by decide) t W' hW hlen
theorem lit_1 (w0 : World) (b : Nat) (ao : Option Addr) (c a2 a3 : Nat) (hl : NdA w0 ao c (lit a2 a3)) : NodeC w0 b (.slice ao (lit a2 a3).length c) (lit a2 a3) ntl 1 := by
  intro x t W hx hS hlen
  obtain rfl : lx1 = x := Option.some.inj hx
  have hP := puts_all w0 b ao c (lit a2 a3) ntl 1 hl (by rw [lit_len]; decide) (fun k hk => by
    obtain rfl : k = 0 := by omega
    exact lit_0 w0 b ao c a2 a3 hl)
  exact node_expr w0 b _ lx1 t (run t (ntl 1)) W hS (by kernel_rfl) fun W' hW => expr_20 w0 b _ (lit a2 a3) ntl 1 hP lx1 rfl (hl.2.2.1 lx1 (by simp [lit])).ks (fun y hy => by cases hy) t W' hW hlen
theorem lit_2 (w0 : World) (b : Nat) (ao : Option Addr) (c a2 a3 : Nat) (hl : NdA w0 ao c (lit a2 a3)) : NodeC w0 b (.slice ao (lit a2 a3).length c) (lit a2 a3) ntl 2 := by
  intro x t W hx hS hlen
  obtain rfl : lx2 a2 = x := Option.some.inj hx
  have hP := puts_all w0 b ao c (lit a2 a3) ntl 2 hl (by rw [lit_len]; decide) (fun k hk => by
    obtain rfl | rfl : k = 0 ∨ k = 1 := by omega
    · exact lit_0 w0 b ao c a2 a3 hl
    · exact lit_1 w0 b ao c a2 a3 hl)
  have e : fnT (lit a2 a3) ntl (lx2 a2) 0 1 = ntl 2 := by kernel_rfl
  refine node_item w0 b _ (lx2 a2) t (run t (ntl 2)) W hS (by kernel_rfl) (by kernel_rfl) (by kernel_rfl) (by kernel_rfl) fun W' hW => ?_
  rw [← e] at hlen ⊢
  exact item_2 w0 b ao c (lit a2 a3) ntl 2 hl (by rw [lit_len]; decide) hP (lx2 a2) rfl (hl.2.2.1 (lx2 a2) (by simp [lit])).ks (fun y hy => by simp [lx2] at hy; omega) 0 1 (Nat.le_refl _) rfl rfl t W' hW hlen
theorem lit_3 (w0 : World) (b : Nat) (ao : Option Addr) (c a2 a3 : Nat) (hl : NdA w0 ao c (lit a2 a3)) : NodeC w0 b (.slice ao (lit a2 a3).length c) (lit a2 a3) ntl 3 := by
  intro x t W hx hS hlen
  obtain rfl : lx3 a3 = x := Option.some.inj hx
  have hP := puts_all w0 b ao c (lit a2 a3) ntl 3 hl (by rw [lit_len]; decide) (fun k hk => by
    obtain rfl | rfl | rfl : k = 0 ∨ k = 1 ∨ k = 2 := by omega
    · exact lit_0 w0 b ao c a2 a3 hl
    · exact lit_1 w0 b ao c a2 a3 hl
    · exact lit_2 w0 b ao c a2 a3 hl)
  have e : psT ntl (lit a2 a3) [.ea (lx3 a3).ka (lx3 a3).kc (lx3 a3).ks] = ntl 3 := by kernel_rfl
  refine node_item w0 b _ (lx3 a3) t (run t (ntl 3)) W hS (by kernel_rfl) (by kernel_rfl) (by kernel_rfl) (by kernel_rfl) fun W' hW => ?_
  rw [← e] at hlen ⊢
  exact item_1 w0 b _ (lit a2 a3) ntl 3 hP (lx3 a3) rfl (hl.2.2.1 (lx3 a3) (by simp [lit])).ks (fun y hy => by simp [lx3] at hy; omega) t W' hW hlen
theorem lit_print (ao : Option Addr) (c a2 a3 : Nat) (w : World) (hT : Tm w) (hl : NdA w ao c (lit a2 a3)) : Calls Tryz.prog 9 #[.agg #[.slice ao 4 c]] w fun e w' => e = .returned (.tuple #[.string ⟨#[102, 110, 32, 109, 97, 105, 110, 32, 40, 32, 41, 32, 123, 32, 125]⟩, .int .i64 0]) ∧ Below w.heap.size w w' :=
  print_right (lit a2 a3) ao c w hT hl (lit_right a2 a3) (by rw [lit_len]; decide) ntl (fun w0 b h k hk => by
    rw [lit_len] at hk
    obtain rfl | rfl | rfl | rfl : k = 0 ∨ k = 1 ∨ k = 2 ∨ k = 3 := by omega
    · exact lit_0 w0 b ao c a2 a3 h
    · exact lit_1 w0 b ao c a2 a3 h
    · exact lit_2 w0 b ao c a2 a3 h
    · exact lit_3 w0 b ao c a2 a3 h) _ lit_text (by simp) (by decide)
theorem lit_depth (ao : Option Addr) (c a2 a3 : Nat) (w : World) (hT : Tm w) (hl : NdA w ao c (lit a2 a3)) : Calls Tryz.prog 23 #[.agg #[.slice ao 4 c]] w fun e w' => e = .returned (.tuple #[.int .i64 2, .int .i64 0]) ∧ Below w.heap.size w w' := by
  have t := depth_right (lit a2 a3) ao c w hT hl (lit_right a2 a3) _ (lit_par a2 a3)
  rw [lit_deep] at t
  exact t
theorem nil_check (w : World) (hT : Tm w) : Calls Tryz.prog 11 #[.agg #[.slice none 0 0]] w fun e w' => e = .returned (.int .i64 3) ∧ Below w.heap.size w w' := by
  have t := check11 [] none 0 w hT ⟨Nat.le_refl _, by decide, (fun x hx => by simp at hx), fun h => absurd h (Nat.lt_irrefl _)⟩
  rw [show rightB [] = false by kernel_rfl, if_neg (by simp)] at t
  exact t
end Go.Proofs.YtkkmeogehapjoaaGreatDoor
