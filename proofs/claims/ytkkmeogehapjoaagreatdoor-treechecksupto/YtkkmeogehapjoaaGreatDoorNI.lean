/- A node put, whatever its kind. A printer's text as a string, also where it is empty; Print of every tree. -/
import Derived.Test.YtkkmeogehapjoaaGreatDoorN1
import Derived.Test.YtkkmeogehapjoaaGreatDoorN2
import Derived.Test.YtkkmeogehapjoaaGreatDoorN4
import Derived.Test.YtkkmeogehapjoaaGreatDoorN8
import Derived.Test.YtkkmeogehapjoaaGreatDoorYC
import Derived.Test.YtkkmeogehapjoaaGreatDoorNE
namespace Go.Proofs.YtkkmeogehapjoaaGreatDoor
section
open Go.RowKit Go.Shelf
set_option maxRecDepth 100000 in
set_option maxHeartbeats 4000000 in
theorem node_stmt (w0 : World) (b : Nat) (nd : Value) (x : Nd) (t T : List UInt8) (W : World) (hS : St w0 b nd t W) (h1 : hasB 140667696185344 x.k = false) (h2 : hasB 266338304 x.k = true) (H : ∀ W', St w0 b nd t W' → Calls Tryz.prog 70 #[.pointer (some ⟨b, 0, none⟩), nda x] W' fun e w' => e = .returned (.tuple #[]) ∧ PoS w0 b nd T W' w') : Calls Tryz.prog 46 #[.pointer (some ⟨b, 0, none⟩), nda x] W fun e w' => e = .returned (.tuple #[]) ∧ PoS w0 b nd T W w' := by
  have g1 : Hid (∀ W, Calls Tryz.prog 37 #[.int .u64 140667696185344, .int .i64 x.k] W fun e w' => e = .returned (.bool false) ∧ w' = W) := fun W => by have t := has37 140667696185344 x.k W (by decide); rw [h1] at t; exact t
  have g2 : Hid (∀ W, Calls Tryz.prog 37 #[.int .u64 266338304, .int .i64 x.k] W fun e w' => e = .returned (.bool true) ∧ w' = W) := fun W => by have t := has37 266338304 x.k W (by decide); rw [h2] at t; exact t
  unfold nda at *
  have HW : Hid (∀ o, Calls Tryz.prog 70 #[.pointer (some ⟨b, 0, none⟩), .agg #[.int .i64 x.k, .string x.nm, .int .i64 x.v, .slice x.ka x.ks.length x.kc, .int .i64 x.fr, .int .i64 x.en]] (W.alloc o) fun e w' => e = .returned (.tuple #[]) ∧ PoS w0 b nd T W w') := fun o => (H _ (hS.alloc o)).mono fun e w' ⟨a1, a2⟩ => ⟨a1, a2.of_alloc⟩
  clear h1 h2 hS H
  obtain ⟨xk, xn, xv, xa, xc, xs, xf, xe⟩ := x
  simp only at *
  generalize xs.length = xl at *
  go_enter Tryz.func46, Tryz.ntmps46
  go_wp2_with fail
  refine (g1.out _).mono ?_
  rintro e w' ⟨rfl, rfl⟩
  go_wp2_with fail
  refine (g2.out _).mono ?_
  rintro e w' ⟨rfl, rfl⟩
  go_wp2_with fail
  refine (HW.out _).mono ?_
  rintro e w' ⟨rfl, hE⟩
  have HE : Hid (PoS w0 b nd T W w') := hE
  clear hE
  go_wp2
  go_end0
  exact ⟨rfl, HE.out⟩
set_option maxRecDepth 100000 in
set_option maxHeartbeats 4000000 in
theorem node_patt (w0 : World) (b : Nat) (nd : Value) (x : Nd) (t T : List UInt8) (W : World) (hS : St w0 b nd t W) (h1 : hasB 140667696185344 x.k = false) (h2 : hasB 266338304 x.k = false) (h3 : hasB 130048 x.k = false) (h4 : hasB 34902897112121344 x.k = true) (H : ∀ W', St w0 b nd t W' → Calls Tryz.prog 72 #[.pointer (some ⟨b, 0, none⟩), nda x] W' fun e w' => e = .returned (.tuple #[]) ∧ PoS w0 b nd T W' w') : Calls Tryz.prog 46 #[.pointer (some ⟨b, 0, none⟩), nda x] W fun e w' => e = .returned (.tuple #[]) ∧ PoS w0 b nd T W w' := by
  have g1 : Hid (∀ W, Calls Tryz.prog 37 #[.int .u64 140667696185344, .int .i64 x.k] W fun e w' => e = .returned (.bool false) ∧ w' = W) := fun W => by have t := has37 140667696185344 x.k W (by decide); rw [h1] at t; exact t
  have g2 : Hid (∀ W, Calls Tryz.prog 37 #[.int .u64 266338304, .int .i64 x.k] W fun e w' => e = .returned (.bool false) ∧ w' = W) := fun W => by have t := has37 266338304 x.k W (by decide); rw [h2] at t; exact t
  have g3 : Hid (∀ W, Calls Tryz.prog 37 #[.int .u64 130048, .int .i64 x.k] W fun e w' => e = .returned (.bool false) ∧ w' = W) := fun W => by have t := has37 130048 x.k W (by decide); rw [h3] at t; exact t
  have g4 : Hid (∀ W, Calls Tryz.prog 37 #[.int .u64 34902897112121344, .int .i64 x.k] W fun e w' => e = .returned (.bool true) ∧ w' = W) := fun W => by have t := has37 34902897112121344 x.k W (by decide); rw [h4] at t; exact t
  unfold nda at *
  have HW : Hid (∀ o, Calls Tryz.prog 72 #[.pointer (some ⟨b, 0, none⟩), .agg #[.int .i64 x.k, .string x.nm, .int .i64 x.v, .slice x.ka x.ks.length x.kc, .int .i64 x.fr, .int .i64 x.en]] (W.alloc o) fun e w' => e = .returned (.tuple #[]) ∧ PoS w0 b nd T W w') := fun o => (H _ (hS.alloc o)).mono fun e w' ⟨a1, a2⟩ => ⟨a1, a2.of_alloc⟩
  clear h1 h2 h3 h4 hS H
  obtain ⟨xk, xn, xv, xa, xc, xs, xf, xe⟩ := x
  simp only at *
  generalize xs.length = xl at *
  go_enter Tryz.func46, Tryz.ntmps46
  go_wp2_with fail
  refine (g1.out _).mono ?_
  rintro e w' ⟨rfl, rfl⟩
  go_wp2_with fail
  refine (g2.out _).mono ?_
  rintro e w' ⟨rfl, rfl⟩
  go_wp2_with fail
  refine (g3.out _).mono ?_
  rintro e w' ⟨rfl, rfl⟩
  go_wp2_with fail
  refine (g4.out _).mono ?_
  rintro e w' ⟨rfl, rfl⟩
  go_wp2_with fail
  refine (HW.out _).mono ?_
  rintro e w' ⟨rfl, hE⟩
  have HE : Hid (PoS w0 b nd T W w') := hE
  clear hE
  go_wp2
  go_end0
  exact ⟨rfl, HE.out⟩
theorem pr_2 (w0 : World) (b : Nat) (ao : Option Addr) (c : Nat) (l : List Nd) (nt : Nat → Tks) (K : Nat) (hl : NdA w0 ao c l) (hK : K ≤ l.length) (hP : Puts w0 b (.slice ao l.length c) l nt K 3) (x : Nd) (hk : x.k = 2) (hn : NdK w0 K x) : PrF w0 b (.slice ao l.length c) l nt 73 x (prtK l x 2) := by
  intro t W hS hlen
  have h2 : 2 ≤ x.ks.length := by have := hn.ar; rw [hk] at this; simpa [arB] using this
  have hp : ∀ y ∈ x.ks, 0 ≤ y := fun y hy => (hn.hin y hy).1
  have e : psT nt l (prtK l x 2) = fnT l nt x (kidN x (x.ks.length - 2)) (kidN x (x.ks.length - 1)) := by
    unfold fnT
    show psT nt l ([.s ⟨#[102, 110]⟩, .s x.nm, .s ⟨#[40]⟩, .li none 0 (x.ks.take (x.ks.length - 2)), .s ⟨#[41]⟩] ++ ((if kdK l (kidN x (x.ks.length - 2)) = 12 then [] else [.s ⟨#[45, 62]⟩, .n (kidN x (x.ks.length - 2))]) ++ [.n (kidN x (x.ks.length - 1))])) = _
    rw [psT_app, psT_app]
    by_cases hu : kdK l (kidN x (x.ks.length - 2)) = 12
    · rw [if_pos hu, if_pos hu]
      simp [psT, Pt.tk, fnA]
    · rw [if_neg hu, if_neg hu]
      simp [psT, Pt.tk, fnA]
  rw [e] at hlen ⊢
  exact item_2 w0 b ao c l nt K hl hK hP x hk hn.ks hn.hin (kidN x (x.ks.length - 2)) (kidN x (x.ks.length - 1)) h2 (kidN_in hp (by omega)) (kidN_in hp (by omega)) t W hS hlen
theorem kind_in {K n : Nat} (h : arB K n = true) : K ∈ [1, 2, 3, 4, 5, 6, 7, 10, 11, 12, 13, 14, 15, 16, 20, 21, 22, 23, 24, 25, 26, 27, 30, 31, 32, 33, 34, 35, 36, 37, 38, 39, 40, 41, 42, 43, 44, 45, 46, 47, 50, 51, 52, 53, 54] := by
  unfold arB at h
  split at h
  all_goals first | decide | cases h
set_option maxRecDepth 100000 in
set_option maxHeartbeats 4000000 in
/-- What printing a node tells, by its kind. -/
theorem pr_any (w0 : World) (b : Nat) (ao : Option Addr) (c : Nat) (l : List Nd) (nt : Nat → Tks) (K : Nat) (hl : NdA w0 ao c l) (hK : K ≤ l.length) (hP : Puts w0 b (.slice ao l.length c) l nt K 3) (hT : Tm w0) (x : Nd) (hx : x ∈ l) (h0 : 0 ≤ x.k) (hn : NdK w0 K x) (t : List UInt8) (W : World) (hS : St w0 b (.slice ao l.length c) t W) (hlen : (run t (psT nt l (prt l x))).length ≤ 140737488355328) : Calls Tryz.prog 46 #[.pointer (some ⟨b, 0, none⟩), nda x] W fun e w' => e = .returned (.tuple #[]) ∧ PoS w0 b (.slice ao l.length c) (run t (psT nt l (prt l x))) W w' := by
  have ho := hl.2.2.1 x hx
  have e : prt l x = prtK l x x.k.toNat := rfl
  rw [e] at hlen ⊢
  obtain ⟨q, hq⟩ : ∃ q : Nat, x.k = q := ⟨x.k.toNat, (Int.toNat_of_nonneg h0).symm⟩
  have hin := kind_in hn.ar
  rw [hq, Int.toNat_natCast] at hin
  simp only [List.mem_cons, List.not_mem_nil, or_false] at hin
  rcases hin with rfl | rfl | rfl | rfl | rfl | rfl | rfl | rfl | rfl | rfl | rfl | rfl | rfl | rfl | rfl | rfl | rfl | rfl | rfl | rfl | rfl | rfl | rfl | rfl | rfl | rfl | rfl | rfl | rfl | rfl | rfl | rfl | rfl | rfl | rfl | rfl | rfl | rfl | rfl | rfl | rfl | rfl | rfl | rfl | rfl
  · have h : x.k = 1 := hq
    clear hq
    rw [h] at hlen ⊢
    replace hlen : (run t (psT nt l (prtK l x 1))).length ≤ 140737488355328 := hlen
    show Calls Tryz.prog 46 _ _ fun e w' => e = .returned (.tuple #[]) ∧ PoS w0 b (.slice ao l.length c) (run t (psT nt l (prtK l x 1))) W w'
    refine node_item w0 b _ x t _ W hS (by rw [h]; decide) (by rw [h]; decide) (by rw [h]; decide) (by rw [h]; decide) fun W' hW => ?_
    exact pr_1 w0 b _ l nt K hP x h hn t W' hW hlen
  · have h : x.k = 2 := hq
    clear hq
    rw [h] at hlen ⊢
    replace hlen : (run t (psT nt l (prtK l x 2))).length ≤ 140737488355328 := hlen
    show Calls Tryz.prog 46 _ _ fun e w' => e = .returned (.tuple #[]) ∧ PoS w0 b (.slice ao l.length c) (run t (psT nt l (prtK l x 2))) W w'
    refine node_item w0 b _ x t _ W hS (by rw [h]; decide) (by rw [h]; decide) (by rw [h]; decide) (by rw [h]; decide) fun W' hW => ?_
    exact pr_2 w0 b ao c l nt K hl hK hP x h hn t W' hW hlen
  · have h : x.k = 3 := hq
    clear hq
    rw [h] at hlen ⊢
    replace hlen : (run t (psT nt l (prtK l x 3))).length ≤ 140737488355328 := hlen
    show Calls Tryz.prog 46 _ _ fun e w' => e = .returned (.tuple #[]) ∧ PoS w0 b (.slice ao l.length c) (run t (psT nt l (prtK l x 3))) W w'
    refine node_item w0 b _ x t _ W hS (by rw [h]; decide) (by rw [h]; decide) (by rw [h]; decide) (by rw [h]; decide) fun W' hW => ?_
    exact pr_3 w0 b _ l nt K hP x h hn t W' hW hlen
  · have h : x.k = 4 := hq
    clear hq
    rw [h] at hlen ⊢
    replace hlen : (run t (psT nt l (prtK l x 4))).length ≤ 140737488355328 := hlen
    show Calls Tryz.prog 46 _ _ fun e w' => e = .returned (.tuple #[]) ∧ PoS w0 b (.slice ao l.length c) (run t (psT nt l (prtK l x 4))) W w'
    refine node_item w0 b _ x t _ W hS (by rw [h]; decide) (by rw [h]; decide) (by rw [h]; decide) (by rw [h]; decide) fun W' hW => ?_
    exact pr_4 w0 b _ l nt K hP x h hn t W' hW hlen
  · have h : x.k = 5 := hq
    clear hq
    rw [h] at hlen ⊢
    replace hlen : (run t (psT nt l (prtK l x 5))).length ≤ 140737488355328 := hlen
    show Calls Tryz.prog 46 _ _ fun e w' => e = .returned (.tuple #[]) ∧ PoS w0 b (.slice ao l.length c) (run t (psT nt l (prtK l x 5))) W w'
    refine node_item w0 b _ x t _ W hS (by rw [h]; decide) (by rw [h]; decide) (by rw [h]; decide) (by rw [h]; decide) fun W' hW => ?_
    exact pr_5 w0 b _ l nt K hP x h hn t W' hW hlen
  · have h : x.k = 6 := hq
    clear hq
    rw [h] at hlen ⊢
    replace hlen : (run t (psT nt l (prtK l x 6))).length ≤ 140737488355328 := hlen
    show Calls Tryz.prog 46 _ _ fun e w' => e = .returned (.tuple #[]) ∧ PoS w0 b (.slice ao l.length c) (run t (psT nt l (prtK l x 6))) W w'
    refine node_item w0 b _ x t _ W hS (by rw [h]; decide) (by rw [h]; decide) (by rw [h]; decide) (by rw [h]; decide) fun W' hW => ?_
    exact pr_6 w0 b _ l nt K hP x h hn t W' hW hlen
  · have h : x.k = 7 := hq
    clear hq
    rw [h] at hlen ⊢
    replace hlen : (run t (psT nt l (prtK l x 7))).length ≤ 140737488355328 := hlen
    show Calls Tryz.prog 46 _ _ fun e w' => e = .returned (.tuple #[]) ∧ PoS w0 b (.slice ao l.length c) (run t (psT nt l (prtK l x 7))) W w'
    refine node_item w0 b _ x t _ W hS (by rw [h]; decide) (by rw [h]; decide) (by rw [h]; decide) (by rw [h]; decide) fun W' hW => ?_
    exact pr_7 w0 b _ l nt K hP x h hn t W' hW hlen
  · have h : x.k = 10 := hq
    clear hq
    rw [h] at hlen ⊢
    replace hlen : (run t (psT nt l (prtK l x 10))).length ≤ 140737488355328 := hlen
    show Calls Tryz.prog 46 _ _ fun e w' => e = .returned (.tuple #[]) ∧ PoS w0 b (.slice ao l.length c) (run t (psT nt l (prtK l x 10))) W w'
    refine node_type w0 b _ x t _ W hS (by rw [h]; decide) (by rw [h]; decide) (by rw [h]; decide) fun W' hW => ?_
    exact pr_10 w0 b _ l nt K hP x h hn t W' hW hlen
  · have h : x.k = 11 := hq
    clear hq
    rw [h] at hlen ⊢
    replace hlen : (run t (psT nt l (prtK l x 11))).length ≤ 140737488355328 := hlen
    show Calls Tryz.prog 46 _ _ fun e w' => e = .returned (.tuple #[]) ∧ PoS w0 b (.slice ao l.length c) (run t (psT nt l (prtK l x 11))) W w'
    refine node_type w0 b _ x t _ W hS (by rw [h]; decide) (by rw [h]; decide) (by rw [h]; decide) fun W' hW => ?_
    exact pr_11 w0 b _ l nt K hP x h hn t W' hW hlen
  · have h : x.k = 12 := hq
    clear hq
    rw [h] at hlen ⊢
    replace hlen : (run t (psT nt l (prtK l x 12))).length ≤ 140737488355328 := hlen
    show Calls Tryz.prog 46 _ _ fun e w' => e = .returned (.tuple #[]) ∧ PoS w0 b (.slice ao l.length c) (run t (psT nt l (prtK l x 12))) W w'
    refine node_type w0 b _ x t _ W hS (by rw [h]; decide) (by rw [h]; decide) (by rw [h]; decide) fun W' hW => ?_
    exact pr_12 w0 b _ l nt K hP x h hn t W' hW hlen
  · have h : x.k = 13 := hq
    clear hq
    rw [h] at hlen ⊢
    replace hlen : (run t (psT nt l (prtK l x 13))).length ≤ 140737488355328 := hlen
    show Calls Tryz.prog 46 _ _ fun e w' => e = .returned (.tuple #[]) ∧ PoS w0 b (.slice ao l.length c) (run t (psT nt l (prtK l x 13))) W w'
    refine node_type w0 b _ x t _ W hS (by rw [h]; decide) (by rw [h]; decide) (by rw [h]; decide) fun W' hW => ?_
    exact pr_13 w0 b _ l nt K hP x h hn t W' hW hlen
  · have h : x.k = 14 := hq
    clear hq
    rw [h] at hlen ⊢
    replace hlen : (run t (psT nt l (prtK l x 14))).length ≤ 140737488355328 := hlen
    show Calls Tryz.prog 46 _ _ fun e w' => e = .returned (.tuple #[]) ∧ PoS w0 b (.slice ao l.length c) (run t (psT nt l (prtK l x 14))) W w'
    refine node_type w0 b _ x t _ W hS (by rw [h]; decide) (by rw [h]; decide) (by rw [h]; decide) fun W' hW => ?_
    exact pr_14 w0 b _ l nt K hP x h hn t W' hW hlen
  · have h : x.k = 15 := hq
    clear hq
    rw [h] at hlen ⊢
    replace hlen : (run t (psT nt l (prtK l x 15))).length ≤ 140737488355328 := hlen
    show Calls Tryz.prog 46 _ _ fun e w' => e = .returned (.tuple #[]) ∧ PoS w0 b (.slice ao l.length c) (run t (psT nt l (prtK l x 15))) W w'
    refine node_type w0 b _ x t _ W hS (by rw [h]; decide) (by rw [h]; decide) (by rw [h]; decide) fun W' hW => ?_
    exact pr_15 w0 b _ l nt K hP x h hn t W' hW hlen
  · have h : x.k = 16 := hq
    clear hq
    rw [h] at hlen ⊢
    replace hlen : (run t (psT nt l (prtK l x 16))).length ≤ 140737488355328 := hlen
    show Calls Tryz.prog 46 _ _ fun e w' => e = .returned (.tuple #[]) ∧ PoS w0 b (.slice ao l.length c) (run t (psT nt l (prtK l x 16))) W w'
    refine node_type w0 b _ x t _ W hS (by rw [h]; decide) (by rw [h]; decide) (by rw [h]; decide) fun W' hW => ?_
    exact pr_16 w0 b _ l nt K hP x h hn t W' hW hlen
  · have h : x.k = 20 := hq
    clear hq
    rw [h] at hlen ⊢
    replace hlen : (run t (psT nt l (prtK l x 20))).length ≤ 140737488355328 := hlen
    show Calls Tryz.prog 46 _ _ fun e w' => e = .returned (.tuple #[]) ∧ PoS w0 b (.slice ao l.length c) (run t (psT nt l (prtK l x 20))) W w'
    refine node_expr w0 b _ x t _ W hS (by rw [h]; decide) fun W' hW => ?_
    exact pr_20 w0 b _ l nt K hP x h hn t W' hW hlen
  · have h : x.k = 21 := hq
    clear hq
    rw [h] at hlen ⊢
    replace hlen : (run t (psT nt l (prtK l x 21))).length ≤ 140737488355328 := hlen
    show Calls Tryz.prog 46 _ _ fun e w' => e = .returned (.tuple #[]) ∧ PoS w0 b (.slice ao l.length c) (run t (psT nt l (prtK l x 21))) W w'
    refine node_stmt w0 b _ x t _ W hS (by rw [h]; decide) (by rw [h]; decide) fun W' hW => ?_
    exact pr_21 w0 b _ l nt K hP x h hn t W' hW hlen
  · have h : x.k = 22 := hq
    clear hq
    rw [h] at hlen ⊢
    replace hlen : (run t (psT nt l (prtK l x 22))).length ≤ 140737488355328 := hlen
    show Calls Tryz.prog 46 _ _ fun e w' => e = .returned (.tuple #[]) ∧ PoS w0 b (.slice ao l.length c) (run t (psT nt l (prtK l x 22))) W w'
    refine node_stmt w0 b _ x t _ W hS (by rw [h]; decide) (by rw [h]; decide) fun W' hW => ?_
    exact pr_22 w0 b _ l nt K hP x h hn t W' hW hlen
  · have h : x.k = 23 := hq
    clear hq
    rw [h] at hlen ⊢
    replace hlen : (run t (psT nt l (prtK l x 23))).length ≤ 140737488355328 := hlen
    show Calls Tryz.prog 46 _ _ fun e w' => e = .returned (.tuple #[]) ∧ PoS w0 b (.slice ao l.length c) (run t (psT nt l (prtK l x 23))) W w'
    refine node_stmt w0 b _ x t _ W hS (by rw [h]; decide) (by rw [h]; decide) fun W' hW => ?_
    exact pr_23 w0 b _ l nt K hP x h hn t W' hW hlen
  · have h : x.k = 24 := hq
    clear hq
    rw [h] at hlen ⊢
    replace hlen : (run t (psT nt l (prtK l x 24))).length ≤ 140737488355328 := hlen
    show Calls Tryz.prog 46 _ _ fun e w' => e = .returned (.tuple #[]) ∧ PoS w0 b (.slice ao l.length c) (run t (psT nt l (prtK l x 24))) W w'
    refine node_stmt w0 b _ x t _ W hS (by rw [h]; decide) (by rw [h]; decide) fun W' hW => ?_
    exact pr_24 w0 b _ l nt K hP x h hn t W' hW hlen
  · have h : x.k = 25 := hq
    clear hq
    rw [h] at hlen ⊢
    replace hlen : (run t (psT nt l (prtK l x 25))).length ≤ 140737488355328 := hlen
    show Calls Tryz.prog 46 _ _ fun e w' => e = .returned (.tuple #[]) ∧ PoS w0 b (.slice ao l.length c) (run t (psT nt l (prtK l x 25))) W w'
    refine node_stmt w0 b _ x t _ W hS (by rw [h]; decide) (by rw [h]; decide) fun W' hW => ?_
    exact pr_25 w0 b _ l nt K hP x h hn t W' hW hlen
  · have h : x.k = 26 := hq
    clear hq
    rw [h] at hlen ⊢
    replace hlen : (run t (psT nt l (prtK l x 26))).length ≤ 140737488355328 := hlen
    show Calls Tryz.prog 46 _ _ fun e w' => e = .returned (.tuple #[]) ∧ PoS w0 b (.slice ao l.length c) (run t (psT nt l (prtK l x 26))) W w'
    refine node_stmt w0 b _ x t _ W hS (by rw [h]; decide) (by rw [h]; decide) fun W' hW => ?_
    exact pr_26 w0 b _ l nt K hP x h hn t W' hW hlen
  · have h : x.k = 27 := hq
    clear hq
    rw [h] at hlen ⊢
    replace hlen : (run t (psT nt l (prtK l x 27))).length ≤ 140737488355328 := hlen
    show Calls Tryz.prog 46 _ _ fun e w' => e = .returned (.tuple #[]) ∧ PoS w0 b (.slice ao l.length c) (run t (psT nt l (prtK l x 27))) W w'
    refine node_stmt w0 b _ x t _ W hS (by rw [h]; decide) (by rw [h]; decide) fun W' hW => ?_
    exact pr_27 w0 b _ l nt K hP x h hn t W' hW hlen
  · have h : x.k = 30 := hq
    clear hq
    rw [h] at hlen ⊢
    replace hlen : (run t (psT nt l (prtK l x 30))).length ≤ 140737488355328 := hlen
    show Calls Tryz.prog 46 _ _ fun e w' => e = .returned (.tuple #[]) ∧ PoS w0 b (.slice ao l.length c) (run t (psT nt l (prtK l x 30))) W w'
    refine node_expr w0 b _ x t _ W hS (by rw [h]; decide) fun W' hW => ?_
    exact pr_30 w0 b _ l nt K hP x h hn hT ho t W' hW hlen
  · have h : x.k = 31 := hq
    clear hq
    rw [h] at hlen ⊢
    replace hlen : (run t (psT nt l (prtK l x 31))).length ≤ 140737488355328 := hlen
    show Calls Tryz.prog 46 _ _ fun e w' => e = .returned (.tuple #[]) ∧ PoS w0 b (.slice ao l.length c) (run t (psT nt l (prtK l x 31))) W w'
    refine node_expr w0 b _ x t _ W hS (by rw [h]; decide) fun W' hW => ?_
    exact pr_31 w0 b _ l nt K hP x h hn t W' hW hlen
  · have h : x.k = 32 := hq
    clear hq
    rw [h] at hlen ⊢
    replace hlen : (run t (psT nt l (prtK l x 32))).length ≤ 140737488355328 := hlen
    show Calls Tryz.prog 46 _ _ fun e w' => e = .returned (.tuple #[]) ∧ PoS w0 b (.slice ao l.length c) (run t (psT nt l (prtK l x 32))) W w'
    refine node_expr w0 b _ x t _ W hS (by rw [h]; decide) fun W' hW => ?_
    exact pr_32 w0 b _ l nt K hP x h hn t W' hW hlen
  · have h : x.k = 33 := hq
    clear hq
    rw [h] at hlen ⊢
    replace hlen : (run t (psT nt l (prtK l x 33))).length ≤ 140737488355328 := hlen
    show Calls Tryz.prog 46 _ _ fun e w' => e = .returned (.tuple #[]) ∧ PoS w0 b (.slice ao l.length c) (run t (psT nt l (prtK l x 33))) W w'
    refine node_expr w0 b _ x t _ W hS (by rw [h]; decide) fun W' hW => ?_
    exact pr_33 w0 b _ l nt K hP x h hn t W' hW hlen
  · have h : x.k = 34 := hq
    clear hq
    rw [h] at hlen ⊢
    replace hlen : (run t (psT nt l (prtK l x 34))).length ≤ 140737488355328 := hlen
    show Calls Tryz.prog 46 _ _ fun e w' => e = .returned (.tuple #[]) ∧ PoS w0 b (.slice ao l.length c) (run t (psT nt l (prtK l x 34))) W w'
    refine node_expr w0 b _ x t _ W hS (by rw [h]; decide) fun W' hW => ?_
    exact pr_34 w0 b _ l nt K hP x h hn t W' hW hlen
  · have h : x.k = 35 := hq
    clear hq
    rw [h] at hlen ⊢
    replace hlen : (run t (psT nt l (prtK l x 35))).length ≤ 140737488355328 := hlen
    show Calls Tryz.prog 46 _ _ fun e w' => e = .returned (.tuple #[]) ∧ PoS w0 b (.slice ao l.length c) (run t (psT nt l (prtK l x 35))) W w'
    refine node_expr w0 b _ x t _ W hS (by rw [h]; decide) fun W' hW => ?_
    exact pr_35 w0 b _ l nt K hP x h hn t W' hW hlen
  · have h : x.k = 36 := hq
    clear hq
    rw [h] at hlen ⊢
    replace hlen : (run t (psT nt l (prtK l x 36))).length ≤ 140737488355328 := hlen
    show Calls Tryz.prog 46 _ _ fun e w' => e = .returned (.tuple #[]) ∧ PoS w0 b (.slice ao l.length c) (run t (psT nt l (prtK l x 36))) W w'
    refine node_item w0 b _ x t _ W hS (by rw [h]; decide) (by rw [h]; decide) (by rw [h]; decide) (by rw [h]; decide) fun W' hW => ?_
    exact pr_36 w0 b _ l nt K hP x h hn t W' hW hlen
  · have h : x.k = 37 := hq
    clear hq
    rw [h] at hlen ⊢
    replace hlen : (run t (psT nt l (prtK l x 37))).length ≤ 140737488355328 := hlen
    show Calls Tryz.prog 46 _ _ fun e w' => e = .returned (.tuple #[]) ∧ PoS w0 b (.slice ao l.length c) (run t (psT nt l (prtK l x 37))) W w'
    refine node_expr w0 b _ x t _ W hS (by rw [h]; decide) fun W' hW => ?_
    exact pr_37 w0 b _ l nt K hP x h hn hT ho t W' hW hlen
  · have h : x.k = 38 := hq
    clear hq
    rw [h] at hlen ⊢
    replace hlen : (run t (psT nt l (prtK l x 38))).length ≤ 140737488355328 := hlen
    show Calls Tryz.prog 46 _ _ fun e w' => e = .returned (.tuple #[]) ∧ PoS w0 b (.slice ao l.length c) (run t (psT nt l (prtK l x 38))) W w'
    refine node_expr w0 b _ x t _ W hS (by rw [h]; decide) fun W' hW => ?_
    exact pr_38 w0 b _ l nt K hP x h hn t W' hW hlen
  · have h : x.k = 39 := hq
    clear hq
    rw [h] at hlen ⊢
    replace hlen : (run t (psT nt l (prtK l x 39))).length ≤ 140737488355328 := hlen
    show Calls Tryz.prog 46 _ _ fun e w' => e = .returned (.tuple #[]) ∧ PoS w0 b (.slice ao l.length c) (run t (psT nt l (prtK l x 39))) W w'
    refine node_expr w0 b _ x t _ W hS (by rw [h]; decide) fun W' hW => ?_
    exact pr_39 w0 b _ l nt K hP x h hn t W' hW hlen
  · have h : x.k = 40 := hq
    clear hq
    rw [h] at hlen ⊢
    replace hlen : (run t (psT nt l (prtK l x 40))).length ≤ 140737488355328 := hlen
    show Calls Tryz.prog 46 _ _ fun e w' => e = .returned (.tuple #[]) ∧ PoS w0 b (.slice ao l.length c) (run t (psT nt l (prtK l x 40))) W w'
    refine node_expr w0 b _ x t _ W hS (by rw [h]; decide) fun W' hW => ?_
    exact pr_40 w0 b _ l nt K hP x h hn t W' hW hlen
  · have h : x.k = 41 := hq
    clear hq
    rw [h] at hlen ⊢
    replace hlen : (run t (psT nt l (prtK l x 41))).length ≤ 140737488355328 := hlen
    show Calls Tryz.prog 46 _ _ fun e w' => e = .returned (.tuple #[]) ∧ PoS w0 b (.slice ao l.length c) (run t (psT nt l (prtK l x 41))) W w'
    refine node_expr w0 b _ x t _ W hS (by rw [h]; decide) fun W' hW => ?_
    exact pr_41 w0 b _ l nt K hP x h hn t W' hW hlen
  · have h : x.k = 42 := hq
    clear hq
    rw [h] at hlen ⊢
    replace hlen : (run t (psT nt l (prtK l x 42))).length ≤ 140737488355328 := hlen
    show Calls Tryz.prog 46 _ _ fun e w' => e = .returned (.tuple #[]) ∧ PoS w0 b (.slice ao l.length c) (run t (psT nt l (prtK l x 42))) W w'
    refine node_expr w0 b _ x t _ W hS (by rw [h]; decide) fun W' hW => ?_
    exact pr_42 w0 b _ l nt K hP x h hn t W' hW hlen
  · have h : x.k = 43 := hq
    clear hq
    rw [h] at hlen ⊢
    replace hlen : (run t (psT nt l (prtK l x 43))).length ≤ 140737488355328 := hlen
    show Calls Tryz.prog 46 _ _ fun e w' => e = .returned (.tuple #[]) ∧ PoS w0 b (.slice ao l.length c) (run t (psT nt l (prtK l x 43))) W w'
    refine node_expr w0 b _ x t _ W hS (by rw [h]; decide) fun W' hW => ?_
    exact pr_43 w0 b _ l nt K hP x h hn t W' hW hlen
  · have h : x.k = 44 := hq
    clear hq
    rw [h] at hlen ⊢
    replace hlen : (run t (psT nt l (prtK l x 44))).length ≤ 140737488355328 := hlen
    show Calls Tryz.prog 46 _ _ fun e w' => e = .returned (.tuple #[]) ∧ PoS w0 b (.slice ao l.length c) (run t (psT nt l (prtK l x 44))) W w'
    refine node_expr w0 b _ x t _ W hS (by rw [h]; decide) fun W' hW => ?_
    exact pr_44 w0 b _ l nt K hP x h hn t W' hW hlen
  · have h : x.k = 45 := hq
    clear hq
    rw [h] at hlen ⊢
    replace hlen : (run t (psT nt l (prtK l x 45))).length ≤ 140737488355328 := hlen
    show Calls Tryz.prog 46 _ _ fun e w' => e = .returned (.tuple #[]) ∧ PoS w0 b (.slice ao l.length c) (run t (psT nt l (prtK l x 45))) W w'
    refine node_expr w0 b _ x t _ W hS (by rw [h]; decide) fun W' hW => ?_
    rcases (show x.ks.length = 2 ∨ x.ks.length = 3 by have := hn.ar; rw [h] at this; simpa [arB] using this) with h2 | h3
    · exact pr_45a w0 b _ l nt K hP x h hn h2 t W' hW hlen
    · exact pr_45b w0 b _ l nt K hP x h hn h3 t W' hW hlen
  · have h : x.k = 46 := hq
    clear hq
    rw [h] at hlen ⊢
    replace hlen : (run t (psT nt l (prtK l x 46))).length ≤ 140737488355328 := hlen
    show Calls Tryz.prog 46 _ _ fun e w' => e = .returned (.tuple #[]) ∧ PoS w0 b (.slice ao l.length c) (run t (psT nt l (prtK l x 46))) W w'
    refine node_expr w0 b _ x t _ W hS (by rw [h]; decide) fun W' hW => ?_
    by_cases h1 : x.kc = 1
    · exact pr_46a w0 b _ l nt K hP x h hn h1 t W' hW hlen
    · exact pr_46b w0 b _ l nt K hP x h hn h1 t W' hW hlen
  · have h : x.k = 47 := hq
    clear hq
    rw [h] at hlen ⊢
    replace hlen : (run t (psT nt l (prtK l x 47))).length ≤ 140737488355328 := hlen
    show Calls Tryz.prog 46 _ _ fun e w' => e = .returned (.tuple #[]) ∧ PoS w0 b (.slice ao l.length c) (run t (psT nt l (prtK l x 47))) W w'
    refine node_item w0 b _ x t _ W hS (by rw [h]; decide) (by rw [h]; decide) (by rw [h]; decide) (by rw [h]; decide) fun W' hW => ?_
    exact pr_47 w0 b _ l nt K hP x h hn t W' hW hlen
  · have h : x.k = 50 := hq
    clear hq
    rw [h] at hlen ⊢
    replace hlen : (run t (psT nt l (prtK l x 50))).length ≤ 140737488355328 := hlen
    show Calls Tryz.prog 46 _ _ fun e w' => e = .returned (.tuple #[]) ∧ PoS w0 b (.slice ao l.length c) (run t (psT nt l (prtK l x 50))) W w'
    refine node_patt w0 b _ x t _ W hS (by rw [h]; decide) (by rw [h]; decide) (by rw [h]; decide) (by rw [h]; decide) fun W' hW => ?_
    exact pr_50 w0 b _ l nt K hP x h hn t W' hW hlen
  · have h : x.k = 51 := hq
    clear hq
    rw [h] at hlen ⊢
    replace hlen : (run t (psT nt l (prtK l x 51))).length ≤ 140737488355328 := hlen
    show Calls Tryz.prog 46 _ _ fun e w' => e = .returned (.tuple #[]) ∧ PoS w0 b (.slice ao l.length c) (run t (psT nt l (prtK l x 51))) W w'
    refine node_patt w0 b _ x t _ W hS (by rw [h]; decide) (by rw [h]; decide) (by rw [h]; decide) (by rw [h]; decide) fun W' hW => ?_
    exact pr_51 w0 b _ l nt K hP x h hn t W' hW hlen
  · have h : x.k = 52 := hq
    clear hq
    rw [h] at hlen ⊢
    replace hlen : (run t (psT nt l (prtK l x 52))).length ≤ 140737488355328 := hlen
    show Calls Tryz.prog 46 _ _ fun e w' => e = .returned (.tuple #[]) ∧ PoS w0 b (.slice ao l.length c) (run t (psT nt l (prtK l x 52))) W w'
    refine node_patt w0 b _ x t _ W hS (by rw [h]; decide) (by rw [h]; decide) (by rw [h]; decide) (by rw [h]; decide) fun W' hW => ?_
    by_cases hv : x.v < 0
    · exact pr_52a w0 b _ l nt K hP x h hn hT ho hv t W' hW hlen
    · exact pr_52b w0 b _ l nt K hP x h hn hT ho hv t W' hW hlen
  · have h : x.k = 53 := hq
    clear hq
    rw [h] at hlen ⊢
    replace hlen : (run t (psT nt l (prtK l x 53))).length ≤ 140737488355328 := hlen
    show Calls Tryz.prog 46 _ _ fun e w' => e = .returned (.tuple #[]) ∧ PoS w0 b (.slice ao l.length c) (run t (psT nt l (prtK l x 53))) W w'
    refine node_patt w0 b _ x t _ W hS (by rw [h]; decide) (by rw [h]; decide) (by rw [h]; decide) (by rw [h]; decide) fun W' hW => ?_
    exact pr_53 w0 b _ l nt K hP x h hn t W' hW hlen
  · have h : x.k = 54 := hq
    clear hq
    rw [h] at hlen ⊢
    replace hlen : (run t (psT nt l (prtK l x 54))).length ≤ 140737488355328 := hlen
    show Calls Tryz.prog 46 _ _ fun e w' => e = .returned (.tuple #[]) ∧ PoS w0 b (.slice ao l.length c) (run t (psT nt l (prtK l x 54))) W w'
    refine node_patt w0 b _ x t _ W hS (by rw [h]; decide) (by rw [h]; decide) (by rw [h]; decide) (by rw [h]; decide) fun W' hW => ?_
    exact pr_54 w0 b _ l nt K hP x h hn hT ho t W' hW hlen
/-- Every node of a right tree is put as its tokens. -/
theorem node_right (w0 : World) (b : Nat) (ao : Option Addr) (c : Nat) (l : List Nd) (hl : NdA w0 ao c l) (hT : Tm w0) (hr : rightB l = true) : ∀ (n k : Nat), k < n → k < l.length → NodeC w0 b (.slice ao l.length c) l (ntR l) k
  | 0, k, h, _ => absurd h (Nat.not_lt_zero _)
  | n + 1, k, h, hkl => by
    intro x t W hx hS hlen
    have hm := List.mem_of_getElem? hx
    have hP := puts_all w0 b ao c l (ntR l) k hl (by omega) (fun j hj => node_right w0 b ao c l hl hT hr n j (by omega) (by omega))
    have hn : NdK w0 k x := ⟨(hl.2.2.1 x hm).ks, right_kin hr k x hx, (right_ar hr hm).1⟩
    rw [ntR_eq (right_pkin hr) hx] at hlen ⊢
    exact pr_any w0 b ao c l (ntR l) k hl (by omega) hP hT x hm (right_ar hr hm).2 hn t W hS hlen
end
section
open Go.RowKit Go.Shelf
set_option maxRecDepth 100000 in
set_option maxHeartbeats 4000000 in
theorem string27_none (B b : Nat) (nd : Value) (w : World) (hBw : B ≤ w.heap.size) (h : Prn B b nd [] w) : Calls Tryz.prog 27 #[.pointer (some ⟨b, 1, none⟩)] w fun e w' => e = .returned (.string ⟨#[]⟩) ∧ Below B w w' := by
  obtain ⟨p, hB, v, hbk, hown, hne⟩ : ∃ p, PrnAt B b nd p [] w := by
    rcases h with h | h
    · exact ⟨_, h⟩
    · exact ⟨_, h⟩
  have hlt : b < w.heap.size := (Array.getElem?_eq_some_iff.1 hbk).1
  have hUS : ∀ (W : World) (q : Option Addr), (Builtin.unsafeString_ #[93, 3] 9 #[.pointer q, .int .i64 0]).run Tryz.prog W = .ok (.string .empty) W := fun W q => Lib.run_unsafeString_none W _ _ _ q
  have mixed : Tryz.prog.follows Departure.mixedOrders = true := by kernel_rfl
  rcases hown.2 with ⟨rfl, _⟩ | ⟨g, cap, cur, rfl, hbg, hg, _, _, _, _⟩
  · have c1 : w.drew.cell? ⟨b, 2, none⟩ = some (.slice none 0 0) := by
      have : w.drew.heap[b]? = some (.cells #[nd, p, .slice none 0 0] 60 (0, 0)) := hbk
      rw [Lib.cell_of_heap this]; rfl
    have hSD : (Builtin.unsafeSliceData_ #[56] 93 #[.slice none 0 0]).run Tryz.prog w.drew = .ok (.pointer none) w.drew := rfl
    clear h hown hne hbk
    go_enter Tryz.func27, Tryz.ntmps27
    go_wp2
    go_region_o
    all_goals (go_wp2; go_ret; exact ⟨rfl, Below.drew (Below.refl B w)⟩)
  · by_cases hc0 : cap = 0
    · subst hc0
      have c1 : w.drew.cell? ⟨b, 2, none⟩ = some (.slice (some ⟨g, 0, none⟩) 0 0) := by
        have : w.drew.heap[b]? = some (.cells #[nd, p, .slice (some ⟨g, 0, none⟩) 0 0] 60 (0, 0)) := hbk
        rw [Lib.cell_of_heap this]; rfl
      have hSD : (Builtin.unsafeSliceData_ #[56] 93 #[.slice (some ⟨g, 0, none⟩) 0 0]).run Tryz.prog w.drew = .ok (.pointer (some ⟨w.drew.heap.size, 0, none⟩)) (w.drew.alloc (.view ⟨g, 0, none⟩ 5)) :=
        Lib.run_unsafeSliceData_zero w.drew _ _ 5 Tryz.underlying93 ⟨g, 0, none⟩ 0 (5, cur.size) (by have hg' : w.drew.heap[g]? = some (.cells cur 5 (0, 0)) := hg; simp [World.shape?, hg'])
      have c2 : (w.drew.alloc (.view ⟨g, 0, none⟩ 5)).cell? ⟨b, 2, none⟩ = some (.slice (some ⟨g, 0, none⟩) 0 0) := by
        have : (w.drew.alloc (.view ⟨g, 0, none⟩ 5)).heap[b]? = _ := (Lib.alloc_old w.drew _ b hlt).trans hbk
        rw [Lib.cell_of_heap this]; rfl
      have c3 : (w.alloc (.view ⟨g, 0, none⟩ 5)).drew.cell? ⟨b, 2, none⟩ = some (.slice (some ⟨g, 0, none⟩) 0 0) := c2
      have c0 : w.cell? ⟨b, 2, none⟩ = some (.slice (some ⟨g, 0, none⟩) 0 0) := c1
      clear h hown hne hbk hg
      go_enter Tryz.func27, Tryz.ntmps27
      go_wp2
      go_region_o
      all_goals (go_wp2; go_ret; exact ⟨rfl, (Below.drew (Below.refl B w)).alloc hBw _⟩)
    · have c1 : w.drew.cell? ⟨b, 2, none⟩ = some (.slice (some ⟨g, 0, none⟩) 0 cap) := by
        have : w.drew.heap[b]? = some (.cells #[nd, p, .slice (some ⟨g, 0, none⟩) 0 cap] 60 (0, 0)) := hbk
        rw [Lib.cell_of_heap this]; rfl
      have hSD : (Builtin.unsafeSliceData_ #[56] 93 #[.slice (some ⟨g, 0, none⟩) 0 cap]).run Tryz.prog w.drew = .ok (.pointer (some ⟨g, 0, none⟩)) w.drew :=
        Lib.run_unsafeSliceData_row _ _ _ _ _ _ hc0
      clear h hown hne hbk hg hc0
      go_enter Tryz.func27, Tryz.ntmps27
      go_wp2
      go_region_o
      all_goals (go_wp2; go_ret; exact ⟨rfl, Below.drew (Below.refl B w)⟩)
theorem string27_any (B b : Nat) (nd : Value) (l : List UInt8) (w : World) (hBw : B ≤ w.heap.size) (h : Prn B b nd (cT l) w) : Calls Tryz.prog 27 #[.pointer (some ⟨b, 1, none⟩)] w fun e w' => e = .returned (.string ⟨l.toArray⟩) ∧ Below B w w' := by
  cases l with
  | nil => exact string27_none B b nd w hBw h
  | cons x r => exact string27 B b nd (x :: r) w h (by simp)
set_option maxRecDepth 100000 in
set_option maxHeartbeats 4000000 in
theorem print9 (l : List Nd) (ao : Option Addr) (c : Nat) (w : World) (hT : Tm w) (hl : NdA w ao c l) : Calls Tryz.prog 9 #[.agg #[.slice ao l.length c]] w fun e w' => e = .returned (.tuple #[.string ⟨(prS l).toArray⟩, .int .i64 (prE l)]) ∧ Below w.heap.size w w' := by
  have H11 : Hid (∀ W, Below w.heap.size w W → Calls Tryz.prog 11 #[.agg #[.slice ao l.length c]] W fun e w' => e = .returned (.int .i64 (prE l)) ∧ Below W.heap.size W w') := fun W hW => check11 l ao c W (hT.below hW) (hl.below hW)
  have h1 := hl.1
  have h2 := hl.2.1
  cases hr : rightB l with
  | false =>
    have e1 : prE l = 3 := by unfold prE; rw [if_neg (by simp [hr])]
    have e2 : prS l = [] := by unfold prS; rw [if_neg (by simp [hr])]
    rw [e1] at H11 ⊢
    rw [e2]
    clear e1 e2 hr hT hl
    generalize l.length = n at *
    go_enter Tryz.func9, Tryz.ntmps9
    go_wp2_with fail
    refine (H11.out _ (below_cells _ _ _)).mono ?_
    rintro e w1 ⟨rfl, hb⟩
    have HB1 : Hid (Below w.heap.size w w1) := (below_cells w _ _).trans (hb.mono (by simp))
    clear hb H11
    go_wp2
    go_ret2
    exact ⟨rfl, HB1.out⟩
  | true =>
    have h01 := right_len hr
    have h0 := h01.1
    have e1 : prE l = 0 := by unfold prE; rw [if_pos hr]
    have e2 : prS l = run [] (ntR l (l.length - 1)) := by unfold prS; rw [if_pos hr]
    have hTl := prS_len hl hr
    rw [← e2] at hTl
    rw [e1] at H11 ⊢
    have H26 : Hid (∀ W0 W g, g = W.heap.size → Below w.heap.size w W0 → St W0 W0.heap.size (.slice ao l.length c) [] W → Calls Tryz.prog 26 #[.pointer (some ⟨W0.heap.size, 0, none⟩), .slice (some ⟨g, 0, none⟩) 1 1] (W.alloc (.cells #[.iface 3 (.int .i64 (l.length - 1 : Nat))] 20)) fun e w' => e = .returned (.tuple #[]) ∧ PoS W0 W0.heap.size (.slice ao l.length c) (prS l) W w') := fun W0 W g hg hb hW => by
      subst hg
      have hlW := hl.below hb
      have hP := puts_all W0 W0.heap.size ao c l (ntR l) l.length hlW (Nat.le_refl _) (fun k hk => node_right W0 W0.heap.size ao c l hlW (hT.below hb) hr l.length k hk hk)
      have e : psT (ntR l) l [.n (l.length - 1)] = ntR l (l.length - 1) := by simp [psT, Pt.tk]
      have t := put_at hP [.n (l.length - 1)] (by simp) (fun p hp => by simp at hp; subst hp; exact ⟨by simp [Pt.rk], by show l.length - 1 < l.length; omega⟩) 1 rfl _ rfl [] W hW (by rw [e, ← e2]; exact hTl)
      rw [e, ← e2] at t
      exact t
    have H27 : Hid (∀ W0 W, St W0 W0.heap.size (.slice ao l.length c) (prS l) W → Calls Tryz.prog 27 #[.pointer (some ⟨W0.heap.size, 1, none⟩)] W fun e w' => e = .returned (.string ⟨(prS l).toArray⟩) ∧ Below W0.heap.size W w') := fun W0 W hW => string27_any _ _ _ (prS l) W hW.pr.2 hW.pr.1
    generalize prS l = T at *
    obtain ⟨n, hn⟩ : ∃ n, n = l.length := ⟨_, rfl⟩
    rw [← hn] at H11 H26 H27 h1 h0 ⊢
    obtain ⟨m, hm⟩ : ∃ m, m = n - 1 := ⟨_, rfl⟩
    rw [← hm] at H26
    have hm1 : IntKind.i64.wrap ((n : Int) - 1) = (m : Int) := by simp [IntKind.wrap, IntKind.bits, IntKind.signed]; omega
    have hm2 : (n : Int) - 1 = (m : Int) := by omega
    clear hT hl hr hTl hn hm e1 e2 h01
    go_enter Tryz.func9, Tryz.ntmps9
    go_wp2_with fail
    refine (H11.out _ (below_cells _ _ _)).mono ?_
    rintro e w1 ⟨rfl, hb⟩
    have HB1 : Hid (Below w.heap.size w w1) := (below_cells w _ _).trans (hb.mono (by simp))
    have d0 := (bcell hb).1 w.heap.size 0 (by simp)
    simp at d0
    have hlt : w.heap.size < w1.heap.size := World.block_lt_of_cell? _ _ d0
    have d1 : (w1.alloc (.cells #[.slice ao n c, .pointer none, .slice none 0 0] 60)).cell? ⟨w.heap.size, 0, none⟩ = some (.slice ao n c) := by
      rw [← d0]
      exact (bcell (below_cells w1 _ _)).1 w.heap.size 0 hlt
    clear hb H11
    have HZ : Hid (w.heap.size < w1.heap.size) := hlt
    clear hlt
    go_wp2_with fail
    refine (H26.out w1 _ _ (by simp) HB1.out (st_new w1 _)).mono ?_
    rintro e w2 ⟨rfl, hE⟩
    have HS2 : Hid (St w1 w1.heap.size (.slice ao n c) T w2) := hE.1
    clear hE H26 d0 d1
    go_wp2_with fail
    refine (H27.out w1 w2 HS2.out).mono ?_
    rintro e w3 ⟨rfl, hb⟩
    have HB3 : Hid (Below w.heap.size w w3) := HB1.out.trans ((HS2.out.bl.trans hb).mono (Nat.le_of_lt HZ.out))
    clear hb
    go_wp2
    go_ret2
    exact ⟨rfl, HB3.out⟩
end
end Go.Proofs.YtkkmeogehapjoaaGreatDoor
