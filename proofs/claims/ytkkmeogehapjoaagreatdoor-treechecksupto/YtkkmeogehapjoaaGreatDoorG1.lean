/- The document: nodes handed on by their kind. The document: nodes handed on by their kind. The document: nodes handed on by their kind. -/
import Derived.Test.YtkkmeogehapjoaaGreatDoorD4
import Derived.Test.YtkkmeogehapjoaaGreatDoorR1
namespace Go.Proofs.YtkkmeogehapjoaaGreatDoor
section
open Go.RowKit Go.Shelf
set_option maxRecDepth 100000 in
set_option maxHeartbeats 4000000 in
theorem rd_item (w0 : World) (b : Nat) (ao : Option Addr) (c : Nat) (l : List Nd) (nt : Nat → Tks) (K : Nat) (x : Nd) (hk : x.k ≤ 7) (hr : NdR w0 b ao c l nt K x) (k : Nat) (hx : l[k]? = some x) (t T : List UInt8) (H : ∀ W', RSt w0 b (.slice ao l.length c) t W' → Calls Tryz.prog 49 #[.pointer (some ⟨b, 0, none⟩), nda x] W' fun e w' => e = .returned (.tuple #[]) ∧ PoR w0 b (.slice ao l.length c) T W' w') (W : World) (hS : RSt w0 b (.slice ao l.length c) t W) : Calls Tryz.prog 29 #[.pointer (some ⟨b, 0, none⟩), .int .i64 (k : Nat)] W fun e w' => e = .returned (.tuple #[]) ∧ PoR w0 b (.slice ao l.length c) T W w' := by
  have HC : Hid (∀ W', RSt w0 b (.slice ao l.length c) t W' → Calls Tryz.prog 49 #[.pointer (some ⟨b, 0, none⟩), nda x] W' fun e w' => e = .returned (.tuple #[]) ∧ PoR w0 b (.slice ao l.length c) T W' w') := H
  have HS : Hid (RSt w0 b (.slice ao l.length c) t W) := hS
  obtain ⟨gn, on, hao, hn1, hn2, hkn, a0, a1, a2, a3, a4, a5⟩ := hr.cells k hx W hS.bl
  have hc1 := hr.nk.ks.1
  have hc2 := hr.nk.ks.2.1
  subst hao
  have hc0 := hS.c0
  have hkI : (k : Int) < (l.length : Int) := by omega
  have c53 := cells53
  unfold nda at HC
  skip
  skip
  clear hr hS hx H
  generalize x.k = xk at *
  generalize x.ks.length = xl at *
  generalize x.nm = xn at *
  generalize x.v = xv at *
  generalize x.kc = xc at *
  generalize x.ka = xa at *
  generalize x.fr = xf at *
  generalize x.en = xe at *
  generalize l.length = ln at *
  go_enter Tryz.func29, Tryz.ntmps29
  go_wp2_with fail
  refine (HC.out _ (HS.out.later (below_cells _ _ _))).mono ?_
  rintro e w1 ⟨rfl, hE⟩
  have HE : Hid (PoR w0 b (.slice (some ⟨gn, on, none⟩) ln c) T W w1) := hE.of_alloc
  clear hE
  go_wp2
  go_end0
  exact ⟨rfl, HE.out⟩
set_option maxRecDepth 100000 in
set_option maxHeartbeats 4000000 in
theorem rd_type (w0 : World) (b : Nat) (ao : Option Addr) (c : Nat) (l : List Nd) (nt : Nat → Tks) (K : Nat) (x : Nd) (hk : ¬ x.k ≤ 7) (h39 : tyB x.k = true) (hr : NdR w0 b ao c l nt K x) (k : Nat) (hx : l[k]? = some x) (t T : List UInt8) (H : ∀ W', RSt w0 b (.slice ao l.length c) t W' → Calls Tryz.prog 50 #[.pointer (some ⟨b, 0, none⟩), nda x] W' fun e w' => e = .returned (.tuple #[]) ∧ PoR w0 b (.slice ao l.length c) T W' w') (W : World) (hS : RSt w0 b (.slice ao l.length c) t W) : Calls Tryz.prog 29 #[.pointer (some ⟨b, 0, none⟩), .int .i64 (k : Nat)] W fun e w' => e = .returned (.tuple #[]) ∧ PoR w0 b (.slice ao l.length c) T W w' := by
  have HC : Hid (∀ W', RSt w0 b (.slice ao l.length c) t W' → Calls Tryz.prog 50 #[.pointer (some ⟨b, 0, none⟩), nda x] W' fun e w' => e = .returned (.tuple #[]) ∧ PoR w0 b (.slice ao l.length c) T W' w') := H
  have HS : Hid (RSt w0 b (.slice ao l.length c) t W) := hS
  obtain ⟨gn, on, hao, hn1, hn2, hkn, a0, a1, a2, a3, a4, a5⟩ := hr.cells k hx W hS.bl
  have hc1 := hr.nk.ks.1
  have hc2 := hr.nk.ks.2.1
  subst hao
  have hc0 := hS.c0
  have hkI : (k : Int) < (l.length : Int) := by omega
  have c53 := cells53
  unfold nda at HC
  have Q39 : Hid (∀ W, Calls Tryz.prog 39 #[.int .i64 x.k] W fun e w' => e = .returned (.bool true) ∧ w' = W) := fun W => by have z := type39 x.k W; rw [h39] at z; exact z
  skip
  clear hr hS hx H h39
  generalize x.k = xk at *
  generalize x.ks.length = xl at *
  generalize x.nm = xn at *
  generalize x.v = xv at *
  generalize x.kc = xc at *
  generalize x.ka = xa at *
  generalize x.fr = xf at *
  generalize x.en = xe at *
  generalize l.length = ln at *
  go_enter Tryz.func29, Tryz.ntmps29
  go_wp2_with fail
  refine (Q39.out _).mono ?_
  rintro e wz ⟨rfl, hw⟩
  subst wz
  go_wp2_with fail
  refine (HC.out _ (HS.out.later (below_cells _ _ _))).mono ?_
  rintro e w1 ⟨rfl, hE⟩
  have HE : Hid (PoR w0 b (.slice (some ⟨gn, on, none⟩) ln c) T W w1) := hE.of_alloc
  clear hE
  go_wp2
  go_end0
  exact ⟨rfl, HE.out⟩
set_option maxRecDepth 100000 in
set_option maxHeartbeats 4000000 in
theorem rd_stmt (w0 : World) (b : Nat) (ao : Option Addr) (c : Nat) (l : List Nd) (nt : Nat → Tks) (K : Nat) (x : Nd) (hk : ¬ x.k ≤ 7) (h39 : tyB x.k = false) (h51 : stB x.k = true) (hr : NdR w0 b ao c l nt K x) (k : Nat) (hx : l[k]? = some x) (t T : List UInt8) (H : ∀ W', RSt w0 b (.slice ao l.length c) t W' → Calls Tryz.prog 52 #[.pointer (some ⟨b, 0, none⟩), nda x] W' fun e w' => e = .returned (.tuple #[]) ∧ PoR w0 b (.slice ao l.length c) T W' w') (W : World) (hS : RSt w0 b (.slice ao l.length c) t W) : Calls Tryz.prog 29 #[.pointer (some ⟨b, 0, none⟩), .int .i64 (k : Nat)] W fun e w' => e = .returned (.tuple #[]) ∧ PoR w0 b (.slice ao l.length c) T W w' := by
  have HC : Hid (∀ W', RSt w0 b (.slice ao l.length c) t W' → Calls Tryz.prog 52 #[.pointer (some ⟨b, 0, none⟩), nda x] W' fun e w' => e = .returned (.tuple #[]) ∧ PoR w0 b (.slice ao l.length c) T W' w') := H
  have HS : Hid (RSt w0 b (.slice ao l.length c) t W) := hS
  obtain ⟨gn, on, hao, hn1, hn2, hkn, a0, a1, a2, a3, a4, a5⟩ := hr.cells k hx W hS.bl
  have hc1 := hr.nk.ks.1
  have hc2 := hr.nk.ks.2.1
  subst hao
  have hc0 := hS.c0
  have hkI : (k : Int) < (l.length : Int) := by omega
  have c53 := cells53
  unfold nda at HC
  have Q39 : Hid (∀ W, Calls Tryz.prog 39 #[.int .i64 x.k] W fun e w' => e = .returned (.bool false) ∧ w' = W) := fun W => by have z := type39 x.k W; rw [h39] at z; exact z
  have Q51 : Hid (∀ W, Calls Tryz.prog 51 #[.int .i64 x.k] W fun e w' => e = .returned (.bool true) ∧ w' = W) := fun W => by have z := stmt51 x.k W; rw [h51] at z; exact z
  clear hr hS hx H h39 h51
  generalize x.k = xk at *
  generalize x.ks.length = xl at *
  generalize x.nm = xn at *
  generalize x.v = xv at *
  generalize x.kc = xc at *
  generalize x.ka = xa at *
  generalize x.fr = xf at *
  generalize x.en = xe at *
  generalize l.length = ln at *
  go_enter Tryz.func29, Tryz.ntmps29
  go_wp2_with fail
  refine (Q39.out _).mono ?_
  rintro e wz ⟨rfl, hw⟩
  subst wz
  go_wp2_with fail
  refine (Q51.out _).mono ?_
  rintro e wz ⟨rfl, hw⟩
  subst wz
  go_wp2_with fail
  refine (HC.out _ (HS.out.later (below_cells _ _ _))).mono ?_
  rintro e w1 ⟨rfl, hE⟩
  have HE : Hid (PoR w0 b (.slice (some ⟨gn, on, none⟩) ln c) T W w1) := hE.of_alloc
  clear hE
  go_wp2
  go_end0
  exact ⟨rfl, HE.out⟩
set_option maxRecDepth 100000 in
set_option maxHeartbeats 4000000 in
theorem rd_30 (w0 : World) (b : Nat) (ao : Option Addr) (c : Nat) (l : List Nd) (nt : Nat → Tks) (K : Nat) (x : Nd) (hk : x.k = 30) (hr : NdR w0 b ao c l nt K x) (k : Nat) (hx : l[k]? = some x) (t T : List UInt8) (H : ∀ W', RSt w0 b (.slice ao l.length c) t W' → Calls Tryz.prog 54 #[.pointer (some ⟨b, 0, none⟩), .int .i64 x.v] W' fun e w' => e = .returned (.tuple #[]) ∧ PoR w0 b (.slice ao l.length c) T W' w') (W : World) (hS : RSt w0 b (.slice ao l.length c) t W) : Calls Tryz.prog 29 #[.pointer (some ⟨b, 0, none⟩), .int .i64 (k : Nat)] W fun e w' => e = .returned (.tuple #[]) ∧ PoR w0 b (.slice ao l.length c) T W w' := by
  have HC : Hid (∀ W', RSt w0 b (.slice ao l.length c) t W' → Calls Tryz.prog 54 #[.pointer (some ⟨b, 0, none⟩), .int .i64 x.v] W' fun e w' => e = .returned (.tuple #[]) ∧ PoR w0 b (.slice ao l.length c) T W' w') := H
  have HS : Hid (RSt w0 b (.slice ao l.length c) t W) := hS
  obtain ⟨gn, on, hao, hn1, hn2, hkn, a0, a1, a2, a3, a4, a5⟩ := hr.cells k hx W hS.bl
  have hc1 := hr.nk.ks.1
  have hc2 := hr.nk.ks.2.1
  subst hao
  have hc0 := hS.c0
  have hkI : (k : Int) < (l.length : Int) := by omega
  have c53 := cells53
  skip
  rw [hk] at a0
  clear hr hS hk hx H
  generalize x.ks.length = xl at *
  generalize x.nm = xn at *
  generalize x.v = xv at *
  generalize x.kc = xc at *
  generalize x.ka = xa at *
  generalize x.fr = xf at *
  generalize x.en = xe at *
  generalize l.length = ln at *
  go_enter Tryz.func29, Tryz.ntmps29
  go_wp2_with fail
  refine (type39 _ _).mono ?_
  rintro e wz ⟨rfl, hw⟩
  subst wz
  go_wp2_with fail
  refine (stmt51 _ _).mono ?_
  rintro e wz ⟨rfl, hw⟩
  subst wz
  go_wp2_with fail
  refine (HC.out _ (HS.out.later (below_cells _ _ _))).mono ?_
  rintro e w1 ⟨rfl, hE⟩
  have HE : Hid (PoR w0 b (.slice (some ⟨gn, on, none⟩) ln c) T W w1) := hE.of_alloc
  clear hE
  go_wp2
  go_end0
  exact ⟨rfl, HE.out⟩
set_option maxRecDepth 100000 in
set_option maxHeartbeats 4000000 in
theorem rd_52 (w0 : World) (b : Nat) (ao : Option Addr) (c : Nat) (l : List Nd) (nt : Nat → Tks) (K : Nat) (x : Nd) (hk : x.k = 52) (hr : NdR w0 b ao c l nt K x) (k : Nat) (hx : l[k]? = some x) (t T : List UInt8) (H : ∀ W', RSt w0 b (.slice ao l.length c) t W' → Calls Tryz.prog 54 #[.pointer (some ⟨b, 0, none⟩), .int .i64 x.v] W' fun e w' => e = .returned (.tuple #[]) ∧ PoR w0 b (.slice ao l.length c) T W' w') (W : World) (hS : RSt w0 b (.slice ao l.length c) t W) : Calls Tryz.prog 29 #[.pointer (some ⟨b, 0, none⟩), .int .i64 (k : Nat)] W fun e w' => e = .returned (.tuple #[]) ∧ PoR w0 b (.slice ao l.length c) T W w' := by
  have HC : Hid (∀ W', RSt w0 b (.slice ao l.length c) t W' → Calls Tryz.prog 54 #[.pointer (some ⟨b, 0, none⟩), .int .i64 x.v] W' fun e w' => e = .returned (.tuple #[]) ∧ PoR w0 b (.slice ao l.length c) T W' w') := H
  have HS : Hid (RSt w0 b (.slice ao l.length c) t W) := hS
  obtain ⟨gn, on, hao, hn1, hn2, hkn, a0, a1, a2, a3, a4, a5⟩ := hr.cells k hx W hS.bl
  have hc1 := hr.nk.ks.1
  have hc2 := hr.nk.ks.2.1
  subst hao
  have hc0 := hS.c0
  have hkI : (k : Int) < (l.length : Int) := by omega
  have c53 := cells53
  skip
  rw [hk] at a0
  clear hr hS hk hx H
  generalize x.ks.length = xl at *
  generalize x.nm = xn at *
  generalize x.v = xv at *
  generalize x.kc = xc at *
  generalize x.ka = xa at *
  generalize x.fr = xf at *
  generalize x.en = xe at *
  generalize l.length = ln at *
  go_enter Tryz.func29, Tryz.ntmps29
  go_wp2_with fail
  refine (type39 _ _).mono ?_
  rintro e wz ⟨rfl, hw⟩
  subst wz
  go_wp2_with fail
  refine (stmt51 _ _).mono ?_
  rintro e wz ⟨rfl, hw⟩
  subst wz
  go_wp2_with fail
  refine (HC.out _ (HS.out.later (below_cells _ _ _))).mono ?_
  rintro e w1 ⟨rfl, hE⟩
  have HE : Hid (PoR w0 b (.slice (some ⟨gn, on, none⟩) ln c) T W w1) := hE.of_alloc
  clear hE
  go_wp2
  go_end0
  exact ⟨rfl, HE.out⟩
end
section
open Go.RowKit Go.Shelf
set_option maxRecDepth 100000 in
set_option maxHeartbeats 4000000 in
theorem rd_34 (w0 : World) (b : Nat) (ao : Option Addr) (c : Nat) (l : List Nd) (nt : Nat → Tks) (K : Nat) (x : Nd) (hk : x.k = 34) (hr : NdR w0 b ao c l nt K x) (k : Nat) (hx : l[k]? = some x) (t T : List UInt8) (H : ∀ W', RSt w0 b (.slice ao l.length c) t W' → Calls Tryz.prog 57 #[.pointer (some ⟨b, 0, none⟩), nda x] W' fun e w' => e = .returned (.tuple #[]) ∧ PoR w0 b (.slice ao l.length c) T W' w') (W : World) (hS : RSt w0 b (.slice ao l.length c) t W) : Calls Tryz.prog 29 #[.pointer (some ⟨b, 0, none⟩), .int .i64 (k : Nat)] W fun e w' => e = .returned (.tuple #[]) ∧ PoR w0 b (.slice ao l.length c) T W w' := by
  have HC : Hid (∀ W', RSt w0 b (.slice ao l.length c) t W' → Calls Tryz.prog 57 #[.pointer (some ⟨b, 0, none⟩), nda x] W' fun e w' => e = .returned (.tuple #[]) ∧ PoR w0 b (.slice ao l.length c) T W' w') := H
  have HS : Hid (RSt w0 b (.slice ao l.length c) t W) := hS
  obtain ⟨gn, on, hao, hn1, hn2, hkn, a0, a1, a2, a3, a4, a5⟩ := hr.cells k hx W hS.bl
  have hc1 := hr.nk.ks.1
  have hc2 := hr.nk.ks.2.1
  subst hao
  have hc0 := hS.c0
  have hkI : (k : Int) < (l.length : Int) := by omega
  have c53 := cells53
  unfold nda at HC
  rw [hk] at HC a0
  clear hr hS hk hx H
  generalize x.ks.length = xl at *
  generalize x.nm = xn at *
  generalize x.v = xv at *
  generalize x.kc = xc at *
  generalize x.ka = xa at *
  generalize x.fr = xf at *
  generalize x.en = xe at *
  generalize l.length = ln at *
  go_enter Tryz.func29, Tryz.ntmps29
  go_wp2_with fail
  refine (type39 _ _).mono ?_
  rintro e wz ⟨rfl, hw⟩
  subst wz
  go_wp2_with fail
  refine (stmt51 _ _).mono ?_
  rintro e wz ⟨rfl, hw⟩
  subst wz
  go_wp2_with fail
  refine (HC.out _ (HS.out.later (below_cells _ _ _))).mono ?_
  rintro e w1 ⟨rfl, hE⟩
  have HE : Hid (PoR w0 b (.slice (some ⟨gn, on, none⟩) ln c) T W w1) := hE.of_alloc
  clear hE
  go_wp2
  go_end0
  exact ⟨rfl, HE.out⟩
set_option maxRecDepth 100000 in
set_option maxHeartbeats 4000000 in
theorem rd_35 (w0 : World) (b : Nat) (ao : Option Addr) (c : Nat) (l : List Nd) (nt : Nat → Tks) (K : Nat) (x : Nd) (hk : x.k = 35) (hr : NdR w0 b ao c l nt K x) (k : Nat) (hx : l[k]? = some x) (t T : List UInt8) (H : ∀ W', RSt w0 b (.slice ao l.length c) t W' → Calls Tryz.prog 57 #[.pointer (some ⟨b, 0, none⟩), nda x] W' fun e w' => e = .returned (.tuple #[]) ∧ PoR w0 b (.slice ao l.length c) T W' w') (W : World) (hS : RSt w0 b (.slice ao l.length c) t W) : Calls Tryz.prog 29 #[.pointer (some ⟨b, 0, none⟩), .int .i64 (k : Nat)] W fun e w' => e = .returned (.tuple #[]) ∧ PoR w0 b (.slice ao l.length c) T W w' := by
  have HC : Hid (∀ W', RSt w0 b (.slice ao l.length c) t W' → Calls Tryz.prog 57 #[.pointer (some ⟨b, 0, none⟩), nda x] W' fun e w' => e = .returned (.tuple #[]) ∧ PoR w0 b (.slice ao l.length c) T W' w') := H
  have HS : Hid (RSt w0 b (.slice ao l.length c) t W) := hS
  obtain ⟨gn, on, hao, hn1, hn2, hkn, a0, a1, a2, a3, a4, a5⟩ := hr.cells k hx W hS.bl
  have hc1 := hr.nk.ks.1
  have hc2 := hr.nk.ks.2.1
  subst hao
  have hc0 := hS.c0
  have hkI : (k : Int) < (l.length : Int) := by omega
  have c53 := cells53
  unfold nda at HC
  rw [hk] at HC a0
  clear hr hS hk hx H
  generalize x.ks.length = xl at *
  generalize x.nm = xn at *
  generalize x.v = xv at *
  generalize x.kc = xc at *
  generalize x.ka = xa at *
  generalize x.fr = xf at *
  generalize x.en = xe at *
  generalize l.length = ln at *
  go_enter Tryz.func29, Tryz.ntmps29
  go_wp2_with fail
  refine (type39 _ _).mono ?_
  rintro e wz ⟨rfl, hw⟩
  subst wz
  go_wp2_with fail
  refine (stmt51 _ _).mono ?_
  rintro e wz ⟨rfl, hw⟩
  subst wz
  go_wp2_with fail
  refine (HC.out _ (HS.out.later (below_cells _ _ _))).mono ?_
  rintro e w1 ⟨rfl, hE⟩
  have HE : Hid (PoR w0 b (.slice (some ⟨gn, on, none⟩) ln c) T W w1) := hE.of_alloc
  clear hE
  go_wp2
  go_end0
  exact ⟨rfl, HE.out⟩
set_option maxRecDepth 100000 in
set_option maxHeartbeats 4000000 in
theorem rd_36 (w0 : World) (b : Nat) (ao : Option Addr) (c : Nat) (l : List Nd) (nt : Nat → Tks) (K : Nat) (x : Nd) (hk : x.k = 36) (hr : NdR w0 b ao c l nt K x) (k : Nat) (hx : l[k]? = some x) (t T : List UInt8) (H : ∀ W', RSt w0 b (.slice ao l.length c) t W' → Calls Tryz.prog 57 #[.pointer (some ⟨b, 0, none⟩), nda x] W' fun e w' => e = .returned (.tuple #[]) ∧ PoR w0 b (.slice ao l.length c) T W' w') (W : World) (hS : RSt w0 b (.slice ao l.length c) t W) : Calls Tryz.prog 29 #[.pointer (some ⟨b, 0, none⟩), .int .i64 (k : Nat)] W fun e w' => e = .returned (.tuple #[]) ∧ PoR w0 b (.slice ao l.length c) T W w' := by
  have HC : Hid (∀ W', RSt w0 b (.slice ao l.length c) t W' → Calls Tryz.prog 57 #[.pointer (some ⟨b, 0, none⟩), nda x] W' fun e w' => e = .returned (.tuple #[]) ∧ PoR w0 b (.slice ao l.length c) T W' w') := H
  have HS : Hid (RSt w0 b (.slice ao l.length c) t W) := hS
  obtain ⟨gn, on, hao, hn1, hn2, hkn, a0, a1, a2, a3, a4, a5⟩ := hr.cells k hx W hS.bl
  have hc1 := hr.nk.ks.1
  have hc2 := hr.nk.ks.2.1
  subst hao
  have hc0 := hS.c0
  have hkI : (k : Int) < (l.length : Int) := by omega
  have c53 := cells53
  unfold nda at HC
  rw [hk] at HC a0
  clear hr hS hk hx H
  generalize x.ks.length = xl at *
  generalize x.nm = xn at *
  generalize x.v = xv at *
  generalize x.kc = xc at *
  generalize x.ka = xa at *
  generalize x.fr = xf at *
  generalize x.en = xe at *
  generalize l.length = ln at *
  go_enter Tryz.func29, Tryz.ntmps29
  go_wp2_with fail
  refine (type39 _ _).mono ?_
  rintro e wz ⟨rfl, hw⟩
  subst wz
  go_wp2_with fail
  refine (stmt51 _ _).mono ?_
  rintro e wz ⟨rfl, hw⟩
  subst wz
  go_wp2_with fail
  refine (HC.out _ (HS.out.later (below_cells _ _ _))).mono ?_
  rintro e w1 ⟨rfl, hE⟩
  have HE : Hid (PoR w0 b (.slice (some ⟨gn, on, none⟩) ln c) T W w1) := hE.of_alloc
  clear hE
  go_wp2
  go_end0
  exact ⟨rfl, HE.out⟩
set_option maxRecDepth 100000 in
set_option maxHeartbeats 4000000 in
theorem rd_44 (w0 : World) (b : Nat) (ao : Option Addr) (c : Nat) (l : List Nd) (nt : Nat → Tks) (K : Nat) (x : Nd) (hk : x.k = 44) (hr : NdR w0 b ao c l nt K x) (k : Nat) (hx : l[k]? = some x) (t T : List UInt8) (H : ∀ W', RSt w0 b (.slice ao l.length c) t W' → Calls Tryz.prog 57 #[.pointer (some ⟨b, 0, none⟩), nda x] W' fun e w' => e = .returned (.tuple #[]) ∧ PoR w0 b (.slice ao l.length c) T W' w') (W : World) (hS : RSt w0 b (.slice ao l.length c) t W) : Calls Tryz.prog 29 #[.pointer (some ⟨b, 0, none⟩), .int .i64 (k : Nat)] W fun e w' => e = .returned (.tuple #[]) ∧ PoR w0 b (.slice ao l.length c) T W w' := by
  have HC : Hid (∀ W', RSt w0 b (.slice ao l.length c) t W' → Calls Tryz.prog 57 #[.pointer (some ⟨b, 0, none⟩), nda x] W' fun e w' => e = .returned (.tuple #[]) ∧ PoR w0 b (.slice ao l.length c) T W' w') := H
  have HS : Hid (RSt w0 b (.slice ao l.length c) t W) := hS
  obtain ⟨gn, on, hao, hn1, hn2, hkn, a0, a1, a2, a3, a4, a5⟩ := hr.cells k hx W hS.bl
  have hc1 := hr.nk.ks.1
  have hc2 := hr.nk.ks.2.1
  subst hao
  have hc0 := hS.c0
  have hkI : (k : Int) < (l.length : Int) := by omega
  have c53 := cells53
  unfold nda at HC
  rw [hk] at HC a0
  clear hr hS hk hx H
  generalize x.ks.length = xl at *
  generalize x.nm = xn at *
  generalize x.v = xv at *
  generalize x.kc = xc at *
  generalize x.ka = xa at *
  generalize x.fr = xf at *
  generalize x.en = xe at *
  generalize l.length = ln at *
  go_enter Tryz.func29, Tryz.ntmps29
  go_wp2_with fail
  refine (type39 _ _).mono ?_
  rintro e wz ⟨rfl, hw⟩
  subst wz
  go_wp2_with fail
  refine (stmt51 _ _).mono ?_
  rintro e wz ⟨rfl, hw⟩
  subst wz
  go_wp2_with fail
  refine (HC.out _ (HS.out.later (below_cells _ _ _))).mono ?_
  rintro e w1 ⟨rfl, hE⟩
  have HE : Hid (PoR w0 b (.slice (some ⟨gn, on, none⟩) ln c) T W w1) := hE.of_alloc
  clear hE
  go_wp2
  go_end0
  exact ⟨rfl, HE.out⟩
set_option maxRecDepth 100000 in
set_option maxHeartbeats 4000000 in
theorem rd_45 (w0 : World) (b : Nat) (ao : Option Addr) (c : Nat) (l : List Nd) (nt : Nat → Tks) (K : Nat) (x : Nd) (hk : x.k = 45) (hr : NdR w0 b ao c l nt K x) (k : Nat) (hx : l[k]? = some x) (t T : List UInt8) (H : ∀ W', RSt w0 b (.slice ao l.length c) t W' → Calls Tryz.prog 58 #[.pointer (some ⟨b, 0, none⟩), nda x] W' fun e w' => e = .returned (.tuple #[]) ∧ PoR w0 b (.slice ao l.length c) T W' w') (W : World) (hS : RSt w0 b (.slice ao l.length c) t W) : Calls Tryz.prog 29 #[.pointer (some ⟨b, 0, none⟩), .int .i64 (k : Nat)] W fun e w' => e = .returned (.tuple #[]) ∧ PoR w0 b (.slice ao l.length c) T W w' := by
  have HC : Hid (∀ W', RSt w0 b (.slice ao l.length c) t W' → Calls Tryz.prog 58 #[.pointer (some ⟨b, 0, none⟩), nda x] W' fun e w' => e = .returned (.tuple #[]) ∧ PoR w0 b (.slice ao l.length c) T W' w') := H
  have HS : Hid (RSt w0 b (.slice ao l.length c) t W) := hS
  obtain ⟨gn, on, hao, hn1, hn2, hkn, a0, a1, a2, a3, a4, a5⟩ := hr.cells k hx W hS.bl
  have hc1 := hr.nk.ks.1
  have hc2 := hr.nk.ks.2.1
  subst hao
  have hc0 := hS.c0
  have hkI : (k : Int) < (l.length : Int) := by omega
  have c53 := cells53
  unfold nda at HC
  rw [hk] at HC a0
  clear hr hS hk hx H
  generalize x.ks.length = xl at *
  generalize x.nm = xn at *
  generalize x.v = xv at *
  generalize x.kc = xc at *
  generalize x.ka = xa at *
  generalize x.fr = xf at *
  generalize x.en = xe at *
  generalize l.length = ln at *
  go_enter Tryz.func29, Tryz.ntmps29
  go_wp2_with fail
  refine (type39 _ _).mono ?_
  rintro e wz ⟨rfl, hw⟩
  subst wz
  go_wp2_with fail
  refine (stmt51 _ _).mono ?_
  rintro e wz ⟨rfl, hw⟩
  subst wz
  go_wp2_with fail
  refine (HC.out _ (HS.out.later (below_cells _ _ _))).mono ?_
  rintro e w1 ⟨rfl, hE⟩
  have HE : Hid (PoR w0 b (.slice (some ⟨gn, on, none⟩) ln c) T W w1) := hE.of_alloc
  clear hE
  go_wp2
  go_end0
  exact ⟨rfl, HE.out⟩
set_option maxRecDepth 100000 in
set_option maxHeartbeats 4000000 in
theorem rd_46 (w0 : World) (b : Nat) (ao : Option Addr) (c : Nat) (l : List Nd) (nt : Nat → Tks) (K : Nat) (x : Nd) (hk : x.k = 46) (hr : NdR w0 b ao c l nt K x) (k : Nat) (hx : l[k]? = some x) (t T : List UInt8) (H : ∀ W', RSt w0 b (.slice ao l.length c) t W' → Calls Tryz.prog 58 #[.pointer (some ⟨b, 0, none⟩), nda x] W' fun e w' => e = .returned (.tuple #[]) ∧ PoR w0 b (.slice ao l.length c) T W' w') (W : World) (hS : RSt w0 b (.slice ao l.length c) t W) : Calls Tryz.prog 29 #[.pointer (some ⟨b, 0, none⟩), .int .i64 (k : Nat)] W fun e w' => e = .returned (.tuple #[]) ∧ PoR w0 b (.slice ao l.length c) T W w' := by
  have HC : Hid (∀ W', RSt w0 b (.slice ao l.length c) t W' → Calls Tryz.prog 58 #[.pointer (some ⟨b, 0, none⟩), nda x] W' fun e w' => e = .returned (.tuple #[]) ∧ PoR w0 b (.slice ao l.length c) T W' w') := H
  have HS : Hid (RSt w0 b (.slice ao l.length c) t W) := hS
  obtain ⟨gn, on, hao, hn1, hn2, hkn, a0, a1, a2, a3, a4, a5⟩ := hr.cells k hx W hS.bl
  have hc1 := hr.nk.ks.1
  have hc2 := hr.nk.ks.2.1
  subst hao
  have hc0 := hS.c0
  have hkI : (k : Int) < (l.length : Int) := by omega
  have c53 := cells53
  unfold nda at HC
  rw [hk] at HC a0
  clear hr hS hk hx H
  generalize x.ks.length = xl at *
  generalize x.nm = xn at *
  generalize x.v = xv at *
  generalize x.kc = xc at *
  generalize x.ka = xa at *
  generalize x.fr = xf at *
  generalize x.en = xe at *
  generalize l.length = ln at *
  go_enter Tryz.func29, Tryz.ntmps29
  go_wp2_with fail
  refine (type39 _ _).mono ?_
  rintro e wz ⟨rfl, hw⟩
  subst wz
  go_wp2_with fail
  refine (stmt51 _ _).mono ?_
  rintro e wz ⟨rfl, hw⟩
  subst wz
  go_wp2_with fail
  refine (HC.out _ (HS.out.later (below_cells _ _ _))).mono ?_
  rintro e w1 ⟨rfl, hE⟩
  have HE : Hid (PoR w0 b (.slice (some ⟨gn, on, none⟩) ln c) T W w1) := hE.of_alloc
  clear hE
  go_wp2
  go_end0
  exact ⟨rfl, HE.out⟩
end
section
open Go.RowKit Go.Shelf
set_option maxRecDepth 100000 in
set_option maxHeartbeats 4000000 in
theorem rd_47 (w0 : World) (b : Nat) (ao : Option Addr) (c : Nat) (l : List Nd) (nt : Nat → Tks) (K : Nat) (x : Nd) (hk : x.k = 47) (hr : NdR w0 b ao c l nt K x) (k : Nat) (hx : l[k]? = some x) (t T : List UInt8) (H : ∀ W', RSt w0 b (.slice ao l.length c) t W' → Calls Tryz.prog 58 #[.pointer (some ⟨b, 0, none⟩), nda x] W' fun e w' => e = .returned (.tuple #[]) ∧ PoR w0 b (.slice ao l.length c) T W' w') (W : World) (hS : RSt w0 b (.slice ao l.length c) t W) : Calls Tryz.prog 29 #[.pointer (some ⟨b, 0, none⟩), .int .i64 (k : Nat)] W fun e w' => e = .returned (.tuple #[]) ∧ PoR w0 b (.slice ao l.length c) T W w' := by
  have HC : Hid (∀ W', RSt w0 b (.slice ao l.length c) t W' → Calls Tryz.prog 58 #[.pointer (some ⟨b, 0, none⟩), nda x] W' fun e w' => e = .returned (.tuple #[]) ∧ PoR w0 b (.slice ao l.length c) T W' w') := H
  have HS : Hid (RSt w0 b (.slice ao l.length c) t W) := hS
  obtain ⟨gn, on, hao, hn1, hn2, hkn, a0, a1, a2, a3, a4, a5⟩ := hr.cells k hx W hS.bl
  have hc1 := hr.nk.ks.1
  have hc2 := hr.nk.ks.2.1
  subst hao
  have hc0 := hS.c0
  have hkI : (k : Int) < (l.length : Int) := by omega
  have c53 := cells53
  unfold nda at HC
  rw [hk] at HC a0
  clear hr hS hk hx H
  generalize x.ks.length = xl at *
  generalize x.nm = xn at *
  generalize x.v = xv at *
  generalize x.kc = xc at *
  generalize x.ka = xa at *
  generalize x.fr = xf at *
  generalize x.en = xe at *
  generalize l.length = ln at *
  go_enter Tryz.func29, Tryz.ntmps29
  go_wp2_with fail
  refine (type39 _ _).mono ?_
  rintro e wz ⟨rfl, hw⟩
  subst wz
  go_wp2_with fail
  refine (stmt51 _ _).mono ?_
  rintro e wz ⟨rfl, hw⟩
  subst wz
  go_wp2_with fail
  refine (HC.out _ (HS.out.later (below_cells _ _ _))).mono ?_
  rintro e w1 ⟨rfl, hE⟩
  have HE : Hid (PoR w0 b (.slice (some ⟨gn, on, none⟩) ln c) T W w1) := hE.of_alloc
  clear hE
  go_wp2
  go_end0
  exact ⟨rfl, HE.out⟩
set_option maxRecDepth 100000 in
set_option maxHeartbeats 4000000 in
theorem rd_39 (w0 : World) (b : Nat) (ao : Option Addr) (c : Nat) (l : List Nd) (nt : Nat → Tks) (K : Nat) (x : Nd) (hk : x.k = 39) (hr : NdR w0 b ao c l nt K x) (k : Nat) (hx : l[k]? = some x) (t T : List UInt8) (H : ∀ W', RSt w0 b (.slice ao l.length c) t W' → Calls Tryz.prog 59 #[.pointer (some ⟨b, 0, none⟩), nda x] W' fun e w' => e = .returned (.tuple #[]) ∧ PoR w0 b (.slice ao l.length c) T W' w') (W : World) (hS : RSt w0 b (.slice ao l.length c) t W) : Calls Tryz.prog 29 #[.pointer (some ⟨b, 0, none⟩), .int .i64 (k : Nat)] W fun e w' => e = .returned (.tuple #[]) ∧ PoR w0 b (.slice ao l.length c) T W w' := by
  have HC : Hid (∀ W', RSt w0 b (.slice ao l.length c) t W' → Calls Tryz.prog 59 #[.pointer (some ⟨b, 0, none⟩), nda x] W' fun e w' => e = .returned (.tuple #[]) ∧ PoR w0 b (.slice ao l.length c) T W' w') := H
  have HS : Hid (RSt w0 b (.slice ao l.length c) t W) := hS
  obtain ⟨gn, on, hao, hn1, hn2, hkn, a0, a1, a2, a3, a4, a5⟩ := hr.cells k hx W hS.bl
  have hc1 := hr.nk.ks.1
  have hc2 := hr.nk.ks.2.1
  subst hao
  have hc0 := hS.c0
  have hkI : (k : Int) < (l.length : Int) := by omega
  have c53 := cells53
  unfold nda at HC
  rw [hk] at HC a0
  clear hr hS hk hx H
  generalize x.ks.length = xl at *
  generalize x.nm = xn at *
  generalize x.v = xv at *
  generalize x.kc = xc at *
  generalize x.ka = xa at *
  generalize x.fr = xf at *
  generalize x.en = xe at *
  generalize l.length = ln at *
  go_enter Tryz.func29, Tryz.ntmps29
  go_wp2_with fail
  refine (type39 _ _).mono ?_
  rintro e wz ⟨rfl, hw⟩
  subst wz
  go_wp2_with fail
  refine (stmt51 _ _).mono ?_
  rintro e wz ⟨rfl, hw⟩
  subst wz
  go_wp2_with fail
  refine (HC.out _ (HS.out.later (below_cells _ _ _))).mono ?_
  rintro e w1 ⟨rfl, hE⟩
  have HE : Hid (PoR w0 b (.slice (some ⟨gn, on, none⟩) ln c) T W w1) := hE.of_alloc
  clear hE
  go_wp2
  go_end0
  exact ⟨rfl, HE.out⟩
set_option maxRecDepth 100000 in
set_option maxHeartbeats 4000000 in
theorem rd_40 (w0 : World) (b : Nat) (ao : Option Addr) (c : Nat) (l : List Nd) (nt : Nat → Tks) (K : Nat) (x : Nd) (hk : x.k = 40) (hr : NdR w0 b ao c l nt K x) (k : Nat) (hx : l[k]? = some x) (t T : List UInt8) (H : ∀ W', RSt w0 b (.slice ao l.length c) t W' → Calls Tryz.prog 59 #[.pointer (some ⟨b, 0, none⟩), nda x] W' fun e w' => e = .returned (.tuple #[]) ∧ PoR w0 b (.slice ao l.length c) T W' w') (W : World) (hS : RSt w0 b (.slice ao l.length c) t W) : Calls Tryz.prog 29 #[.pointer (some ⟨b, 0, none⟩), .int .i64 (k : Nat)] W fun e w' => e = .returned (.tuple #[]) ∧ PoR w0 b (.slice ao l.length c) T W w' := by
  have HC : Hid (∀ W', RSt w0 b (.slice ao l.length c) t W' → Calls Tryz.prog 59 #[.pointer (some ⟨b, 0, none⟩), nda x] W' fun e w' => e = .returned (.tuple #[]) ∧ PoR w0 b (.slice ao l.length c) T W' w') := H
  have HS : Hid (RSt w0 b (.slice ao l.length c) t W) := hS
  obtain ⟨gn, on, hao, hn1, hn2, hkn, a0, a1, a2, a3, a4, a5⟩ := hr.cells k hx W hS.bl
  have hc1 := hr.nk.ks.1
  have hc2 := hr.nk.ks.2.1
  subst hao
  have hc0 := hS.c0
  have hkI : (k : Int) < (l.length : Int) := by omega
  have c53 := cells53
  unfold nda at HC
  rw [hk] at HC a0
  clear hr hS hk hx H
  generalize x.ks.length = xl at *
  generalize x.nm = xn at *
  generalize x.v = xv at *
  generalize x.kc = xc at *
  generalize x.ka = xa at *
  generalize x.fr = xf at *
  generalize x.en = xe at *
  generalize l.length = ln at *
  go_enter Tryz.func29, Tryz.ntmps29
  go_wp2_with fail
  refine (type39 _ _).mono ?_
  rintro e wz ⟨rfl, hw⟩
  subst wz
  go_wp2_with fail
  refine (stmt51 _ _).mono ?_
  rintro e wz ⟨rfl, hw⟩
  subst wz
  go_wp2_with fail
  refine (HC.out _ (HS.out.later (below_cells _ _ _))).mono ?_
  rintro e w1 ⟨rfl, hE⟩
  have HE : Hid (PoR w0 b (.slice (some ⟨gn, on, none⟩) ln c) T W w1) := hE.of_alloc
  clear hE
  go_wp2
  go_end0
  exact ⟨rfl, HE.out⟩
set_option maxRecDepth 100000 in
set_option maxHeartbeats 4000000 in
theorem rd_42 (w0 : World) (b : Nat) (ao : Option Addr) (c : Nat) (l : List Nd) (nt : Nat → Tks) (K : Nat) (x : Nd) (hk : x.k = 42) (hr : NdR w0 b ao c l nt K x) (k : Nat) (hx : l[k]? = some x) (t T : List UInt8) (H : ∀ W', RSt w0 b (.slice ao l.length c) t W' → Calls Tryz.prog 59 #[.pointer (some ⟨b, 0, none⟩), nda x] W' fun e w' => e = .returned (.tuple #[]) ∧ PoR w0 b (.slice ao l.length c) T W' w') (W : World) (hS : RSt w0 b (.slice ao l.length c) t W) : Calls Tryz.prog 29 #[.pointer (some ⟨b, 0, none⟩), .int .i64 (k : Nat)] W fun e w' => e = .returned (.tuple #[]) ∧ PoR w0 b (.slice ao l.length c) T W w' := by
  have HC : Hid (∀ W', RSt w0 b (.slice ao l.length c) t W' → Calls Tryz.prog 59 #[.pointer (some ⟨b, 0, none⟩), nda x] W' fun e w' => e = .returned (.tuple #[]) ∧ PoR w0 b (.slice ao l.length c) T W' w') := H
  have HS : Hid (RSt w0 b (.slice ao l.length c) t W) := hS
  obtain ⟨gn, on, hao, hn1, hn2, hkn, a0, a1, a2, a3, a4, a5⟩ := hr.cells k hx W hS.bl
  have hc1 := hr.nk.ks.1
  have hc2 := hr.nk.ks.2.1
  subst hao
  have hc0 := hS.c0
  have hkI : (k : Int) < (l.length : Int) := by omega
  have c53 := cells53
  unfold nda at HC
  rw [hk] at HC a0
  clear hr hS hk hx H
  generalize x.ks.length = xl at *
  generalize x.nm = xn at *
  generalize x.v = xv at *
  generalize x.kc = xc at *
  generalize x.ka = xa at *
  generalize x.fr = xf at *
  generalize x.en = xe at *
  generalize l.length = ln at *
  go_enter Tryz.func29, Tryz.ntmps29
  go_wp2_with fail
  refine (type39 _ _).mono ?_
  rintro e wz ⟨rfl, hw⟩
  subst wz
  go_wp2_with fail
  refine (stmt51 _ _).mono ?_
  rintro e wz ⟨rfl, hw⟩
  subst wz
  go_wp2_with fail
  refine (HC.out _ (HS.out.later (below_cells _ _ _))).mono ?_
  rintro e w1 ⟨rfl, hE⟩
  have HE : Hid (PoR w0 b (.slice (some ⟨gn, on, none⟩) ln c) T W w1) := hE.of_alloc
  clear hE
  go_wp2
  go_end0
  exact ⟨rfl, HE.out⟩
set_option maxRecDepth 100000 in
set_option maxHeartbeats 4000000 in
theorem rd_43 (w0 : World) (b : Nat) (ao : Option Addr) (c : Nat) (l : List Nd) (nt : Nat → Tks) (K : Nat) (x : Nd) (hk : x.k = 43) (hr : NdR w0 b ao c l nt K x) (k : Nat) (hx : l[k]? = some x) (t T : List UInt8) (H : ∀ W', RSt w0 b (.slice ao l.length c) t W' → Calls Tryz.prog 59 #[.pointer (some ⟨b, 0, none⟩), nda x] W' fun e w' => e = .returned (.tuple #[]) ∧ PoR w0 b (.slice ao l.length c) T W' w') (W : World) (hS : RSt w0 b (.slice ao l.length c) t W) : Calls Tryz.prog 29 #[.pointer (some ⟨b, 0, none⟩), .int .i64 (k : Nat)] W fun e w' => e = .returned (.tuple #[]) ∧ PoR w0 b (.slice ao l.length c) T W w' := by
  have HC : Hid (∀ W', RSt w0 b (.slice ao l.length c) t W' → Calls Tryz.prog 59 #[.pointer (some ⟨b, 0, none⟩), nda x] W' fun e w' => e = .returned (.tuple #[]) ∧ PoR w0 b (.slice ao l.length c) T W' w') := H
  have HS : Hid (RSt w0 b (.slice ao l.length c) t W) := hS
  obtain ⟨gn, on, hao, hn1, hn2, hkn, a0, a1, a2, a3, a4, a5⟩ := hr.cells k hx W hS.bl
  have hc1 := hr.nk.ks.1
  have hc2 := hr.nk.ks.2.1
  subst hao
  have hc0 := hS.c0
  have hkI : (k : Int) < (l.length : Int) := by omega
  have c53 := cells53
  unfold nda at HC
  rw [hk] at HC a0
  clear hr hS hk hx H
  generalize x.ks.length = xl at *
  generalize x.nm = xn at *
  generalize x.v = xv at *
  generalize x.kc = xc at *
  generalize x.ka = xa at *
  generalize x.fr = xf at *
  generalize x.en = xe at *
  generalize l.length = ln at *
  go_enter Tryz.func29, Tryz.ntmps29
  go_wp2_with fail
  refine (type39 _ _).mono ?_
  rintro e wz ⟨rfl, hw⟩
  subst wz
  go_wp2_with fail
  refine (stmt51 _ _).mono ?_
  rintro e wz ⟨rfl, hw⟩
  subst wz
  go_wp2_with fail
  refine (HC.out _ (HS.out.later (below_cells _ _ _))).mono ?_
  rintro e w1 ⟨rfl, hE⟩
  have HE : Hid (PoR w0 b (.slice (some ⟨gn, on, none⟩) ln c) T W w1) := hE.of_alloc
  clear hE
  go_wp2
  go_end0
  exact ⟨rfl, HE.out⟩
set_option maxRecDepth 100000 in
set_option maxHeartbeats 4000000 in
theorem rd_37 (w0 : World) (b : Nat) (ao : Option Addr) (c : Nat) (l : List Nd) (nt : Nat → Tks) (K : Nat) (x : Nd) (hk : x.k = 37) (hr : NdR w0 b ao c l nt K x) (k : Nat) (hx : l[k]? = some x) (t T : List UInt8) (H : ∀ W', RSt w0 b (.slice ao l.length c) t W' → Calls Tryz.prog 55 #[.pointer (some ⟨b, 0, none⟩), nda x] W' fun e w' => e = .returned (.tuple #[]) ∧ PoR w0 b (.slice ao l.length c) T W' w') (W : World) (hS : RSt w0 b (.slice ao l.length c) t W) : Calls Tryz.prog 29 #[.pointer (some ⟨b, 0, none⟩), .int .i64 (k : Nat)] W fun e w' => e = .returned (.tuple #[]) ∧ PoR w0 b (.slice ao l.length c) T W w' := by
  have HC : Hid (∀ W', RSt w0 b (.slice ao l.length c) t W' → Calls Tryz.prog 55 #[.pointer (some ⟨b, 0, none⟩), nda x] W' fun e w' => e = .returned (.tuple #[]) ∧ PoR w0 b (.slice ao l.length c) T W' w') := H
  have HS : Hid (RSt w0 b (.slice ao l.length c) t W) := hS
  obtain ⟨gn, on, hao, hn1, hn2, hkn, a0, a1, a2, a3, a4, a5⟩ := hr.cells k hx W hS.bl
  have hc1 := hr.nk.ks.1
  have hc2 := hr.nk.ks.2.1
  subst hao
  have hc0 := hS.c0
  have hkI : (k : Int) < (l.length : Int) := by omega
  have c53 := cells53
  unfold nda at HC
  rw [hk] at HC a0
  clear hr hS hk hx H
  generalize x.ks.length = xl at *
  generalize x.nm = xn at *
  generalize x.v = xv at *
  generalize x.kc = xc at *
  generalize x.ka = xa at *
  generalize x.fr = xf at *
  generalize x.en = xe at *
  generalize l.length = ln at *
  go_enter Tryz.func29, Tryz.ntmps29
  go_wp2_with fail
  refine (type39 _ _).mono ?_
  rintro e wz ⟨rfl, hw⟩
  subst wz
  go_wp2_with fail
  refine (stmt51 _ _).mono ?_
  rintro e wz ⟨rfl, hw⟩
  subst wz
  go_wp2_with fail
  refine (HC.out _ (HS.out.later (below_cells _ _ _))).mono ?_
  rintro e w1 ⟨rfl, hE⟩
  have HE : Hid (PoR w0 b (.slice (some ⟨gn, on, none⟩) ln c) T W w1) := hE.of_alloc
  clear hE
  go_wp2
  go_end0
  exact ⟨rfl, HE.out⟩
set_option maxRecDepth 100000 in
set_option maxHeartbeats 4000000 in
theorem rd_54 (w0 : World) (b : Nat) (ao : Option Addr) (c : Nat) (l : List Nd) (nt : Nat → Tks) (K : Nat) (x : Nd) (hk : x.k = 54) (hr : NdR w0 b ao c l nt K x) (k : Nat) (hx : l[k]? = some x) (t T : List UInt8) (H : ∀ W', RSt w0 b (.slice ao l.length c) t W' → Calls Tryz.prog 55 #[.pointer (some ⟨b, 0, none⟩), nda x] W' fun e w' => e = .returned (.tuple #[]) ∧ PoR w0 b (.slice ao l.length c) T W' w') (W : World) (hS : RSt w0 b (.slice ao l.length c) t W) : Calls Tryz.prog 29 #[.pointer (some ⟨b, 0, none⟩), .int .i64 (k : Nat)] W fun e w' => e = .returned (.tuple #[]) ∧ PoR w0 b (.slice ao l.length c) T W w' := by
  have HC : Hid (∀ W', RSt w0 b (.slice ao l.length c) t W' → Calls Tryz.prog 55 #[.pointer (some ⟨b, 0, none⟩), nda x] W' fun e w' => e = .returned (.tuple #[]) ∧ PoR w0 b (.slice ao l.length c) T W' w') := H
  have HS : Hid (RSt w0 b (.slice ao l.length c) t W) := hS
  obtain ⟨gn, on, hao, hn1, hn2, hkn, a0, a1, a2, a3, a4, a5⟩ := hr.cells k hx W hS.bl
  have hc1 := hr.nk.ks.1
  have hc2 := hr.nk.ks.2.1
  subst hao
  have hc0 := hS.c0
  have hkI : (k : Int) < (l.length : Int) := by omega
  have c53 := cells53
  unfold nda at HC
  rw [hk] at HC a0
  clear hr hS hk hx H
  generalize x.ks.length = xl at *
  generalize x.nm = xn at *
  generalize x.v = xv at *
  generalize x.kc = xc at *
  generalize x.ka = xa at *
  generalize x.fr = xf at *
  generalize x.en = xe at *
  generalize l.length = ln at *
  go_enter Tryz.func29, Tryz.ntmps29
  go_wp2_with fail
  refine (type39 _ _).mono ?_
  rintro e wz ⟨rfl, hw⟩
  subst wz
  go_wp2_with fail
  refine (stmt51 _ _).mono ?_
  rintro e wz ⟨rfl, hw⟩
  subst wz
  go_wp2_with fail
  refine (HC.out _ (HS.out.later (below_cells _ _ _))).mono ?_
  rintro e w1 ⟨rfl, hE⟩
  have HE : Hid (PoR w0 b (.slice (some ⟨gn, on, none⟩) ln c) T W w1) := hE.of_alloc
  clear hE
  go_wp2
  go_end0
  exact ⟨rfl, HE.out⟩
end
end Go.Proofs.YtkkmeogehapjoaaGreatDoor
