/- The document: plain ones put. The document: two sides, fields put. -/
import Derived.Test.YtkkmeogehapjoaaGreatDoorDD
import Derived.Test.YtkkmeogehapjoaaGreatDoorR1
namespace Go.Proofs.YtkkmeogehapjoaaGreatDoor
section
open Go.RowKit Go.Shelf
set_option maxRecDepth 100000 in
set_option maxHeartbeats 4000000 in
theorem rn_32 (w0 : World) (b : Nat) (ao : Option Addr) (c : Nat) (l : List Nd) (nt : Nat → Tks) (K : Nat) (x : Nd) (hk : x.k = 32) (hr : NdR w0 b ao c l nt K x) (k : Nat) (hx : l[k]? = some x) (t : List UInt8) (W : World) (hS : RSt w0 b (.slice ao l.length c) t W) (hlen : (run t (psT nt l (prtK l x 32))).length ≤ 140737488355328) : Calls Tryz.prog 29 #[.pointer (some ⟨b, 0, none⟩), .int .i64 (k : Nat)] W fun e w' => e = .returned (.tuple #[]) ∧ PoR w0 b (.slice ao l.length c) (run t (psT nt l (prtK l x 32))) W w' := by
  have har : arB 32 x.ks.length = true := by have := hr.nk.ar; rw [hk] at this; exact this
  have hl : x.ks.length = 0 := by simpa [arB] using har
  have hE0 : run t (psT nt l (prtK l x 32)) = run (run t [[40]]) [[41]] := by
    simp only [prtK, psT, Pt.tk, run_app, List.append_nil]
  rw [hE0] at hlen ⊢
  clear hE0
  obtain ⟨T1, hT1⟩ : ∃ T, run t [[40]] = T := ⟨_, rfl⟩
  rw [hT1] at hlen ⊢
  obtain ⟨T2, hT2⟩ : ∃ T, run T1 [[41]] = T := ⟨_, rfl⟩
  rw [hT2] at hlen ⊢
  have hl2 : T2.length ≤ 140737488355328 := hlen
  have hl1 : T1.length ≤ 140737488355328 := Nat.le_trans (run_le _ _) (by rw [hT2]; exact hl2)
  have HC1 : Hid (∀ W, RSt w0 b (.slice ao l.length c) t W → Calls Tryz.prog 53 #[.pointer (some ⟨b, 0, none⟩), .string ⟨#[40]⟩] W fun e w' => e = .returned (.tuple #[]) ∧ PoR w0 b (.slice ao l.length c) T1 W w') := rput_h (s := ⟨#[40]⟩) (by simp) hT1 hl1
  have HC2 : Hid (∀ W, RSt w0 b (.slice ao l.length c) T1 W → Calls Tryz.prog 53 #[.pointer (some ⟨b, 0, none⟩), .string ⟨#[41]⟩] W fun e w' => e = .returned (.tuple #[]) ∧ PoR w0 b (.slice ao l.length c) T2 W w') := rput_h (s := ⟨#[41]⟩) (by simp) hT2 hl2
  have HS : Hid (RSt w0 b (.slice ao l.length c) t W) := hS
  have hc1 := hr.nk.ks.1
  have hc2 := hr.nk.ks.2.1
  rw [hl] at hc1
  obtain ⟨gn, on, hao, hn1, hn2, hkn, a0, a1, a2, a3, a4, a5⟩ := hr.cells k hx W hS.bl
  rw [hk] at a0
  rw [hl] at a3
  subst hao
  have hc0 := hS.c0
  have hkI : (k : Int) < (l.length : Int) := by omega
  have c53 := cells53
  clear hr hlen hS har hk hT1 hl1 hT2 hl2 hl hx
  generalize x.nm = xn at *
  generalize x.v = xv at *
  generalize x.kc = xc at *
  generalize x.ka = xa at *
  generalize x.fr = xf at *
  generalize x.en = xe at *
  generalize l.length = ln at *
  have HB0 : Hid (BsR w0 b (.slice (some ⟨gn, on, none⟩) ln c) t W #[.int .i64 32, .string xn, .int .i64 xv, .slice xa 0 xc, .int .i64 xf, .int .i64 xe] (W.alloc (.cells #[.int .i64 32, .string xn, .int .i64 xv, .slice xa 0 xc, .int .i64 xf, .int .i64 xe] 53))) := BsR.start HS.out _
  go_enter Tryz.func29, Tryz.ntmps29
  go_wp2_with fail
  refine (type39 _ _).mono ?_
  rintro e wz ⟨rfl, hw⟩
  subst wz
  go_wp2_with fail
  refine (stmt51 _ _).mono ?_
  rintro e wz ⟨rfl, hw⟩
  subst wz
  go_wp2_with fail
  refine (HC1.out _ HB0.out.st).mono ?_
  rintro e w1 ⟨rfl, hE⟩
  have HB1 : Hid (BsR w0 b (.slice (some ⟨gn, on, none⟩) ln c) T1 W #[.int .i64 32, .string xn, .int .i64 xv, .slice xa 0 xc, .int .i64 xf, .int .i64 xe] w1) := HB0.out.put hE
  clear hE
  obtain ⟨d10, d11, d12, d13, d14, d15⟩ := box6 HB1.out.bx
  go_wp2_with fail
  refine (HC2.out _ HB1.out.st).mono ?_
  rintro e w2 ⟨rfl, hE⟩
  have HB2 : Hid (BsR w0 b (.slice (some ⟨gn, on, none⟩) ln c) T2 W #[.int .i64 32, .string xn, .int .i64 xv, .slice xa 0 xc, .int .i64 xf, .int .i64 xe] w2) := HB1.out.put hE
  clear hE
  have HE : Hid (PoR w0 b (.slice (some ⟨gn, on, none⟩) ln c) T2 W w2) := HB2.out.pos
  clear HB2
  go_wp2
  go_end0
  exact ⟨rfl, HE.out⟩
set_option maxRecDepth 100000 in
set_option maxHeartbeats 4000000 in
theorem rn_33 (w0 : World) (b : Nat) (ao : Option Addr) (c : Nat) (l : List Nd) (nt : Nat → Tks) (K : Nat) (x : Nd) (hk : x.k = 33) (hr : NdR w0 b ao c l nt K x) (k : Nat) (hx : l[k]? = some x) (hnm : x.nm.data.toList ≠ []) (t : List UInt8) (W : World) (hS : RSt w0 b (.slice ao l.length c) t W) (hlen : (run t (psT nt l (prtK l x 33))).length ≤ 140737488355328) : Calls Tryz.prog 29 #[.pointer (some ⟨b, 0, none⟩), .int .i64 (k : Nat)] W fun e w' => e = .returned (.tuple #[]) ∧ PoR w0 b (.slice ao l.length c) (run t (psT nt l (prtK l x 33))) W w' := by
  have har : arB 33 x.ks.length = true := by have := hr.nk.ar; rw [hk] at this; exact this
  have hl : x.ks.length = 0 := by simpa [arB] using har
  have hE0 : run t (psT nt l (prtK l x 33)) = run t [x.nm.data.toList] := by
    simp only [prtK, psT, Pt.tk, List.append_nil]
  rw [hE0] at hlen ⊢
  clear hE0
  obtain ⟨T1, hT1⟩ : ∃ T, run t [x.nm.data.toList] = T := ⟨_, rfl⟩
  rw [hT1] at hlen ⊢
  have hl1 : T1.length ≤ 140737488355328 := hlen
  have HC1 : Hid (∀ W, RSt w0 b (.slice ao l.length c) t W → Calls Tryz.prog 53 #[.pointer (some ⟨b, 0, none⟩), .string x.nm] W fun e w' => e = .returned (.tuple #[]) ∧ PoR w0 b (.slice ao l.length c) T1 W w') := rput_h (s := x.nm) hnm hT1 hl1
  have HS : Hid (RSt w0 b (.slice ao l.length c) t W) := hS
  have hc1 := hr.nk.ks.1
  have hc2 := hr.nk.ks.2.1
  rw [hl] at hc1
  obtain ⟨gn, on, hao, hn1, hn2, hkn, a0, a1, a2, a3, a4, a5⟩ := hr.cells k hx W hS.bl
  rw [hk] at a0
  rw [hl] at a3
  subst hao
  have hc0 := hS.c0
  have hkI : (k : Int) < (l.length : Int) := by omega
  have c53 := cells53
  clear hr hlen hS har hk hT1 hl1 hl hx hnm
  generalize x.nm = xn at *
  generalize x.v = xv at *
  generalize x.kc = xc at *
  generalize x.ka = xa at *
  generalize x.fr = xf at *
  generalize x.en = xe at *
  generalize l.length = ln at *
  have HB0 : Hid (BsR w0 b (.slice (some ⟨gn, on, none⟩) ln c) t W #[.int .i64 33, .string xn, .int .i64 xv, .slice xa 0 xc, .int .i64 xf, .int .i64 xe] (W.alloc (.cells #[.int .i64 33, .string xn, .int .i64 xv, .slice xa 0 xc, .int .i64 xf, .int .i64 xe] 53))) := BsR.start HS.out _
  go_enter Tryz.func29, Tryz.ntmps29
  go_wp2_with fail
  refine (type39 _ _).mono ?_
  rintro e wz ⟨rfl, hw⟩
  subst wz
  go_wp2_with fail
  refine (stmt51 _ _).mono ?_
  rintro e wz ⟨rfl, hw⟩
  subst wz
  go_wp2_with fail
  refine (HC1.out _ HB0.out.st).mono ?_
  rintro e w1 ⟨rfl, hE⟩
  have HB1 : Hid (BsR w0 b (.slice (some ⟨gn, on, none⟩) ln c) T1 W #[.int .i64 33, .string xn, .int .i64 xv, .slice xa 0 xc, .int .i64 xf, .int .i64 xe] w1) := HB0.out.put hE
  clear hE
  have HE : Hid (PoR w0 b (.slice (some ⟨gn, on, none⟩) ln c) T1 W w1) := HB1.out.pos
  clear HB1
  go_wp2
  go_end0
  exact ⟨rfl, HE.out⟩
set_option maxRecDepth 100000 in
set_option maxHeartbeats 4000000 in
theorem rn_51 (w0 : World) (b : Nat) (ao : Option Addr) (c : Nat) (l : List Nd) (nt : Nat → Tks) (K : Nat) (x : Nd) (hk : x.k = 51) (hr : NdR w0 b ao c l nt K x) (k : Nat) (hx : l[k]? = some x) (hnm : x.nm.data.toList ≠ []) (t : List UInt8) (W : World) (hS : RSt w0 b (.slice ao l.length c) t W) (hlen : (run t (psT nt l (prtK l x 51))).length ≤ 140737488355328) : Calls Tryz.prog 29 #[.pointer (some ⟨b, 0, none⟩), .int .i64 (k : Nat)] W fun e w' => e = .returned (.tuple #[]) ∧ PoR w0 b (.slice ao l.length c) (run t (psT nt l (prtK l x 51))) W w' := by
  have har : arB 51 x.ks.length = true := by have := hr.nk.ar; rw [hk] at this; exact this
  have hl : x.ks.length = 0 := by simpa [arB] using har
  have hE0 : run t (psT nt l (prtK l x 51)) = run t [x.nm.data.toList] := by
    simp only [prtK, psT, Pt.tk, List.append_nil]
  rw [hE0] at hlen ⊢
  clear hE0
  obtain ⟨T1, hT1⟩ : ∃ T, run t [x.nm.data.toList] = T := ⟨_, rfl⟩
  rw [hT1] at hlen ⊢
  have hl1 : T1.length ≤ 140737488355328 := hlen
  have HC1 : Hid (∀ W, RSt w0 b (.slice ao l.length c) t W → Calls Tryz.prog 53 #[.pointer (some ⟨b, 0, none⟩), .string x.nm] W fun e w' => e = .returned (.tuple #[]) ∧ PoR w0 b (.slice ao l.length c) T1 W w') := rput_h (s := x.nm) hnm hT1 hl1
  have HS : Hid (RSt w0 b (.slice ao l.length c) t W) := hS
  have hc1 := hr.nk.ks.1
  have hc2 := hr.nk.ks.2.1
  rw [hl] at hc1
  obtain ⟨gn, on, hao, hn1, hn2, hkn, a0, a1, a2, a3, a4, a5⟩ := hr.cells k hx W hS.bl
  rw [hk] at a0
  rw [hl] at a3
  subst hao
  have hc0 := hS.c0
  have hkI : (k : Int) < (l.length : Int) := by omega
  have c53 := cells53
  clear hr hlen hS har hk hT1 hl1 hl hx hnm
  generalize x.nm = xn at *
  generalize x.v = xv at *
  generalize x.kc = xc at *
  generalize x.ka = xa at *
  generalize x.fr = xf at *
  generalize x.en = xe at *
  generalize l.length = ln at *
  have HB0 : Hid (BsR w0 b (.slice (some ⟨gn, on, none⟩) ln c) t W #[.int .i64 51, .string xn, .int .i64 xv, .slice xa 0 xc, .int .i64 xf, .int .i64 xe] (W.alloc (.cells #[.int .i64 51, .string xn, .int .i64 xv, .slice xa 0 xc, .int .i64 xf, .int .i64 xe] 53))) := BsR.start HS.out _
  go_enter Tryz.func29, Tryz.ntmps29
  go_wp2_with fail
  refine (type39 _ _).mono ?_
  rintro e wz ⟨rfl, hw⟩
  subst wz
  go_wp2_with fail
  refine (stmt51 _ _).mono ?_
  rintro e wz ⟨rfl, hw⟩
  subst wz
  go_wp2_with fail
  refine (HC1.out _ HB0.out.st).mono ?_
  rintro e w1 ⟨rfl, hE⟩
  have HB1 : Hid (BsR w0 b (.slice (some ⟨gn, on, none⟩) ln c) T1 W #[.int .i64 51, .string xn, .int .i64 xv, .slice xa 0 xc, .int .i64 xf, .int .i64 xe] w1) := HB0.out.put hE
  clear hE
  have HE : Hid (PoR w0 b (.slice (some ⟨gn, on, none⟩) ln c) T1 W w1) := HB1.out.pos
  clear HB1
  go_wp2
  go_end0
  exact ⟨rfl, HE.out⟩
set_option maxRecDepth 100000 in
set_option maxHeartbeats 4000000 in
theorem rn_50 (w0 : World) (b : Nat) (ao : Option Addr) (c : Nat) (l : List Nd) (nt : Nat → Tks) (K : Nat) (x : Nd) (hk : x.k = 50) (hr : NdR w0 b ao c l nt K x) (k : Nat) (hx : l[k]? = some x) (t : List UInt8) (W : World) (hS : RSt w0 b (.slice ao l.length c) t W) (hlen : (run t (psT nt l (prtK l x 50))).length ≤ 140737488355328) : Calls Tryz.prog 29 #[.pointer (some ⟨b, 0, none⟩), .int .i64 (k : Nat)] W fun e w' => e = .returned (.tuple #[]) ∧ PoR w0 b (.slice ao l.length c) (run t (psT nt l (prtK l x 50))) W w' := by
  have har : arB 50 x.ks.length = true := by have := hr.nk.ar; rw [hk] at this; exact this
  have hl : x.ks.length = 0 := by simpa [arB] using har
  have hE0 : run t (psT nt l (prtK l x 50)) = run t [[95]] := by
    simp only [prtK, psT, Pt.tk, List.append_nil]
  rw [hE0] at hlen ⊢
  clear hE0
  obtain ⟨T1, hT1⟩ : ∃ T, run t [[95]] = T := ⟨_, rfl⟩
  rw [hT1] at hlen ⊢
  have hl1 : T1.length ≤ 140737488355328 := hlen
  have HC1 : Hid (∀ W, RSt w0 b (.slice ao l.length c) t W → Calls Tryz.prog 53 #[.pointer (some ⟨b, 0, none⟩), .string ⟨#[95]⟩] W fun e w' => e = .returned (.tuple #[]) ∧ PoR w0 b (.slice ao l.length c) T1 W w') := rput_h (s := ⟨#[95]⟩) (by simp) hT1 hl1
  have HS : Hid (RSt w0 b (.slice ao l.length c) t W) := hS
  have hc1 := hr.nk.ks.1
  have hc2 := hr.nk.ks.2.1
  rw [hl] at hc1
  obtain ⟨gn, on, hao, hn1, hn2, hkn, a0, a1, a2, a3, a4, a5⟩ := hr.cells k hx W hS.bl
  rw [hk] at a0
  rw [hl] at a3
  subst hao
  have hc0 := hS.c0
  have hkI : (k : Int) < (l.length : Int) := by omega
  have c53 := cells53
  clear hr hlen hS har hk hT1 hl1 hl hx
  generalize x.nm = xn at *
  generalize x.v = xv at *
  generalize x.kc = xc at *
  generalize x.ka = xa at *
  generalize x.fr = xf at *
  generalize x.en = xe at *
  generalize l.length = ln at *
  have HB0 : Hid (BsR w0 b (.slice (some ⟨gn, on, none⟩) ln c) t W #[.int .i64 50, .string xn, .int .i64 xv, .slice xa 0 xc, .int .i64 xf, .int .i64 xe] (W.alloc (.cells #[.int .i64 50, .string xn, .int .i64 xv, .slice xa 0 xc, .int .i64 xf, .int .i64 xe] 53))) := BsR.start HS.out _
  go_enter Tryz.func29, Tryz.ntmps29
  go_wp2_with fail
  refine (type39 _ _).mono ?_
  rintro e wz ⟨rfl, hw⟩
  subst wz
  go_wp2_with fail
  refine (stmt51 _ _).mono ?_
  rintro e wz ⟨rfl, hw⟩
  subst wz
  go_wp2_with fail
  refine (HC1.out _ HB0.out.st).mono ?_
  rintro e w1 ⟨rfl, hE⟩
  have HB1 : Hid (BsR w0 b (.slice (some ⟨gn, on, none⟩) ln c) T1 W #[.int .i64 50, .string xn, .int .i64 xv, .slice xa 0 xc, .int .i64 xf, .int .i64 xe] w1) := HB0.out.put hE
  clear hE
  have HE : Hid (PoR w0 b (.slice (some ⟨gn, on, none⟩) ln c) T1 W w1) := HB1.out.pos
  clear HB1
  go_wp2
  go_end0
  exact ⟨rfl, HE.out⟩
set_option maxRecDepth 100000 in
set_option maxHeartbeats 4000000 in
theorem rn_31a (w0 : World) (b : Nat) (ao : Option Addr) (c : Nat) (l : List Nd) (nt : Nat → Tks) (K : Nat) (x : Nd) (hk : x.k = 31) (hr : NdR w0 b ao c l nt K x) (k : Nat) (hx : l[k]? = some x) (hv1 : x.v = 1) (t : List UInt8) (W : World) (hS : RSt w0 b (.slice ao l.length c) t W) (hlen : (run t (psT nt l (prtK l x 31))).length ≤ 140737488355328) : Calls Tryz.prog 29 #[.pointer (some ⟨b, 0, none⟩), .int .i64 (k : Nat)] W fun e w' => e = .returned (.tuple #[]) ∧ PoR w0 b (.slice ao l.length c) (run t (psT nt l (prtK l x 31))) W w' := by
  have har : arB 31 x.ks.length = true := by have := hr.nk.ar; rw [hk] at this; exact this
  have hl : x.ks.length = 0 := by simpa [arB] using har
  have hE0 : run t (psT nt l (prtK l x 31)) = run t [[116, 114, 117, 101]] := by
    simp only [prtK, psT, Pt.tk, List.append_nil, hv1]
    rfl
  rw [hE0] at hlen ⊢
  clear hE0
  obtain ⟨T1, hT1⟩ : ∃ T, run t [[116, 114, 117, 101]] = T := ⟨_, rfl⟩
  rw [hT1] at hlen ⊢
  have hl1 : T1.length ≤ 140737488355328 := hlen
  have HC1 : Hid (∀ W, RSt w0 b (.slice ao l.length c) t W → Calls Tryz.prog 53 #[.pointer (some ⟨b, 0, none⟩), .string ⟨#[116, 114, 117, 101]⟩] W fun e w' => e = .returned (.tuple #[]) ∧ PoR w0 b (.slice ao l.length c) T1 W w') := rput_h (s := ⟨#[116, 114, 117, 101]⟩) (by simp) hT1 hl1
  have HS : Hid (RSt w0 b (.slice ao l.length c) t W) := hS
  have hc1 := hr.nk.ks.1
  have hc2 := hr.nk.ks.2.1
  rw [hl] at hc1
  obtain ⟨gn, on, hao, hn1, hn2, hkn, a0, a1, a2, a3, a4, a5⟩ := hr.cells k hx W hS.bl
  rw [hk] at a0
  rw [hl] at a3
  subst hao
  have hc0 := hS.c0
  have hkI : (k : Int) < (l.length : Int) := by omega
  have c53 := cells53
  clear hr hlen hS har hk hT1 hl1 hl hx
  generalize x.nm = xn at *
  generalize x.v = xv at *
  generalize x.kc = xc at *
  generalize x.ka = xa at *
  generalize x.fr = xf at *
  generalize x.en = xe at *
  generalize l.length = ln at *
  subst hv1
  have HB0 : Hid (BsR w0 b (.slice (some ⟨gn, on, none⟩) ln c) t W #[.int .i64 31, .string xn, .int .i64 1, .slice xa 0 xc, .int .i64 xf, .int .i64 xe] (W.alloc (.cells #[.int .i64 31, .string xn, .int .i64 1, .slice xa 0 xc, .int .i64 xf, .int .i64 xe] 53))) := BsR.start HS.out _
  go_enter Tryz.func29, Tryz.ntmps29
  go_wp2_with fail
  refine (type39 _ _).mono ?_
  rintro e wz ⟨rfl, hw⟩
  subst wz
  go_wp2_with fail
  refine (stmt51 _ _).mono ?_
  rintro e wz ⟨rfl, hw⟩
  subst wz
  go_wp2_with fail
  refine (HC1.out _ HB0.out.st).mono ?_
  rintro e w1 ⟨rfl, hE⟩
  have HB1 : Hid (BsR w0 b (.slice (some ⟨gn, on, none⟩) ln c) T1 W #[.int .i64 31, .string xn, .int .i64 1, .slice xa 0 xc, .int .i64 xf, .int .i64 xe] w1) := HB0.out.put hE
  clear hE
  have HE : Hid (PoR w0 b (.slice (some ⟨gn, on, none⟩) ln c) T1 W w1) := HB1.out.pos
  clear HB1
  go_wp2
  go_end0
  exact ⟨rfl, HE.out⟩
set_option maxRecDepth 100000 in
set_option maxHeartbeats 4000000 in
theorem rn_31b (w0 : World) (b : Nat) (ao : Option Addr) (c : Nat) (l : List Nd) (nt : Nat → Tks) (K : Nat) (x : Nd) (hk : x.k = 31) (hr : NdR w0 b ao c l nt K x) (k : Nat) (hx : l[k]? = some x) (hv0 : ¬ x.v = 1) (t : List UInt8) (W : World) (hS : RSt w0 b (.slice ao l.length c) t W) (hlen : (run t (psT nt l (prtK l x 31))).length ≤ 140737488355328) : Calls Tryz.prog 29 #[.pointer (some ⟨b, 0, none⟩), .int .i64 (k : Nat)] W fun e w' => e = .returned (.tuple #[]) ∧ PoR w0 b (.slice ao l.length c) (run t (psT nt l (prtK l x 31))) W w' := by
  have har : arB 31 x.ks.length = true := by have := hr.nk.ar; rw [hk] at this; exact this
  have hl : x.ks.length = 0 := by simpa [arB] using har
  have hE0 : run t (psT nt l (prtK l x 31)) = run t [[102, 97, 108, 115, 101]] := by
    simp only [prtK, psT, Pt.tk, List.append_nil]
    unfold truS
    rw [if_neg hv0]
  rw [hE0] at hlen ⊢
  clear hE0
  obtain ⟨T1, hT1⟩ : ∃ T, run t [[102, 97, 108, 115, 101]] = T := ⟨_, rfl⟩
  rw [hT1] at hlen ⊢
  have hl1 : T1.length ≤ 140737488355328 := hlen
  have HC1 : Hid (∀ W, RSt w0 b (.slice ao l.length c) t W → Calls Tryz.prog 53 #[.pointer (some ⟨b, 0, none⟩), .string ⟨#[102, 97, 108, 115, 101]⟩] W fun e w' => e = .returned (.tuple #[]) ∧ PoR w0 b (.slice ao l.length c) T1 W w') := rput_h (s := ⟨#[102, 97, 108, 115, 101]⟩) (by simp) hT1 hl1
  have HS : Hid (RSt w0 b (.slice ao l.length c) t W) := hS
  have hc1 := hr.nk.ks.1
  have hc2 := hr.nk.ks.2.1
  rw [hl] at hc1
  obtain ⟨gn, on, hao, hn1, hn2, hkn, a0, a1, a2, a3, a4, a5⟩ := hr.cells k hx W hS.bl
  rw [hk] at a0
  rw [hl] at a3
  subst hao
  have hc0 := hS.c0
  have hkI : (k : Int) < (l.length : Int) := by omega
  have c53 := cells53
  clear hr hlen hS har hk hT1 hl1 hl hx
  generalize x.nm = xn at *
  generalize x.v = xv at *
  generalize x.kc = xc at *
  generalize x.ka = xa at *
  generalize x.fr = xf at *
  generalize x.en = xe at *
  generalize l.length = ln at *
  have hvb : (xv == 1) = false := by simpa using hv0
  have HB0 : Hid (BsR w0 b (.slice (some ⟨gn, on, none⟩) ln c) t W #[.int .i64 31, .string xn, .int .i64 xv, .slice xa 0 xc, .int .i64 xf, .int .i64 xe] (W.alloc (.cells #[.int .i64 31, .string xn, .int .i64 xv, .slice xa 0 xc, .int .i64 xf, .int .i64 xe] 53))) := BsR.start HS.out _
  go_enter Tryz.func29, Tryz.ntmps29
  go_wp2_with fail
  refine (type39 _ _).mono ?_
  rintro e wz ⟨rfl, hw⟩
  subst wz
  go_wp2_with fail
  refine (stmt51 _ _).mono ?_
  rintro e wz ⟨rfl, hw⟩
  subst wz
  go_wp2_with fail
  refine (HC1.out _ HB0.out.st).mono ?_
  rintro e w1 ⟨rfl, hE⟩
  have HB1 : Hid (BsR w0 b (.slice (some ⟨gn, on, none⟩) ln c) T1 W #[.int .i64 31, .string xn, .int .i64 xv, .slice xa 0 xc, .int .i64 xf, .int .i64 xe] w1) := HB0.out.put hE
  clear hE
  have HE : Hid (PoR w0 b (.slice (some ⟨gn, on, none⟩) ln c) T1 W w1) := HB1.out.pos
  clear HB1
  go_wp2
  go_end0
  exact ⟨rfl, HE.out⟩
set_option maxRecDepth 100000 in
set_option maxHeartbeats 4000000 in
theorem rn_53a (w0 : World) (b : Nat) (ao : Option Addr) (c : Nat) (l : List Nd) (nt : Nat → Tks) (K : Nat) (x : Nd) (hk : x.k = 53) (hr : NdR w0 b ao c l nt K x) (k : Nat) (hx : l[k]? = some x) (hv1 : x.v = 1) (t : List UInt8) (W : World) (hS : RSt w0 b (.slice ao l.length c) t W) (hlen : (run t (psT nt l (prtK l x 53))).length ≤ 140737488355328) : Calls Tryz.prog 29 #[.pointer (some ⟨b, 0, none⟩), .int .i64 (k : Nat)] W fun e w' => e = .returned (.tuple #[]) ∧ PoR w0 b (.slice ao l.length c) (run t (psT nt l (prtK l x 53))) W w' := by
  have har : arB 53 x.ks.length = true := by have := hr.nk.ar; rw [hk] at this; exact this
  have hl : x.ks.length = 0 := by simpa [arB] using har
  have hE0 : run t (psT nt l (prtK l x 53)) = run t [[116, 114, 117, 101]] := by
    simp only [prtK, psT, Pt.tk, List.append_nil, hv1]
    rfl
  rw [hE0] at hlen ⊢
  clear hE0
  obtain ⟨T1, hT1⟩ : ∃ T, run t [[116, 114, 117, 101]] = T := ⟨_, rfl⟩
  rw [hT1] at hlen ⊢
  have hl1 : T1.length ≤ 140737488355328 := hlen
  have HC1 : Hid (∀ W, RSt w0 b (.slice ao l.length c) t W → Calls Tryz.prog 53 #[.pointer (some ⟨b, 0, none⟩), .string ⟨#[116, 114, 117, 101]⟩] W fun e w' => e = .returned (.tuple #[]) ∧ PoR w0 b (.slice ao l.length c) T1 W w') := rput_h (s := ⟨#[116, 114, 117, 101]⟩) (by simp) hT1 hl1
  have HS : Hid (RSt w0 b (.slice ao l.length c) t W) := hS
  have hc1 := hr.nk.ks.1
  have hc2 := hr.nk.ks.2.1
  rw [hl] at hc1
  obtain ⟨gn, on, hao, hn1, hn2, hkn, a0, a1, a2, a3, a4, a5⟩ := hr.cells k hx W hS.bl
  rw [hk] at a0
  rw [hl] at a3
  subst hao
  have hc0 := hS.c0
  have hkI : (k : Int) < (l.length : Int) := by omega
  have c53 := cells53
  clear hr hlen hS har hk hT1 hl1 hl hx
  generalize x.nm = xn at *
  generalize x.v = xv at *
  generalize x.kc = xc at *
  generalize x.ka = xa at *
  generalize x.fr = xf at *
  generalize x.en = xe at *
  generalize l.length = ln at *
  subst hv1
  have HB0 : Hid (BsR w0 b (.slice (some ⟨gn, on, none⟩) ln c) t W #[.int .i64 53, .string xn, .int .i64 1, .slice xa 0 xc, .int .i64 xf, .int .i64 xe] (W.alloc (.cells #[.int .i64 53, .string xn, .int .i64 1, .slice xa 0 xc, .int .i64 xf, .int .i64 xe] 53))) := BsR.start HS.out _
  go_enter Tryz.func29, Tryz.ntmps29
  go_wp2_with fail
  refine (type39 _ _).mono ?_
  rintro e wz ⟨rfl, hw⟩
  subst wz
  go_wp2_with fail
  refine (stmt51 _ _).mono ?_
  rintro e wz ⟨rfl, hw⟩
  subst wz
  go_wp2_with fail
  refine (HC1.out _ HB0.out.st).mono ?_
  rintro e w1 ⟨rfl, hE⟩
  have HB1 : Hid (BsR w0 b (.slice (some ⟨gn, on, none⟩) ln c) T1 W #[.int .i64 53, .string xn, .int .i64 1, .slice xa 0 xc, .int .i64 xf, .int .i64 xe] w1) := HB0.out.put hE
  clear hE
  have HE : Hid (PoR w0 b (.slice (some ⟨gn, on, none⟩) ln c) T1 W w1) := HB1.out.pos
  clear HB1
  go_wp2
  go_end0
  exact ⟨rfl, HE.out⟩
set_option maxRecDepth 100000 in
set_option maxHeartbeats 4000000 in
theorem rn_53b (w0 : World) (b : Nat) (ao : Option Addr) (c : Nat) (l : List Nd) (nt : Nat → Tks) (K : Nat) (x : Nd) (hk : x.k = 53) (hr : NdR w0 b ao c l nt K x) (k : Nat) (hx : l[k]? = some x) (hv0 : ¬ x.v = 1) (t : List UInt8) (W : World) (hS : RSt w0 b (.slice ao l.length c) t W) (hlen : (run t (psT nt l (prtK l x 53))).length ≤ 140737488355328) : Calls Tryz.prog 29 #[.pointer (some ⟨b, 0, none⟩), .int .i64 (k : Nat)] W fun e w' => e = .returned (.tuple #[]) ∧ PoR w0 b (.slice ao l.length c) (run t (psT nt l (prtK l x 53))) W w' := by
  have har : arB 53 x.ks.length = true := by have := hr.nk.ar; rw [hk] at this; exact this
  have hl : x.ks.length = 0 := by simpa [arB] using har
  have hE0 : run t (psT nt l (prtK l x 53)) = run t [[102, 97, 108, 115, 101]] := by
    simp only [prtK, psT, Pt.tk, List.append_nil]
    unfold truS
    rw [if_neg hv0]
  rw [hE0] at hlen ⊢
  clear hE0
  obtain ⟨T1, hT1⟩ : ∃ T, run t [[102, 97, 108, 115, 101]] = T := ⟨_, rfl⟩
  rw [hT1] at hlen ⊢
  have hl1 : T1.length ≤ 140737488355328 := hlen
  have HC1 : Hid (∀ W, RSt w0 b (.slice ao l.length c) t W → Calls Tryz.prog 53 #[.pointer (some ⟨b, 0, none⟩), .string ⟨#[102, 97, 108, 115, 101]⟩] W fun e w' => e = .returned (.tuple #[]) ∧ PoR w0 b (.slice ao l.length c) T1 W w') := rput_h (s := ⟨#[102, 97, 108, 115, 101]⟩) (by simp) hT1 hl1
  have HS : Hid (RSt w0 b (.slice ao l.length c) t W) := hS
  have hc1 := hr.nk.ks.1
  have hc2 := hr.nk.ks.2.1
  rw [hl] at hc1
  obtain ⟨gn, on, hao, hn1, hn2, hkn, a0, a1, a2, a3, a4, a5⟩ := hr.cells k hx W hS.bl
  rw [hk] at a0
  rw [hl] at a3
  subst hao
  have hc0 := hS.c0
  have hkI : (k : Int) < (l.length : Int) := by omega
  have c53 := cells53
  clear hr hlen hS har hk hT1 hl1 hl hx
  generalize x.nm = xn at *
  generalize x.v = xv at *
  generalize x.kc = xc at *
  generalize x.ka = xa at *
  generalize x.fr = xf at *
  generalize x.en = xe at *
  generalize l.length = ln at *
  have hvb : (xv == 1) = false := by simpa using hv0
  have HB0 : Hid (BsR w0 b (.slice (some ⟨gn, on, none⟩) ln c) t W #[.int .i64 53, .string xn, .int .i64 xv, .slice xa 0 xc, .int .i64 xf, .int .i64 xe] (W.alloc (.cells #[.int .i64 53, .string xn, .int .i64 xv, .slice xa 0 xc, .int .i64 xf, .int .i64 xe] 53))) := BsR.start HS.out _
  go_enter Tryz.func29, Tryz.ntmps29
  go_wp2_with fail
  refine (type39 _ _).mono ?_
  rintro e wz ⟨rfl, hw⟩
  subst wz
  go_wp2_with fail
  refine (stmt51 _ _).mono ?_
  rintro e wz ⟨rfl, hw⟩
  subst wz
  go_wp2_with fail
  refine (HC1.out _ HB0.out.st).mono ?_
  rintro e w1 ⟨rfl, hE⟩
  have HB1 : Hid (BsR w0 b (.slice (some ⟨gn, on, none⟩) ln c) T1 W #[.int .i64 53, .string xn, .int .i64 xv, .slice xa 0 xc, .int .i64 xf, .int .i64 xe] w1) := HB0.out.put hE
  clear hE
  have HE : Hid (PoR w0 b (.slice (some ⟨gn, on, none⟩) ln c) T1 W w1) := HB1.out.pos
  clear HB1
  go_wp2
  go_end0
  exact ⟨rfl, HE.out⟩
end
section
open Go.RowKit Go.Shelf
set_option maxRecDepth 100000 in
set_option maxHeartbeats 4000000 in
theorem rn_38 (w0 : World) (b : Nat) (ao : Option Addr) (c : Nat) (l : List Nd) (nt : Nat → Tks) (K : Nat) (x : Nd) (hk : x.k = 38) (hr : NdR w0 b ao c l nt K x) (k : Nat) (hx : l[k]? = some x) (hnm : x.nm.data.toList ≠ []) (t : List UInt8) (W : World) (hS : RSt w0 b (.slice ao l.length c) t W) (hlen : (run t (psT nt l (prtK l x 38))).length ≤ 140737488355328) : Calls Tryz.prog 29 #[.pointer (some ⟨b, 0, none⟩), .int .i64 (k : Nat)] W fun e w' => e = .returned (.tuple #[]) ∧ PoR w0 b (.slice ao l.length c) (run t (psT nt l (prtK l x 38))) W w' := by
  have har : arB 38 x.ks.length = true := by have := hr.nk.ar; rw [hk] at this; exact this
  have hl : x.ks.length = 2 := by simpa [arB] using har
  have hE0 : run t (psT nt l (prtK l x 38)) = run (run (run t (brT nt l 17762910994432 (kidN x 0))) [x.nm.data.toList]) (brT nt l 17762910994432 (kidN x 1)) := by
    simp only [prtK, psT, Pt.tk, run_app, List.append_nil]
  rw [hE0] at hlen ⊢
  clear hE0
  obtain ⟨T1, hT1⟩ : ∃ T, run t (brT nt l 17762910994432 (kidN x 0)) = T := ⟨_, rfl⟩
  rw [hT1] at hlen ⊢
  obtain ⟨T2, hT2⟩ : ∃ T, run T1 [x.nm.data.toList] = T := ⟨_, rfl⟩
  rw [hT2] at hlen ⊢
  obtain ⟨T3, hT3⟩ : ∃ T, run T2 (brT nt l 17762910994432 (kidN x 1)) = T := ⟨_, rfl⟩
  rw [hT3] at hlen ⊢
  have hl3 : T3.length ≤ 140737488355328 := hlen
  have hl2 : T2.length ≤ 140737488355328 := Nat.le_trans (run_le _ _) (by rw [hT3]; exact hl3)
  have hl1 : T1.length ≤ 140737488355328 := Nat.le_trans (run_le _ _) (by rw [hT2]; exact hl2)
  have HC1 : Hid (∀ W, RSt w0 b (.slice ao l.length c) t W → Calls Tryz.prog 56 #[.pointer (some ⟨b, 0, none⟩), .int .i64 (kidN x 0 : Nat), .bool false] W fun e w' => e = .returned (.tuple #[]) ∧ PoR w0 b (.slice ao l.length c) T1 W w') := roper_ah hr.hl (hr.kl 0 (by omega)) (hr.kid 0 (by omega)) hT1 hl1
  have HC2 : Hid (∀ W, RSt w0 b (.slice ao l.length c) T1 W → Calls Tryz.prog 53 #[.pointer (some ⟨b, 0, none⟩), .string x.nm] W fun e w' => e = .returned (.tuple #[]) ∧ PoR w0 b (.slice ao l.length c) T2 W w') := rput_h (s := x.nm) hnm hT2 hl2
  have HC3 : Hid (∀ W, RSt w0 b (.slice ao l.length c) T2 W → Calls Tryz.prog 56 #[.pointer (some ⟨b, 0, none⟩), .int .i64 (kidN x 1 : Nat), .bool false] W fun e w' => e = .returned (.tuple #[]) ∧ PoR w0 b (.slice ao l.length c) T3 W w') := roper_ah hr.hl (hr.kl 1 (by omega)) (hr.kid 1 (by omega)) hT3 hl3
  have HS : Hid (RSt w0 b (.slice ao l.length c) t W) := hS
  obtain ⟨g0, o0, hka, hcell⟩ := hr.nk.addr (by omega)
  have HX : Hid (∀ W, Below w0.heap.size w0 W → W.cell? ⟨g0, o0, none⟩ = some (.int .i64 (kidN x 0 : Nat)) ∧ W.cell? ⟨g0, o0 + 1, none⟩ = some (.int .i64 (kidN x 1 : Nat))) := fun W hW => ⟨hcell W hW 0 (by omega), hcell W hW 1 (by omega)⟩
  have hc1 := hr.nk.ks.1
  have hc2 := hr.nk.ks.2.1
  rw [hl] at hc1
  obtain ⟨gn, on, hao, hn1, hn2, hkn, a0, a1, a2, a3, a4, a5⟩ := hr.cells k hx W hS.bl
  rw [hk] at a0
  rw [hl] at a3
  rw [hka] at a3
  subst hao
  have hc0 := hS.c0
  have hkI : (k : Int) < (l.length : Int) := by omega
  have c53 := cells53
  clear hr hlen hS har hk hT1 hl1 hT2 hl2 hT3 hl3 hcell hka hl hx hnm
  generalize kidN x 0 = q0 at *
  generalize kidN x 1 = q1 at *
  generalize x.nm = xn at *
  generalize x.v = xv at *
  generalize x.kc = xc at *
  generalize x.ka = xa at *
  generalize x.fr = xf at *
  generalize x.en = xe at *
  generalize l.length = ln at *
  have HB0 : Hid (BsR w0 b (.slice (some ⟨gn, on, none⟩) ln c) t W #[.int .i64 38, .string xn, .int .i64 xv, .slice (some ⟨g0, o0, none⟩) 2 xc, .int .i64 xf, .int .i64 xe] (W.alloc (.cells #[.int .i64 38, .string xn, .int .i64 xv, .slice (some ⟨g0, o0, none⟩) 2 xc, .int .i64 xf, .int .i64 xe] 53))) := BsR.start HS.out _
  have r00 : (W.alloc (.cells #[.int .i64 38, .string xn, .int .i64 xv, .slice (some ⟨g0, o0, none⟩) 2 xc, .int .i64 xf, .int .i64 xe] 53)).cell? ⟨g0, o0, none⟩ = some (.int .i64 q0) := (HX.out _ HB0.out.st.bl).1
  have r01 : (W.alloc (.cells #[.int .i64 38, .string xn, .int .i64 xv, .slice (some ⟨g0, o0, none⟩) 2 xc, .int .i64 xf, .int .i64 xe] 53)).cell? ⟨g0, o0 + 1, none⟩ = some (.int .i64 q1) := (HX.out _ HB0.out.st.bl).2
  go_enter Tryz.func29, Tryz.ntmps29
  go_wp2_with fail
  refine (type39 _ _).mono ?_
  rintro e wz ⟨rfl, hw⟩
  subst wz
  go_wp2_with fail
  refine (stmt51 _ _).mono ?_
  rintro e wz ⟨rfl, hw⟩
  subst wz
  go_wp2_with fail
  refine (HC1.out _ HB0.out.st).mono ?_
  rintro e w1 ⟨rfl, hE⟩
  have HB1 : Hid (BsR w0 b (.slice (some ⟨gn, on, none⟩) ln c) T1 W #[.int .i64 38, .string xn, .int .i64 xv, .slice (some ⟨g0, o0, none⟩) 2 xc, .int .i64 xf, .int .i64 xe] w1) := HB0.out.put hE
  clear hE
  obtain ⟨d10, d11, d12, d13, d14, d15⟩ := box6 HB1.out.bx
  obtain ⟨r10, r11⟩ := HX.out w1 HB1.out.st.bl
  go_wp2_with fail
  refine (HC2.out _ HB1.out.st).mono ?_
  rintro e w2 ⟨rfl, hE⟩
  have HB2 : Hid (BsR w0 b (.slice (some ⟨gn, on, none⟩) ln c) T2 W #[.int .i64 38, .string xn, .int .i64 xv, .slice (some ⟨g0, o0, none⟩) 2 xc, .int .i64 xf, .int .i64 xe] w2) := HB1.out.put hE
  clear hE
  obtain ⟨d20, d21, d22, d23, d24, d25⟩ := box6 HB2.out.bx
  obtain ⟨r20, r21⟩ := HX.out w2 HB2.out.st.bl
  go_wp2_with fail
  refine (HC3.out _ HB2.out.st).mono ?_
  rintro e w3 ⟨rfl, hE⟩
  have HB3 : Hid (BsR w0 b (.slice (some ⟨gn, on, none⟩) ln c) T3 W #[.int .i64 38, .string xn, .int .i64 xv, .slice (some ⟨g0, o0, none⟩) 2 xc, .int .i64 xf, .int .i64 xe] w3) := HB2.out.put hE
  clear hE
  have HE : Hid (PoR w0 b (.slice (some ⟨gn, on, none⟩) ln c) T3 W w3) := HB3.out.pos
  clear HB3
  go_wp2
  go_end0
  exact ⟨rfl, HE.out⟩
set_option maxRecDepth 100000 in
set_option maxHeartbeats 4000000 in
theorem rn_41 (w0 : World) (b : Nat) (ao : Option Addr) (c : Nat) (l : List Nd) (nt : Nat → Tks) (K : Nat) (x : Nd) (hk : x.k = 41) (hr : NdR w0 b ao c l nt K x) (k : Nat) (hx : l[k]? = some x) (hnm : x.nm.data.toList ≠ []) (t : List UInt8) (W : World) (hS : RSt w0 b (.slice ao l.length c) t W) (hlen : (run t (psT nt l (prtK l x 41))).length ≤ 140737488355328) : Calls Tryz.prog 29 #[.pointer (some ⟨b, 0, none⟩), .int .i64 (k : Nat)] W fun e w' => e = .returned (.tuple #[]) ∧ PoR w0 b (.slice ao l.length c) (run t (psT nt l (prtK l x 41))) W w' := by
  have har : arB 41 x.ks.length = true := by have := hr.nk.ar; rw [hk] at this; exact this
  have hl : x.ks.length = 1 := by simpa [arB] using har
  have hE0 : run t (psT nt l (prtK l x 41)) = run (run (run t (brT nt l 19961934249984 (kidN x 0))) [[46]]) [x.nm.data.toList] := by
    simp only [prtK, psT, Pt.tk, run_app, List.append_nil]
  rw [hE0] at hlen ⊢
  clear hE0
  obtain ⟨T1, hT1⟩ : ∃ T, run t (brT nt l 19961934249984 (kidN x 0)) = T := ⟨_, rfl⟩
  rw [hT1] at hlen ⊢
  obtain ⟨T2, hT2⟩ : ∃ T, run T1 [[46]] = T := ⟨_, rfl⟩
  rw [hT2] at hlen ⊢
  obtain ⟨T3, hT3⟩ : ∃ T, run T2 [x.nm.data.toList] = T := ⟨_, rfl⟩
  rw [hT3] at hlen ⊢
  have hl3 : T3.length ≤ 140737488355328 := hlen
  have hl2 : T2.length ≤ 140737488355328 := Nat.le_trans (run_le _ _) (by rw [hT3]; exact hl3)
  have hl1 : T1.length ≤ 140737488355328 := Nat.le_trans (run_le _ _) (by rw [hT2]; exact hl2)
  have HC1 : Hid (∀ W, RSt w0 b (.slice ao l.length c) t W → Calls Tryz.prog 56 #[.pointer (some ⟨b, 0, none⟩), .int .i64 (kidN x 0 : Nat), .bool true] W fun e w' => e = .returned (.tuple #[]) ∧ PoR w0 b (.slice ao l.length c) T1 W w') := roper_bh hr.hl (hr.kl 0 (by omega)) (hr.kid 0 (by omega)) hT1 hl1
  have HC2 : Hid (∀ W, RSt w0 b (.slice ao l.length c) T1 W → Calls Tryz.prog 53 #[.pointer (some ⟨b, 0, none⟩), .string ⟨#[46]⟩] W fun e w' => e = .returned (.tuple #[]) ∧ PoR w0 b (.slice ao l.length c) T2 W w') := rput_h (s := ⟨#[46]⟩) (by simp) hT2 hl2
  have HC3 : Hid (∀ W, RSt w0 b (.slice ao l.length c) T2 W → Calls Tryz.prog 53 #[.pointer (some ⟨b, 0, none⟩), .string x.nm] W fun e w' => e = .returned (.tuple #[]) ∧ PoR w0 b (.slice ao l.length c) T3 W w') := rput_h (s := x.nm) hnm hT3 hl3
  have HS : Hid (RSt w0 b (.slice ao l.length c) t W) := hS
  obtain ⟨g0, o0, hka, hcell⟩ := hr.nk.addr (by omega)
  have HX : Hid (∀ W, Below w0.heap.size w0 W → W.cell? ⟨g0, o0, none⟩ = some (.int .i64 (kidN x 0 : Nat))) := fun W hW => hcell W hW 0 (by omega)
  have hc1 := hr.nk.ks.1
  have hc2 := hr.nk.ks.2.1
  rw [hl] at hc1
  obtain ⟨gn, on, hao, hn1, hn2, hkn, a0, a1, a2, a3, a4, a5⟩ := hr.cells k hx W hS.bl
  rw [hk] at a0
  rw [hl] at a3
  rw [hka] at a3
  subst hao
  have hc0 := hS.c0
  have hkI : (k : Int) < (l.length : Int) := by omega
  have c53 := cells53
  clear hr hlen hS har hk hT1 hl1 hT2 hl2 hT3 hl3 hcell hka hl hx hnm
  generalize kidN x 0 = q0 at *
  generalize x.nm = xn at *
  generalize x.v = xv at *
  generalize x.kc = xc at *
  generalize x.ka = xa at *
  generalize x.fr = xf at *
  generalize x.en = xe at *
  generalize l.length = ln at *
  have HB0 : Hid (BsR w0 b (.slice (some ⟨gn, on, none⟩) ln c) t W #[.int .i64 41, .string xn, .int .i64 xv, .slice (some ⟨g0, o0, none⟩) 1 xc, .int .i64 xf, .int .i64 xe] (W.alloc (.cells #[.int .i64 41, .string xn, .int .i64 xv, .slice (some ⟨g0, o0, none⟩) 1 xc, .int .i64 xf, .int .i64 xe] 53))) := BsR.start HS.out _
  have r00 : (W.alloc (.cells #[.int .i64 41, .string xn, .int .i64 xv, .slice (some ⟨g0, o0, none⟩) 1 xc, .int .i64 xf, .int .i64 xe] 53)).cell? ⟨g0, o0, none⟩ = some (.int .i64 q0) := HX.out _ HB0.out.st.bl
  go_enter Tryz.func29, Tryz.ntmps29
  go_wp2_with fail
  refine (type39 _ _).mono ?_
  rintro e wz ⟨rfl, hw⟩
  subst wz
  go_wp2_with fail
  refine (stmt51 _ _).mono ?_
  rintro e wz ⟨rfl, hw⟩
  subst wz
  go_wp2_with fail
  refine (HC1.out _ HB0.out.st).mono ?_
  rintro e w1 ⟨rfl, hE⟩
  have HB1 : Hid (BsR w0 b (.slice (some ⟨gn, on, none⟩) ln c) T1 W #[.int .i64 41, .string xn, .int .i64 xv, .slice (some ⟨g0, o0, none⟩) 1 xc, .int .i64 xf, .int .i64 xe] w1) := HB0.out.put hE
  clear hE
  obtain ⟨d10, d11, d12, d13, d14, d15⟩ := box6 HB1.out.bx
  have r10 := HX.out w1 HB1.out.st.bl
  go_wp2_with fail
  refine (HC2.out _ HB1.out.st).mono ?_
  rintro e w2 ⟨rfl, hE⟩
  have HB2 : Hid (BsR w0 b (.slice (some ⟨gn, on, none⟩) ln c) T2 W #[.int .i64 41, .string xn, .int .i64 xv, .slice (some ⟨g0, o0, none⟩) 1 xc, .int .i64 xf, .int .i64 xe] w2) := HB1.out.put hE
  clear hE
  obtain ⟨d20, d21, d22, d23, d24, d25⟩ := box6 HB2.out.bx
  have r20 := HX.out w2 HB2.out.st.bl
  go_wp2_with fail
  refine (HC3.out _ HB2.out.st).mono ?_
  rintro e w3 ⟨rfl, hE⟩
  have HB3 : Hid (BsR w0 b (.slice (some ⟨gn, on, none⟩) ln c) T3 W #[.int .i64 41, .string xn, .int .i64 xv, .slice (some ⟨g0, o0, none⟩) 1 xc, .int .i64 xf, .int .i64 xe] w3) := HB2.out.put hE
  clear hE
  have HE : Hid (PoR w0 b (.slice (some ⟨gn, on, none⟩) ln c) T3 W w3) := HB3.out.pos
  clear HB3
  go_wp2
  go_end0
  exact ⟨rfl, HE.out⟩
end
end Go.Proofs.YtkkmeogehapjoaaGreatDoor
