/- The document: items put. The document: statements put. -/
import Derived.Test.YtkkmeogehapjoaaGreatDoorDD
namespace Go.Proofs.YtkkmeogehapjoaaGreatDoor
section
open Go.RowKit Go.Shelf
set_option maxRecDepth 100000 in
set_option maxHeartbeats 4000000 in
theorem rf_3 (w0 : World) (b : Nat) (ao : Option Addr) (c : Nat) (l : List Nd) (nt : Nat → Tks) (K : Nat) (x : Nd) (hk : x.k = 3) (hr : NdR w0 b ao c l nt K x) (hnm : x.nm.data.toList ≠ []) : PrR w0 b (.slice ao l.length c) l nt 49 x (prtK l x 3) := by
  intro t W hS hlen
  have har : arB 3 x.ks.length = true := by have := hr.nk.ar; rw [hk] at this; exact this
  have hE0 : run t (psT nt l (prtK l x 3)) = run (run (run (run (run t [[115, 116, 114, 117, 99, 116]]) [x.nm.data.toList]) [[123]]) (comT nt 0 (x.ks))) [[125]] := by
    simp only [prtK, psT, Pt.tk, run_app, List.append_nil]
  rw [hE0] at hlen ⊢
  clear hE0
  obtain ⟨T1, hT1⟩ : ∃ T, run t [[115, 116, 114, 117, 99, 116]] = T := ⟨_, rfl⟩
  rw [hT1] at hlen ⊢
  obtain ⟨T2, hT2⟩ : ∃ T, run T1 [x.nm.data.toList] = T := ⟨_, rfl⟩
  rw [hT2] at hlen ⊢
  obtain ⟨T3, hT3⟩ : ∃ T, run (run (run T2 [[123]]) (comT nt 0 (x.ks))) [[125]] = T := ⟨_, rfl⟩
  rw [hT3] at hlen ⊢
  have hl3 : T3.length ≤ 140737488355328 := hlen
  have hl2 : T2.length ≤ 140737488355328 := Nat.le_trans (Nat.le_trans (run_le _ _) (Nat.le_trans (run_le _ _) (run_le _ _))) (by rw [hT3]; exact hl3)
  have hl1 : T1.length ≤ 140737488355328 := Nat.le_trans (run_le _ _) (by rw [hT2]; exact hl2)
  have HC1 : Hid (∀ W, RSt w0 b (.slice ao l.length c) t W → Calls Tryz.prog 53 #[.pointer (some ⟨b, 0, none⟩), .string ⟨#[115, 116, 114, 117, 99, 116]⟩] W fun e w' => e = .returned (.tuple #[]) ∧ PoR w0 b (.slice ao l.length c) T1 W w') := rput_h (s := ⟨#[115, 116, 114, 117, 99, 116]⟩) (by simp) hT1 hl1
  have HC2 : Hid (∀ W, RSt w0 b (.slice ao l.length c) T1 W → Calls Tryz.prog 53 #[.pointer (some ⟨b, 0, none⟩), .string x.nm] W fun e w' => e = .returned (.tuple #[]) ∧ PoR w0 b (.slice ao l.length c) T2 W w') := rput_h (s := x.nm) hnm hT2 hl2
  have HC3 : Hid (∀ W, RSt w0 b (.slice ao l.length c) T2 W → Calls Tryz.prog 80 #[.pointer (some ⟨b, 0, none⟩), .slice x.ka x.ks.length x.kc] W fun e w' => e = .returned (.tuple #[]) ∧ PoR w0 b (.slice ao l.length c) T3 W w') := rbrace80 w0 b _ nt x.ks x.ka x.kc hr.nk.ks hr.all T2 T3 hT3 hl3
  have HS : Hid (RSt w0 b (.slice ao l.length c) t W) := hS
  have hc1 := hr.nk.ks.1
  have hc2 := hr.nk.ks.2.1
  unfold nda
  rw [hk]
  clear hr hlen hS har hk hT1 hl1 hT2 hl2 hT3 hl3 hnm
  generalize x.ks.length = xl at *
  generalize x.nm = xn at *
  generalize x.v = xv at *
  generalize x.kc = xc at *
  generalize x.ka = xa at *
  generalize x.fr = xf at *
  generalize x.en = xe at *
  generalize l.length = ln at *
  have HB0 : Hid (BsR w0 b (.slice ao ln c) t W #[.int .i64 3, .string xn, .int .i64 xv, .slice xa xl xc, .int .i64 xf, .int .i64 xe] (W.alloc (.cells #[.int .i64 3, .string xn, .int .i64 xv, .slice xa xl xc, .int .i64 xf, .int .i64 xe] 53))) := BsR.start HS.out _
  go_enter Tryz.func49, Tryz.ntmps49
  go_wp2_with fail
  refine (HC1.out _ HB0.out.st).mono ?_
  rintro e w1 ⟨rfl, hE⟩
  have HB1 : Hid (BsR w0 b (.slice ao ln c) T1 W #[.int .i64 3, .string xn, .int .i64 xv, .slice xa xl xc, .int .i64 xf, .int .i64 xe] w1) := HB0.out.put hE
  clear hE
  obtain ⟨d10, d11, d12, d13, d14, d15⟩ := box6 HB1.out.bx
  go_wp2_with fail
  refine (HC2.out _ HB1.out.st).mono ?_
  rintro e w2 ⟨rfl, hE⟩
  have HB2 : Hid (BsR w0 b (.slice ao ln c) T2 W #[.int .i64 3, .string xn, .int .i64 xv, .slice xa xl xc, .int .i64 xf, .int .i64 xe] w2) := HB1.out.put hE
  clear hE
  obtain ⟨d20, d21, d22, d23, d24, d25⟩ := box6 HB2.out.bx
  go_wp2_with fail
  refine (HC3.out _ HB2.out.st).mono ?_
  rintro e w3 ⟨rfl, hE⟩
  have HB3 : Hid (BsR w0 b (.slice ao ln c) T3 W #[.int .i64 3, .string xn, .int .i64 xv, .slice xa xl xc, .int .i64 xf, .int .i64 xe] w3) := HB2.out.put hE
  clear hE
  have HE : Hid (PoR w0 b (.slice ao ln c) T3 W w3) := HB3.out.pos
  clear HB3
  go_wp2
  go_end0
  exact ⟨rfl, HE.out⟩
set_option maxRecDepth 100000 in
set_option maxHeartbeats 4000000 in
theorem rf_4 (w0 : World) (b : Nat) (ao : Option Addr) (c : Nat) (l : List Nd) (nt : Nat → Tks) (K : Nat) (x : Nd) (hk : x.k = 4) (hr : NdR w0 b ao c l nt K x) (hnm : x.nm.data.toList ≠ []) : PrR w0 b (.slice ao l.length c) l nt 49 x (prtK l x 4) := by
  intro t W hS hlen
  have har : arB 4 x.ks.length = true := by have := hr.nk.ar; rw [hk] at this; exact this
  have hE0 : run t (psT nt l (prtK l x 4)) = run (run (run (run (run t [[101, 110, 117, 109]]) [x.nm.data.toList]) [[123]]) (comT nt 0 (x.ks))) [[125]] := by
    simp only [prtK, psT, Pt.tk, run_app, List.append_nil]
  rw [hE0] at hlen ⊢
  clear hE0
  obtain ⟨T1, hT1⟩ : ∃ T, run t [[101, 110, 117, 109]] = T := ⟨_, rfl⟩
  rw [hT1] at hlen ⊢
  obtain ⟨T2, hT2⟩ : ∃ T, run T1 [x.nm.data.toList] = T := ⟨_, rfl⟩
  rw [hT2] at hlen ⊢
  obtain ⟨T3, hT3⟩ : ∃ T, run (run (run T2 [[123]]) (comT nt 0 (x.ks))) [[125]] = T := ⟨_, rfl⟩
  rw [hT3] at hlen ⊢
  have hl3 : T3.length ≤ 140737488355328 := hlen
  have hl2 : T2.length ≤ 140737488355328 := Nat.le_trans (Nat.le_trans (run_le _ _) (Nat.le_trans (run_le _ _) (run_le _ _))) (by rw [hT3]; exact hl3)
  have hl1 : T1.length ≤ 140737488355328 := Nat.le_trans (run_le _ _) (by rw [hT2]; exact hl2)
  have HC1 : Hid (∀ W, RSt w0 b (.slice ao l.length c) t W → Calls Tryz.prog 53 #[.pointer (some ⟨b, 0, none⟩), .string ⟨#[101, 110, 117, 109]⟩] W fun e w' => e = .returned (.tuple #[]) ∧ PoR w0 b (.slice ao l.length c) T1 W w') := rput_h (s := ⟨#[101, 110, 117, 109]⟩) (by simp) hT1 hl1
  have HC2 : Hid (∀ W, RSt w0 b (.slice ao l.length c) T1 W → Calls Tryz.prog 53 #[.pointer (some ⟨b, 0, none⟩), .string x.nm] W fun e w' => e = .returned (.tuple #[]) ∧ PoR w0 b (.slice ao l.length c) T2 W w') := rput_h (s := x.nm) hnm hT2 hl2
  have HC3 : Hid (∀ W, RSt w0 b (.slice ao l.length c) T2 W → Calls Tryz.prog 80 #[.pointer (some ⟨b, 0, none⟩), .slice x.ka x.ks.length x.kc] W fun e w' => e = .returned (.tuple #[]) ∧ PoR w0 b (.slice ao l.length c) T3 W w') := rbrace80 w0 b _ nt x.ks x.ka x.kc hr.nk.ks hr.all T2 T3 hT3 hl3
  have HS : Hid (RSt w0 b (.slice ao l.length c) t W) := hS
  have hc1 := hr.nk.ks.1
  have hc2 := hr.nk.ks.2.1
  unfold nda
  rw [hk]
  clear hr hlen hS har hk hT1 hl1 hT2 hl2 hT3 hl3 hnm
  generalize x.ks.length = xl at *
  generalize x.nm = xn at *
  generalize x.v = xv at *
  generalize x.kc = xc at *
  generalize x.ka = xa at *
  generalize x.fr = xf at *
  generalize x.en = xe at *
  generalize l.length = ln at *
  have HB0 : Hid (BsR w0 b (.slice ao ln c) t W #[.int .i64 4, .string xn, .int .i64 xv, .slice xa xl xc, .int .i64 xf, .int .i64 xe] (W.alloc (.cells #[.int .i64 4, .string xn, .int .i64 xv, .slice xa xl xc, .int .i64 xf, .int .i64 xe] 53))) := BsR.start HS.out _
  go_enter Tryz.func49, Tryz.ntmps49
  go_wp2_with fail
  refine (HC1.out _ HB0.out.st).mono ?_
  rintro e w1 ⟨rfl, hE⟩
  have HB1 : Hid (BsR w0 b (.slice ao ln c) T1 W #[.int .i64 4, .string xn, .int .i64 xv, .slice xa xl xc, .int .i64 xf, .int .i64 xe] w1) := HB0.out.put hE
  clear hE
  obtain ⟨d10, d11, d12, d13, d14, d15⟩ := box6 HB1.out.bx
  go_wp2_with fail
  refine (HC2.out _ HB1.out.st).mono ?_
  rintro e w2 ⟨rfl, hE⟩
  have HB2 : Hid (BsR w0 b (.slice ao ln c) T2 W #[.int .i64 4, .string xn, .int .i64 xv, .slice xa xl xc, .int .i64 xf, .int .i64 xe] w2) := HB1.out.put hE
  clear hE
  obtain ⟨d20, d21, d22, d23, d24, d25⟩ := box6 HB2.out.bx
  go_wp2_with fail
  refine (HC3.out _ HB2.out.st).mono ?_
  rintro e w3 ⟨rfl, hE⟩
  have HB3 : Hid (BsR w0 b (.slice ao ln c) T3 W #[.int .i64 4, .string xn, .int .i64 xv, .slice xa xl xc, .int .i64 xf, .int .i64 xe] w3) := HB2.out.put hE
  clear hE
  have HE : Hid (PoR w0 b (.slice ao ln c) T3 W w3) := HB3.out.pos
  clear HB3
  go_wp2
  go_end0
  exact ⟨rfl, HE.out⟩
set_option maxRecDepth 100000 in
set_option maxHeartbeats 4000000 in
theorem rf_5 (w0 : World) (b : Nat) (ao : Option Addr) (c : Nat) (l : List Nd) (nt : Nat → Tks) (K : Nat) (x : Nd) (hk : x.k = 5) (hr : NdR w0 b ao c l nt K x) (hnm : x.nm.data.toList ≠ []) : PrR w0 b (.slice ao l.length c) l nt 49 x (prtK l x 5) := by
  intro t W hS hlen
  have har : arB 5 x.ks.length = true := by have := hr.nk.ar; rw [hk] at this; exact this
  have hl : x.ks.length = 1 := by simpa [arB] using har
  have hE0 : run t (psT nt l (prtK l x 5)) = run (run (run t [x.nm.data.toList]) [[58]]) (nt (kidN x 0)) := by
    simp only [prtK, psT, Pt.tk, run_app, List.append_nil]
  rw [hE0] at hlen ⊢
  clear hE0
  obtain ⟨T1, hT1⟩ : ∃ T, run t [x.nm.data.toList] = T := ⟨_, rfl⟩
  rw [hT1] at hlen ⊢
  obtain ⟨T2, hT2⟩ : ∃ T, run T1 [[58]] = T := ⟨_, rfl⟩
  rw [hT2] at hlen ⊢
  obtain ⟨T3, hT3⟩ : ∃ T, run T2 (nt (kidN x 0)) = T := ⟨_, rfl⟩
  rw [hT3] at hlen ⊢
  have hl3 : T3.length ≤ 140737488355328 := hlen
  have hl2 : T2.length ≤ 140737488355328 := Nat.le_trans (run_le _ _) (by rw [hT3]; exact hl3)
  have hl1 : T1.length ≤ 140737488355328 := Nat.le_trans (run_le _ _) (by rw [hT2]; exact hl2)
  have HC1 : Hid (∀ W, RSt w0 b (.slice ao l.length c) t W → Calls Tryz.prog 53 #[.pointer (some ⟨b, 0, none⟩), .string x.nm] W fun e w' => e = .returned (.tuple #[]) ∧ PoR w0 b (.slice ao l.length c) T1 W w') := rput_h (s := x.nm) hnm hT1 hl1
  have HC2 : Hid (∀ W, RSt w0 b (.slice ao l.length c) T1 W → Calls Tryz.prog 53 #[.pointer (some ⟨b, 0, none⟩), .string ⟨#[58]⟩] W fun e w' => e = .returned (.tuple #[]) ∧ PoR w0 b (.slice ao l.length c) T2 W w') := rput_h (s := ⟨#[58]⟩) (by simp) hT2 hl2
  have HC3 : Hid (∀ W, RSt w0 b (.slice ao l.length c) T2 W → Calls Tryz.prog 29 #[.pointer (some ⟨b, 0, none⟩), .int .i64 (kidN x 0 : Nat)] W fun e w' => e = .returned (.tuple #[]) ∧ PoR w0 b (.slice ao l.length c) T3 W w') := rnode_h (hr.kid 0 (by omega)) hT3 hl3
  have HS : Hid (RSt w0 b (.slice ao l.length c) t W) := hS
  obtain ⟨g0, o0, hka, hcell⟩ := hr.nk.addr (by omega)
  have HX : Hid (∀ W, Below w0.heap.size w0 W → W.cell? ⟨g0, o0, none⟩ = some (.int .i64 (kidN x 0 : Nat))) := fun W hW => hcell W hW 0 (by omega)
  have hc1 := hr.nk.ks.1
  have hc2 := hr.nk.ks.2.1
  rw [hl] at hc1
  unfold nda
  rw [hk, hl, hka]
  clear hr hlen hS har hk hT1 hl1 hT2 hl2 hT3 hl3 hcell hka hl hnm
  generalize kidN x 0 = q0 at *
  generalize x.nm = xn at *
  generalize x.v = xv at *
  generalize x.kc = xc at *
  generalize x.ka = xa at *
  generalize x.fr = xf at *
  generalize x.en = xe at *
  generalize l.length = ln at *
  have HB0 : Hid (BsR w0 b (.slice ao ln c) t W #[.int .i64 5, .string xn, .int .i64 xv, .slice (some ⟨g0, o0, none⟩) 1 xc, .int .i64 xf, .int .i64 xe] (W.alloc (.cells #[.int .i64 5, .string xn, .int .i64 xv, .slice (some ⟨g0, o0, none⟩) 1 xc, .int .i64 xf, .int .i64 xe] 53))) := BsR.start HS.out _
  have r00 : (W.alloc (.cells #[.int .i64 5, .string xn, .int .i64 xv, .slice (some ⟨g0, o0, none⟩) 1 xc, .int .i64 xf, .int .i64 xe] 53)).cell? ⟨g0, o0, none⟩ = some (.int .i64 q0) := HX.out _ HB0.out.st.bl
  go_enter Tryz.func49, Tryz.ntmps49
  go_wp2_with fail
  refine (HC1.out _ HB0.out.st).mono ?_
  rintro e w1 ⟨rfl, hE⟩
  have HB1 : Hid (BsR w0 b (.slice ao ln c) T1 W #[.int .i64 5, .string xn, .int .i64 xv, .slice (some ⟨g0, o0, none⟩) 1 xc, .int .i64 xf, .int .i64 xe] w1) := HB0.out.put hE
  clear hE
  obtain ⟨d10, d11, d12, d13, d14, d15⟩ := box6 HB1.out.bx
  have r10 := HX.out w1 HB1.out.st.bl
  go_wp2_with fail
  refine (HC2.out _ HB1.out.st).mono ?_
  rintro e w2 ⟨rfl, hE⟩
  have HB2 : Hid (BsR w0 b (.slice ao ln c) T2 W #[.int .i64 5, .string xn, .int .i64 xv, .slice (some ⟨g0, o0, none⟩) 1 xc, .int .i64 xf, .int .i64 xe] w2) := HB1.out.put hE
  clear hE
  obtain ⟨d20, d21, d22, d23, d24, d25⟩ := box6 HB2.out.bx
  have r20 := HX.out w2 HB2.out.st.bl
  go_wp2_with fail
  refine (HC3.out _ HB2.out.st).mono ?_
  rintro e w3 ⟨rfl, hE⟩
  have HB3 : Hid (BsR w0 b (.slice ao ln c) T3 W #[.int .i64 5, .string xn, .int .i64 xv, .slice (some ⟨g0, o0, none⟩) 1 xc, .int .i64 xf, .int .i64 xe] w3) := HB2.out.put hE
  clear hE
  have HE : Hid (PoR w0 b (.slice ao ln c) T3 W w3) := HB3.out.pos
  clear HB3
  go_wp2
  go_end0
  exact ⟨rfl, HE.out⟩
set_option maxRecDepth 100000 in
set_option maxHeartbeats 4000000 in
theorem rf_7a (w0 : World) (b : Nat) (ao : Option Addr) (c : Nat) (l : List Nd) (nt : Nat → Tks) (K : Nat) (x : Nd) (hk : x.k = 7) (hr : NdR w0 b ao c l nt K x) (hnm : x.nm.data.toList ≠ []) (hv1 : x.v = 1) : PrR w0 b (.slice ao l.length c) l nt 49 x (prtK l x 7) := by
  intro t W hS hlen
  have har : arB 7 x.ks.length = true := by have := hr.nk.ar; rw [hk] at this; exact this
  have hl : x.ks.length = 1 := by simpa [arB] using har
  have hE0 : run t (psT nt l (prtK l x 7)) = run (run (run (run t [[109, 117, 116]]) [x.nm.data.toList]) [[58]]) (nt (kidN x 0)) := by
    simp only [prtK, psT, Pt.tk, run_app, List.append_nil, hv1, mutS_1]
  rw [hE0] at hlen ⊢
  clear hE0
  obtain ⟨T1, hT1⟩ : ∃ T, run t [[109, 117, 116]] = T := ⟨_, rfl⟩
  rw [hT1] at hlen ⊢
  obtain ⟨T2, hT2⟩ : ∃ T, run T1 [x.nm.data.toList] = T := ⟨_, rfl⟩
  rw [hT2] at hlen ⊢
  obtain ⟨T3, hT3⟩ : ∃ T, run T2 [[58]] = T := ⟨_, rfl⟩
  rw [hT3] at hlen ⊢
  obtain ⟨T4, hT4⟩ : ∃ T, run T3 (nt (kidN x 0)) = T := ⟨_, rfl⟩
  rw [hT4] at hlen ⊢
  have hl4 : T4.length ≤ 140737488355328 := hlen
  have hl3 : T3.length ≤ 140737488355328 := Nat.le_trans (run_le _ _) (by rw [hT4]; exact hl4)
  have hl2 : T2.length ≤ 140737488355328 := Nat.le_trans (run_le _ _) (by rw [hT3]; exact hl3)
  have hl1 : T1.length ≤ 140737488355328 := Nat.le_trans (run_le _ _) (by rw [hT2]; exact hl2)
  have HC1 : Hid (∀ W, RSt w0 b (.slice ao l.length c) t W → Calls Tryz.prog 53 #[.pointer (some ⟨b, 0, none⟩), .string ⟨#[109, 117, 116]⟩] W fun e w' => e = .returned (.tuple #[]) ∧ PoR w0 b (.slice ao l.length c) T1 W w') := rput_h (s := ⟨#[109, 117, 116]⟩) (by simp) hT1 hl1
  have HC2 : Hid (∀ W, RSt w0 b (.slice ao l.length c) T1 W → Calls Tryz.prog 53 #[.pointer (some ⟨b, 0, none⟩), .string x.nm] W fun e w' => e = .returned (.tuple #[]) ∧ PoR w0 b (.slice ao l.length c) T2 W w') := rput_h (s := x.nm) hnm hT2 hl2
  have HC3 : Hid (∀ W, RSt w0 b (.slice ao l.length c) T2 W → Calls Tryz.prog 53 #[.pointer (some ⟨b, 0, none⟩), .string ⟨#[58]⟩] W fun e w' => e = .returned (.tuple #[]) ∧ PoR w0 b (.slice ao l.length c) T3 W w') := rput_h (s := ⟨#[58]⟩) (by simp) hT3 hl3
  have HC4 : Hid (∀ W, RSt w0 b (.slice ao l.length c) T3 W → Calls Tryz.prog 29 #[.pointer (some ⟨b, 0, none⟩), .int .i64 (kidN x 0 : Nat)] W fun e w' => e = .returned (.tuple #[]) ∧ PoR w0 b (.slice ao l.length c) T4 W w') := rnode_h (hr.kid 0 (by omega)) hT4 hl4
  have HS : Hid (RSt w0 b (.slice ao l.length c) t W) := hS
  obtain ⟨g0, o0, hka, hcell⟩ := hr.nk.addr (by omega)
  have HX : Hid (∀ W, Below w0.heap.size w0 W → W.cell? ⟨g0, o0, none⟩ = some (.int .i64 (kidN x 0 : Nat))) := fun W hW => hcell W hW 0 (by omega)
  have hc1 := hr.nk.ks.1
  have hc2 := hr.nk.ks.2.1
  rw [hl] at hc1
  unfold nda
  rw [hk, hl, hka]
  clear hr hlen hS har hk hT1 hl1 hT2 hl2 hT3 hl3 hT4 hl4 hcell hka hl hnm
  generalize kidN x 0 = q0 at *
  generalize x.nm = xn at *
  generalize x.v = xv at *
  generalize x.kc = xc at *
  generalize x.ka = xa at *
  generalize x.fr = xf at *
  generalize x.en = xe at *
  generalize l.length = ln at *
  subst hv1
  have HB0 : Hid (BsR w0 b (.slice ao ln c) t W #[.int .i64 7, .string xn, .int .i64 1, .slice (some ⟨g0, o0, none⟩) 1 xc, .int .i64 xf, .int .i64 xe] (W.alloc (.cells #[.int .i64 7, .string xn, .int .i64 1, .slice (some ⟨g0, o0, none⟩) 1 xc, .int .i64 xf, .int .i64 xe] 53))) := BsR.start HS.out _
  have r00 : (W.alloc (.cells #[.int .i64 7, .string xn, .int .i64 1, .slice (some ⟨g0, o0, none⟩) 1 xc, .int .i64 xf, .int .i64 xe] 53)).cell? ⟨g0, o0, none⟩ = some (.int .i64 q0) := HX.out _ HB0.out.st.bl
  go_enter Tryz.func49, Tryz.ntmps49
  go_wp2_with fail
  refine (HC1.out _ HB0.out.st).mono ?_
  rintro e w1 ⟨rfl, hE⟩
  have HB1 : Hid (BsR w0 b (.slice ao ln c) T1 W #[.int .i64 7, .string xn, .int .i64 1, .slice (some ⟨g0, o0, none⟩) 1 xc, .int .i64 xf, .int .i64 xe] w1) := HB0.out.put hE
  clear hE
  obtain ⟨d10, d11, d12, d13, d14, d15⟩ := box6 HB1.out.bx
  have r10 := HX.out w1 HB1.out.st.bl
  go_wp2_with fail
  refine (HC2.out _ HB1.out.st).mono ?_
  rintro e w2 ⟨rfl, hE⟩
  have HB2 : Hid (BsR w0 b (.slice ao ln c) T2 W #[.int .i64 7, .string xn, .int .i64 1, .slice (some ⟨g0, o0, none⟩) 1 xc, .int .i64 xf, .int .i64 xe] w2) := HB1.out.put hE
  clear hE
  obtain ⟨d20, d21, d22, d23, d24, d25⟩ := box6 HB2.out.bx
  have r20 := HX.out w2 HB2.out.st.bl
  go_wp2_with fail
  refine (HC3.out _ HB2.out.st).mono ?_
  rintro e w3 ⟨rfl, hE⟩
  have HB3 : Hid (BsR w0 b (.slice ao ln c) T3 W #[.int .i64 7, .string xn, .int .i64 1, .slice (some ⟨g0, o0, none⟩) 1 xc, .int .i64 xf, .int .i64 xe] w3) := HB2.out.put hE
  clear hE
  obtain ⟨d30, d31, d32, d33, d34, d35⟩ := box6 HB3.out.bx
  have r30 := HX.out w3 HB3.out.st.bl
  go_wp2_with fail
  refine (HC4.out _ HB3.out.st).mono ?_
  rintro e w4 ⟨rfl, hE⟩
  have HB4 : Hid (BsR w0 b (.slice ao ln c) T4 W #[.int .i64 7, .string xn, .int .i64 1, .slice (some ⟨g0, o0, none⟩) 1 xc, .int .i64 xf, .int .i64 xe] w4) := HB3.out.put hE
  clear hE
  have HE : Hid (PoR w0 b (.slice ao ln c) T4 W w4) := HB4.out.pos
  clear HB4
  go_wp2
  go_end0
  exact ⟨rfl, HE.out⟩
set_option maxRecDepth 100000 in
set_option maxHeartbeats 4000000 in
theorem rf_7b (w0 : World) (b : Nat) (ao : Option Addr) (c : Nat) (l : List Nd) (nt : Nat → Tks) (K : Nat) (x : Nd) (hk : x.k = 7) (hr : NdR w0 b ao c l nt K x) (hnm : x.nm.data.toList ≠ []) (hv0 : ¬ x.v = 1) : PrR w0 b (.slice ao l.length c) l nt 49 x (prtK l x 7) := by
  intro t W hS hlen
  have har : arB 7 x.ks.length = true := by have := hr.nk.ar; rw [hk] at this; exact this
  have hl : x.ks.length = 1 := by simpa [arB] using har
  have hE0 : run t (psT nt l (prtK l x 7)) = run (run (run t [x.nm.data.toList]) [[58]]) (nt (kidN x 0)) := by
    simp only [prtK, psT, Pt.tk, run_app, List.append_nil, mutS_0 hv0, run_e]
  rw [hE0] at hlen ⊢
  clear hE0
  obtain ⟨T1, hT1⟩ : ∃ T, run t [x.nm.data.toList] = T := ⟨_, rfl⟩
  rw [hT1] at hlen ⊢
  obtain ⟨T2, hT2⟩ : ∃ T, run T1 [[58]] = T := ⟨_, rfl⟩
  rw [hT2] at hlen ⊢
  obtain ⟨T3, hT3⟩ : ∃ T, run T2 (nt (kidN x 0)) = T := ⟨_, rfl⟩
  rw [hT3] at hlen ⊢
  have hl3 : T3.length ≤ 140737488355328 := hlen
  have hl2 : T2.length ≤ 140737488355328 := Nat.le_trans (run_le _ _) (by rw [hT3]; exact hl3)
  have hl1 : T1.length ≤ 140737488355328 := Nat.le_trans (run_le _ _) (by rw [hT2]; exact hl2)
  have HC1 : Hid (∀ W, RSt w0 b (.slice ao l.length c) t W → Calls Tryz.prog 53 #[.pointer (some ⟨b, 0, none⟩), .string x.nm] W fun e w' => e = .returned (.tuple #[]) ∧ PoR w0 b (.slice ao l.length c) T1 W w') := rput_h (s := x.nm) hnm hT1 hl1
  have HC2 : Hid (∀ W, RSt w0 b (.slice ao l.length c) T1 W → Calls Tryz.prog 53 #[.pointer (some ⟨b, 0, none⟩), .string ⟨#[58]⟩] W fun e w' => e = .returned (.tuple #[]) ∧ PoR w0 b (.slice ao l.length c) T2 W w') := rput_h (s := ⟨#[58]⟩) (by simp) hT2 hl2
  have HC3 : Hid (∀ W, RSt w0 b (.slice ao l.length c) T2 W → Calls Tryz.prog 29 #[.pointer (some ⟨b, 0, none⟩), .int .i64 (kidN x 0 : Nat)] W fun e w' => e = .returned (.tuple #[]) ∧ PoR w0 b (.slice ao l.length c) T3 W w') := rnode_h (hr.kid 0 (by omega)) hT3 hl3
  have HS : Hid (RSt w0 b (.slice ao l.length c) t W) := hS
  obtain ⟨g0, o0, hka, hcell⟩ := hr.nk.addr (by omega)
  have HX : Hid (∀ W, Below w0.heap.size w0 W → W.cell? ⟨g0, o0, none⟩ = some (.int .i64 (kidN x 0 : Nat))) := fun W hW => hcell W hW 0 (by omega)
  have hc1 := hr.nk.ks.1
  have hc2 := hr.nk.ks.2.1
  rw [hl] at hc1
  unfold nda
  rw [hk, hl, hka]
  clear hr hlen hS har hk hT1 hl1 hT2 hl2 hT3 hl3 hcell hka hl hnm
  generalize kidN x 0 = q0 at *
  generalize x.nm = xn at *
  generalize x.v = xv at *
  generalize x.kc = xc at *
  generalize x.ka = xa at *
  generalize x.fr = xf at *
  generalize x.en = xe at *
  generalize l.length = ln at *
  have hvb : (xv == 1) = false := by simpa using hv0
  have HB0 : Hid (BsR w0 b (.slice ao ln c) t W #[.int .i64 7, .string xn, .int .i64 xv, .slice (some ⟨g0, o0, none⟩) 1 xc, .int .i64 xf, .int .i64 xe] (W.alloc (.cells #[.int .i64 7, .string xn, .int .i64 xv, .slice (some ⟨g0, o0, none⟩) 1 xc, .int .i64 xf, .int .i64 xe] 53))) := BsR.start HS.out _
  have r00 : (W.alloc (.cells #[.int .i64 7, .string xn, .int .i64 xv, .slice (some ⟨g0, o0, none⟩) 1 xc, .int .i64 xf, .int .i64 xe] 53)).cell? ⟨g0, o0, none⟩ = some (.int .i64 q0) := HX.out _ HB0.out.st.bl
  go_enter Tryz.func49, Tryz.ntmps49
  go_wp2_with fail
  refine (HC1.out _ HB0.out.st).mono ?_
  rintro e w1 ⟨rfl, hE⟩
  have HB1 : Hid (BsR w0 b (.slice ao ln c) T1 W #[.int .i64 7, .string xn, .int .i64 xv, .slice (some ⟨g0, o0, none⟩) 1 xc, .int .i64 xf, .int .i64 xe] w1) := HB0.out.put hE
  clear hE
  obtain ⟨d10, d11, d12, d13, d14, d15⟩ := box6 HB1.out.bx
  have r10 := HX.out w1 HB1.out.st.bl
  go_wp2_with fail
  refine (HC2.out _ HB1.out.st).mono ?_
  rintro e w2 ⟨rfl, hE⟩
  have HB2 : Hid (BsR w0 b (.slice ao ln c) T2 W #[.int .i64 7, .string xn, .int .i64 xv, .slice (some ⟨g0, o0, none⟩) 1 xc, .int .i64 xf, .int .i64 xe] w2) := HB1.out.put hE
  clear hE
  obtain ⟨d20, d21, d22, d23, d24, d25⟩ := box6 HB2.out.bx
  have r20 := HX.out w2 HB2.out.st.bl
  go_wp2_with fail
  refine (HC3.out _ HB2.out.st).mono ?_
  rintro e w3 ⟨rfl, hE⟩
  have HB3 : Hid (BsR w0 b (.slice ao ln c) T3 W #[.int .i64 7, .string xn, .int .i64 xv, .slice (some ⟨g0, o0, none⟩) 1 xc, .int .i64 xf, .int .i64 xe] w3) := HB2.out.put hE
  clear hE
  have HE : Hid (PoR w0 b (.slice ao ln c) T3 W w3) := HB3.out.pos
  clear HB3
  go_wp2
  go_end0
  exact ⟨rfl, HE.out⟩
set_option maxRecDepth 100000 in
set_option maxHeartbeats 4000000 in
theorem rf_6a (w0 : World) (b : Nat) (ao : Option Addr) (c : Nat) (l : List Nd) (nt : Nat → Tks) (K : Nat) (x : Nd) (hk : x.k = 6) (hr : NdR w0 b ao c l nt K x) (hnm : x.nm.data.toList ≠ []) (hl : x.ks.length = 0) : PrR w0 b (.slice ao l.length c) l nt 49 x (prtK l x 6) := by
  intro t W hS hlen
  have har : arB 6 x.ks.length = true := by have := hr.nk.ar; rw [hk] at this; exact this
  have hE0 : run t (psT nt l (prtK l x 6)) = run t [x.nm.data.toList] := by
    have e0 : x.ks = [] := List.eq_nil_of_length_eq_zero hl
    simp only [prtK, psT, Pt.tk, List.append_nil, e0, if_true]
  rw [hE0] at hlen ⊢
  clear hE0
  obtain ⟨T1, hT1⟩ : ∃ T, run t [x.nm.data.toList] = T := ⟨_, rfl⟩
  rw [hT1] at hlen ⊢
  have hl1 : T1.length ≤ 140737488355328 := hlen
  have HC1 : Hid (∀ W, RSt w0 b (.slice ao l.length c) t W → Calls Tryz.prog 53 #[.pointer (some ⟨b, 0, none⟩), .string x.nm] W fun e w' => e = .returned (.tuple #[]) ∧ PoR w0 b (.slice ao l.length c) T1 W w') := rput_h (s := x.nm) hnm hT1 hl1
  have HS : Hid (RSt w0 b (.slice ao l.length c) t W) := hS
  have hc1 := hr.nk.ks.1
  have hc2 := hr.nk.ks.2.1
  rw [hl] at hc1
  unfold nda
  rw [hk, hl]
  clear hr hlen hS har hk hT1 hl1 hl hnm
  generalize x.nm = xn at *
  generalize x.v = xv at *
  generalize x.kc = xc at *
  generalize x.ka = xa at *
  generalize x.fr = xf at *
  generalize x.en = xe at *
  generalize l.length = ln at *
  have HB0 : Hid (BsR w0 b (.slice ao ln c) t W #[.int .i64 6, .string xn, .int .i64 xv, .slice xa 0 xc, .int .i64 xf, .int .i64 xe] (W.alloc (.cells #[.int .i64 6, .string xn, .int .i64 xv, .slice xa 0 xc, .int .i64 xf, .int .i64 xe] 53))) := BsR.start HS.out _
  go_enter Tryz.func49, Tryz.ntmps49
  go_wp2_with fail
  refine (HC1.out _ HB0.out.st).mono ?_
  rintro e w1 ⟨rfl, hE⟩
  have HB1 : Hid (BsR w0 b (.slice ao ln c) T1 W #[.int .i64 6, .string xn, .int .i64 xv, .slice xa 0 xc, .int .i64 xf, .int .i64 xe] w1) := HB0.out.put hE
  clear hE
  obtain ⟨d10, d11, d12, d13, d14, d15⟩ := box6 HB1.out.bx
  have HE : Hid (PoR w0 b (.slice ao ln c) T1 W w1) := HB1.out.pos
  clear HB1
  go_wp2
  go_end0
  exact ⟨rfl, HE.out⟩
set_option maxRecDepth 100000 in
set_option maxHeartbeats 4000000 in
theorem rf_6b (w0 : World) (b : Nat) (ao : Option Addr) (c : Nat) (l : List Nd) (nt : Nat → Tks) (K : Nat) (x : Nd) (hk : x.k = 6) (hr : NdR w0 b ao c l nt K x) (hnm : x.nm.data.toList ≠ []) (hl : x.ks.length = 1) : PrR w0 b (.slice ao l.length c) l nt 49 x (prtK l x 6) := by
  intro t W hS hlen
  have har : arB 6 x.ks.length = true := by have := hr.nk.ar; rw [hk] at this; exact this
  have hE0 : run t (psT nt l (prtK l x 6)) = run (run (run (run t [x.nm.data.toList]) [[40]]) (nt (kidN x 0))) [[41]] := by
    have e1 := list1 (fun y hy => (hr.nk.hin y hy).1) hl
    simp only [prtK, psT, Pt.tk]
    rw [if_neg (by rw [e1]; simp), e1]
    simp only [seqT, Int.toNat_natCast, List.append_nil, run_app]
    rw [show ([40] :: (nt (kidN x 0) ++ [[41]]) : Tks) = [[40]] ++ (nt (kidN x 0) ++ [[41]]) from rfl, run_app, run_app]
  rw [hE0] at hlen ⊢
  clear hE0
  obtain ⟨T1, hT1⟩ : ∃ T, run t [x.nm.data.toList] = T := ⟨_, rfl⟩
  rw [hT1] at hlen ⊢
  obtain ⟨T2, hT2⟩ : ∃ T, run T1 [[40]] = T := ⟨_, rfl⟩
  rw [hT2] at hlen ⊢
  obtain ⟨T3, hT3⟩ : ∃ T, run T2 (nt (kidN x 0)) = T := ⟨_, rfl⟩
  rw [hT3] at hlen ⊢
  obtain ⟨T4, hT4⟩ : ∃ T, run T3 [[41]] = T := ⟨_, rfl⟩
  rw [hT4] at hlen ⊢
  have hl4 : T4.length ≤ 140737488355328 := hlen
  have hl3 : T3.length ≤ 140737488355328 := Nat.le_trans (run_le _ _) (by rw [hT4]; exact hl4)
  have hl2 : T2.length ≤ 140737488355328 := Nat.le_trans (run_le _ _) (by rw [hT3]; exact hl3)
  have hl1 : T1.length ≤ 140737488355328 := Nat.le_trans (run_le _ _) (by rw [hT2]; exact hl2)
  have HC1 : Hid (∀ W, RSt w0 b (.slice ao l.length c) t W → Calls Tryz.prog 53 #[.pointer (some ⟨b, 0, none⟩), .string x.nm] W fun e w' => e = .returned (.tuple #[]) ∧ PoR w0 b (.slice ao l.length c) T1 W w') := rput_h (s := x.nm) hnm hT1 hl1
  have HC2 : Hid (∀ W, RSt w0 b (.slice ao l.length c) T1 W → Calls Tryz.prog 53 #[.pointer (some ⟨b, 0, none⟩), .string ⟨#[40]⟩] W fun e w' => e = .returned (.tuple #[]) ∧ PoR w0 b (.slice ao l.length c) T2 W w') := rput_h (s := ⟨#[40]⟩) (by simp) hT2 hl2
  have HC3 : Hid (∀ W, RSt w0 b (.slice ao l.length c) T2 W → Calls Tryz.prog 29 #[.pointer (some ⟨b, 0, none⟩), .int .i64 (kidN x 0 : Nat)] W fun e w' => e = .returned (.tuple #[]) ∧ PoR w0 b (.slice ao l.length c) T3 W w') := rnode_h (hr.kid 0 (by omega)) hT3 hl3
  have HC4 : Hid (∀ W, RSt w0 b (.slice ao l.length c) T3 W → Calls Tryz.prog 53 #[.pointer (some ⟨b, 0, none⟩), .string ⟨#[41]⟩] W fun e w' => e = .returned (.tuple #[]) ∧ PoR w0 b (.slice ao l.length c) T4 W w') := rput_h (s := ⟨#[41]⟩) (by simp) hT4 hl4
  have HS : Hid (RSt w0 b (.slice ao l.length c) t W) := hS
  obtain ⟨g0, o0, hka, hcell⟩ := hr.nk.addr (by omega)
  have HX : Hid (∀ W, Below w0.heap.size w0 W → W.cell? ⟨g0, o0, none⟩ = some (.int .i64 (kidN x 0 : Nat))) := fun W hW => hcell W hW 0 (by omega)
  have hc1 := hr.nk.ks.1
  have hc2 := hr.nk.ks.2.1
  rw [hl] at hc1
  unfold nda
  rw [hk, hl, hka]
  clear hr hlen hS har hk hT1 hl1 hT2 hl2 hT3 hl3 hT4 hl4 hcell hka hl hnm
  generalize kidN x 0 = q0 at *
  generalize x.nm = xn at *
  generalize x.v = xv at *
  generalize x.kc = xc at *
  generalize x.ka = xa at *
  generalize x.fr = xf at *
  generalize x.en = xe at *
  generalize l.length = ln at *
  have HB0 : Hid (BsR w0 b (.slice ao ln c) t W #[.int .i64 6, .string xn, .int .i64 xv, .slice (some ⟨g0, o0, none⟩) 1 xc, .int .i64 xf, .int .i64 xe] (W.alloc (.cells #[.int .i64 6, .string xn, .int .i64 xv, .slice (some ⟨g0, o0, none⟩) 1 xc, .int .i64 xf, .int .i64 xe] 53))) := BsR.start HS.out _
  have r00 : (W.alloc (.cells #[.int .i64 6, .string xn, .int .i64 xv, .slice (some ⟨g0, o0, none⟩) 1 xc, .int .i64 xf, .int .i64 xe] 53)).cell? ⟨g0, o0, none⟩ = some (.int .i64 q0) := HX.out _ HB0.out.st.bl
  go_enter Tryz.func49, Tryz.ntmps49
  go_wp2_with fail
  refine (HC1.out _ HB0.out.st).mono ?_
  rintro e w1 ⟨rfl, hE⟩
  have HB1 : Hid (BsR w0 b (.slice ao ln c) T1 W #[.int .i64 6, .string xn, .int .i64 xv, .slice (some ⟨g0, o0, none⟩) 1 xc, .int .i64 xf, .int .i64 xe] w1) := HB0.out.put hE
  clear hE
  obtain ⟨d10, d11, d12, d13, d14, d15⟩ := box6 HB1.out.bx
  have r10 := HX.out w1 HB1.out.st.bl
  go_wp2_with fail
  refine (HC2.out _ HB1.out.st).mono ?_
  rintro e w2 ⟨rfl, hE⟩
  have HB2 : Hid (BsR w0 b (.slice ao ln c) T2 W #[.int .i64 6, .string xn, .int .i64 xv, .slice (some ⟨g0, o0, none⟩) 1 xc, .int .i64 xf, .int .i64 xe] w2) := HB1.out.put hE
  clear hE
  obtain ⟨d20, d21, d22, d23, d24, d25⟩ := box6 HB2.out.bx
  have r20 := HX.out w2 HB2.out.st.bl
  go_wp2_with fail
  refine (HC3.out _ HB2.out.st).mono ?_
  rintro e w3 ⟨rfl, hE⟩
  have HB3 : Hid (BsR w0 b (.slice ao ln c) T3 W #[.int .i64 6, .string xn, .int .i64 xv, .slice (some ⟨g0, o0, none⟩) 1 xc, .int .i64 xf, .int .i64 xe] w3) := HB2.out.put hE
  clear hE
  obtain ⟨d30, d31, d32, d33, d34, d35⟩ := box6 HB3.out.bx
  have r30 := HX.out w3 HB3.out.st.bl
  go_wp2_with fail
  refine (HC4.out _ HB3.out.st).mono ?_
  rintro e w4 ⟨rfl, hE⟩
  have HB4 : Hid (BsR w0 b (.slice ao ln c) T4 W #[.int .i64 6, .string xn, .int .i64 xv, .slice (some ⟨g0, o0, none⟩) 1 xc, .int .i64 xf, .int .i64 xe] w4) := HB3.out.put hE
  clear hE
  have HE : Hid (PoR w0 b (.slice ao ln c) T4 W w4) := HB4.out.pos
  clear HB4
  go_wp2
  go_end0
  exact ⟨rfl, HE.out⟩
end
section
open Go.RowKit Go.Shelf
set_option maxRecDepth 100000 in
set_option maxHeartbeats 4000000 in
theorem rf_22 (w0 : World) (b : Nat) (ao : Option Addr) (c : Nat) (l : List Nd) (nt : Nat → Tks) (K : Nat) (x : Nd) (hk : x.k = 22) (hr : NdR w0 b ao c l nt K x) (hl : x.ks.length = 1) : PrR w0 b (.slice ao l.length c) l nt 52 x (prtK l x 22) := by
  intro t W hS hlen
  have har : arB 22 x.ks.length = true := by have := hr.nk.ar; rw [hk] at this; exact this
  have hE0 : run t (psT nt l (prtK l x 22)) = run (run t (nt (kidN x 0))) [[59]] := by
    have e1 := list1 (fun y hy => (hr.nk.hin y hy).1) hl
    simp only [prtK, psT, Pt.tk, run_app, List.append_nil]
    rw [e1]
    simp only [seqT, Int.toNat_natCast, List.append_nil]
  rw [hE0] at hlen ⊢
  clear hE0
  obtain ⟨T1, hT1⟩ : ∃ T, run t (nt (kidN x 0)) = T := ⟨_, rfl⟩
  rw [hT1] at hlen ⊢
  obtain ⟨T2, hT2⟩ : ∃ T, run T1 [[59]] = T := ⟨_, rfl⟩
  rw [hT2] at hlen ⊢
  have hl2 : T2.length ≤ 140737488355328 := hlen
  have hl1 : T1.length ≤ 140737488355328 := Nat.le_trans (run_le _ _) (by rw [hT2]; exact hl2)
  have HC1 : Hid (∀ W, RSt w0 b (.slice ao l.length c) t W → Calls Tryz.prog 29 #[.pointer (some ⟨b, 0, none⟩), .int .i64 (kidN x 0 : Nat)] W fun e w' => e = .returned (.tuple #[]) ∧ PoR w0 b (.slice ao l.length c) T1 W w') := rnode_h (hr.kid 0 (by omega)) hT1 hl1
  have HC2 : Hid (∀ W, RSt w0 b (.slice ao l.length c) T1 W → Calls Tryz.prog 53 #[.pointer (some ⟨b, 0, none⟩), .string ⟨#[59]⟩] W fun e w' => e = .returned (.tuple #[]) ∧ PoR w0 b (.slice ao l.length c) T2 W w') := rput_h (s := ⟨#[59]⟩) (by simp) hT2 hl2
  have HS : Hid (RSt w0 b (.slice ao l.length c) t W) := hS
  obtain ⟨g0, o0, hka, hcell⟩ := hr.nk.addr (by omega)
  have HX : Hid (∀ W, Below w0.heap.size w0 W → W.cell? ⟨g0, o0, none⟩ = some (.int .i64 (kidN x 0 : Nat))) := fun W hW => hcell W hW 0 (by omega)
  have hc1 := hr.nk.ks.1
  have hc2 := hr.nk.ks.2.1
  rw [hl] at hc1
  unfold nda
  rw [hk, hl, hka]
  clear hr hlen hS har hk hT1 hl1 hT2 hl2 hcell hka hl
  generalize kidN x 0 = q0 at *
  generalize x.nm = xn at *
  generalize x.v = xv at *
  generalize x.kc = xc at *
  generalize x.ka = xa at *
  generalize x.fr = xf at *
  generalize x.en = xe at *
  generalize l.length = ln at *
  have HB0 : Hid (BsR w0 b (.slice ao ln c) t W #[.int .i64 22, .string xn, .int .i64 xv, .slice (some ⟨g0, o0, none⟩) 1 xc, .int .i64 xf, .int .i64 xe] (W.alloc (.cells #[.int .i64 22, .string xn, .int .i64 xv, .slice (some ⟨g0, o0, none⟩) 1 xc, .int .i64 xf, .int .i64 xe] 53))) := BsR.start HS.out _
  have r00 : (W.alloc (.cells #[.int .i64 22, .string xn, .int .i64 xv, .slice (some ⟨g0, o0, none⟩) 1 xc, .int .i64 xf, .int .i64 xe] 53)).cell? ⟨g0, o0, none⟩ = some (.int .i64 q0) := HX.out _ HB0.out.st.bl
  go_enter Tryz.func52, Tryz.ntmps52
  go_wp2_with fail
  refine (HC1.out _ HB0.out.st).mono ?_
  rintro e w1 ⟨rfl, hE⟩
  have HB1 : Hid (BsR w0 b (.slice ao ln c) T1 W #[.int .i64 22, .string xn, .int .i64 xv, .slice (some ⟨g0, o0, none⟩) 1 xc, .int .i64 xf, .int .i64 xe] w1) := HB0.out.put hE
  clear hE
  obtain ⟨d10, d11, d12, d13, d14, d15⟩ := box6 HB1.out.bx
  have r10 := HX.out w1 HB1.out.st.bl
  go_wp2_with fail
  refine (HC2.out _ HB1.out.st).mono ?_
  rintro e w2 ⟨rfl, hE⟩
  have HB2 : Hid (BsR w0 b (.slice ao ln c) T2 W #[.int .i64 22, .string xn, .int .i64 xv, .slice (some ⟨g0, o0, none⟩) 1 xc, .int .i64 xf, .int .i64 xe] w2) := HB1.out.put hE
  clear hE
  have HE : Hid (PoR w0 b (.slice ao ln c) T2 W w2) := HB2.out.pos
  clear HB2
  go_wp2
  go_end0
  exact ⟨rfl, HE.out⟩
set_option maxRecDepth 100000 in
set_option maxHeartbeats 4000000 in
theorem rf_23 (w0 : World) (b : Nat) (ao : Option Addr) (c : Nat) (l : List Nd) (nt : Nat → Tks) (K : Nat) (x : Nd) (hk : x.k = 23) (hr : NdR w0 b ao c l nt K x) : PrR w0 b (.slice ao l.length c) l nt 52 x (prtK l x 23) := by
  intro t W hS hlen
  have har : arB 23 x.ks.length = true := by have := hr.nk.ar; rw [hk] at this; exact this
  have hl : x.ks.length = 2 := by simpa [arB] using har
  have hE0 : run t (psT nt l (prtK l x 23)) = run (run (run (run t (brT nt l 17762910994432 (kidN x 0))) [[61]]) (brT nt l 17762910994432 (kidN x 1))) [[59]] := by
    simp only [prtK, psT, Pt.tk, run_app, List.append_nil]
  rw [hE0] at hlen ⊢
  clear hE0
  obtain ⟨T1, hT1⟩ : ∃ T, run t (brT nt l 17762910994432 (kidN x 0)) = T := ⟨_, rfl⟩
  rw [hT1] at hlen ⊢
  obtain ⟨T2, hT2⟩ : ∃ T, run T1 [[61]] = T := ⟨_, rfl⟩
  rw [hT2] at hlen ⊢
  obtain ⟨T3, hT3⟩ : ∃ T, run T2 (brT nt l 17762910994432 (kidN x 1)) = T := ⟨_, rfl⟩
  rw [hT3] at hlen ⊢
  obtain ⟨T4, hT4⟩ : ∃ T, run T3 [[59]] = T := ⟨_, rfl⟩
  rw [hT4] at hlen ⊢
  have hl4 : T4.length ≤ 140737488355328 := hlen
  have hl3 : T3.length ≤ 140737488355328 := Nat.le_trans (run_le _ _) (by rw [hT4]; exact hl4)
  have hl2 : T2.length ≤ 140737488355328 := Nat.le_trans (run_le _ _) (by rw [hT3]; exact hl3)
  have hl1 : T1.length ≤ 140737488355328 := Nat.le_trans (run_le _ _) (by rw [hT2]; exact hl2)
  have HC1 : Hid (∀ W, RSt w0 b (.slice ao l.length c) t W → Calls Tryz.prog 56 #[.pointer (some ⟨b, 0, none⟩), .int .i64 (kidN x 0 : Nat), .bool false] W fun e w' => e = .returned (.tuple #[]) ∧ PoR w0 b (.slice ao l.length c) T1 W w') := roper_ah hr.hl (hr.kl 0 (by omega)) (hr.kid 0 (by omega)) hT1 hl1
  have HC2 : Hid (∀ W, RSt w0 b (.slice ao l.length c) T1 W → Calls Tryz.prog 53 #[.pointer (some ⟨b, 0, none⟩), .string ⟨#[61]⟩] W fun e w' => e = .returned (.tuple #[]) ∧ PoR w0 b (.slice ao l.length c) T2 W w') := rput_h (s := ⟨#[61]⟩) (by simp) hT2 hl2
  have HC3 : Hid (∀ W, RSt w0 b (.slice ao l.length c) T2 W → Calls Tryz.prog 56 #[.pointer (some ⟨b, 0, none⟩), .int .i64 (kidN x 1 : Nat), .bool false] W fun e w' => e = .returned (.tuple #[]) ∧ PoR w0 b (.slice ao l.length c) T3 W w') := roper_ah hr.hl (hr.kl 1 (by omega)) (hr.kid 1 (by omega)) hT3 hl3
  have HC4 : Hid (∀ W, RSt w0 b (.slice ao l.length c) T3 W → Calls Tryz.prog 53 #[.pointer (some ⟨b, 0, none⟩), .string ⟨#[59]⟩] W fun e w' => e = .returned (.tuple #[]) ∧ PoR w0 b (.slice ao l.length c) T4 W w') := rput_h (s := ⟨#[59]⟩) (by simp) hT4 hl4
  have HS : Hid (RSt w0 b (.slice ao l.length c) t W) := hS
  obtain ⟨g0, o0, hka, hcell⟩ := hr.nk.addr (by omega)
  have HX : Hid (∀ W, Below w0.heap.size w0 W → W.cell? ⟨g0, o0, none⟩ = some (.int .i64 (kidN x 0 : Nat)) ∧ W.cell? ⟨g0, o0 + 1, none⟩ = some (.int .i64 (kidN x 1 : Nat))) := fun W hW => ⟨hcell W hW 0 (by omega), hcell W hW 1 (by omega)⟩
  have hc1 := hr.nk.ks.1
  have hc2 := hr.nk.ks.2.1
  rw [hl] at hc1
  unfold nda
  rw [hk, hl, hka]
  clear hr hlen hS har hk hT1 hl1 hT2 hl2 hT3 hl3 hT4 hl4 hcell hka hl
  generalize kidN x 0 = q0 at *
  generalize kidN x 1 = q1 at *
  generalize x.nm = xn at *
  generalize x.v = xv at *
  generalize x.kc = xc at *
  generalize x.ka = xa at *
  generalize x.fr = xf at *
  generalize x.en = xe at *
  generalize l.length = ln at *
  have HB0 : Hid (BsR w0 b (.slice ao ln c) t W #[.int .i64 23, .string xn, .int .i64 xv, .slice (some ⟨g0, o0, none⟩) 2 xc, .int .i64 xf, .int .i64 xe] (W.alloc (.cells #[.int .i64 23, .string xn, .int .i64 xv, .slice (some ⟨g0, o0, none⟩) 2 xc, .int .i64 xf, .int .i64 xe] 53))) := BsR.start HS.out _
  have r00 : (W.alloc (.cells #[.int .i64 23, .string xn, .int .i64 xv, .slice (some ⟨g0, o0, none⟩) 2 xc, .int .i64 xf, .int .i64 xe] 53)).cell? ⟨g0, o0, none⟩ = some (.int .i64 q0) := (HX.out _ HB0.out.st.bl).1
  have r01 : (W.alloc (.cells #[.int .i64 23, .string xn, .int .i64 xv, .slice (some ⟨g0, o0, none⟩) 2 xc, .int .i64 xf, .int .i64 xe] 53)).cell? ⟨g0, o0 + 1, none⟩ = some (.int .i64 q1) := (HX.out _ HB0.out.st.bl).2
  go_enter Tryz.func52, Tryz.ntmps52
  go_wp2_with fail
  refine (HC1.out _ HB0.out.st).mono ?_
  rintro e w1 ⟨rfl, hE⟩
  have HB1 : Hid (BsR w0 b (.slice ao ln c) T1 W #[.int .i64 23, .string xn, .int .i64 xv, .slice (some ⟨g0, o0, none⟩) 2 xc, .int .i64 xf, .int .i64 xe] w1) := HB0.out.put hE
  clear hE
  obtain ⟨d10, d11, d12, d13, d14, d15⟩ := box6 HB1.out.bx
  obtain ⟨r10, r11⟩ := HX.out w1 HB1.out.st.bl
  go_wp2_with fail
  refine (HC2.out _ HB1.out.st).mono ?_
  rintro e w2 ⟨rfl, hE⟩
  have HB2 : Hid (BsR w0 b (.slice ao ln c) T2 W #[.int .i64 23, .string xn, .int .i64 xv, .slice (some ⟨g0, o0, none⟩) 2 xc, .int .i64 xf, .int .i64 xe] w2) := HB1.out.put hE
  clear hE
  obtain ⟨d20, d21, d22, d23, d24, d25⟩ := box6 HB2.out.bx
  obtain ⟨r20, r21⟩ := HX.out w2 HB2.out.st.bl
  go_wp2_with fail
  refine (HC3.out _ HB2.out.st).mono ?_
  rintro e w3 ⟨rfl, hE⟩
  have HB3 : Hid (BsR w0 b (.slice ao ln c) T3 W #[.int .i64 23, .string xn, .int .i64 xv, .slice (some ⟨g0, o0, none⟩) 2 xc, .int .i64 xf, .int .i64 xe] w3) := HB2.out.put hE
  clear hE
  obtain ⟨d30, d31, d32, d33, d34, d35⟩ := box6 HB3.out.bx
  obtain ⟨r30, r31⟩ := HX.out w3 HB3.out.st.bl
  go_wp2_with fail
  refine (HC4.out _ HB3.out.st).mono ?_
  rintro e w4 ⟨rfl, hE⟩
  have HB4 : Hid (BsR w0 b (.slice ao ln c) T4 W #[.int .i64 23, .string xn, .int .i64 xv, .slice (some ⟨g0, o0, none⟩) 2 xc, .int .i64 xf, .int .i64 xe] w4) := HB3.out.put hE
  clear hE
  have HE : Hid (PoR w0 b (.slice ao ln c) T4 W w4) := HB4.out.pos
  clear HB4
  go_wp2
  go_end0
  exact ⟨rfl, HE.out⟩
set_option maxRecDepth 100000 in
set_option maxHeartbeats 4000000 in
theorem rf_24 (w0 : World) (b : Nat) (ao : Option Addr) (c : Nat) (l : List Nd) (nt : Nat → Tks) (K : Nat) (x : Nd) (hk : x.k = 24) (hr : NdR w0 b ao c l nt K x) : PrR w0 b (.slice ao l.length c) l nt 52 x (prtK l x 24) := by
  intro t W hS hlen
  have har : arB 24 x.ks.length = true := by have := hr.nk.ar; rw [hk] at this; exact this
  have hl : x.ks.length = 2 := by simpa [arB] using har
  have hE0 : run t (psT nt l (prtK l x 24)) = run (run (run t [[119, 104, 105, 108, 101]]) (brT nt l 17762910994432 (kidN x 0))) (nt (kidN x 1)) := by
    simp only [prtK, psT, Pt.tk, run_app, List.append_nil]
  rw [hE0] at hlen ⊢
  clear hE0
  obtain ⟨T1, hT1⟩ : ∃ T, run t [[119, 104, 105, 108, 101]] = T := ⟨_, rfl⟩
  rw [hT1] at hlen ⊢
  obtain ⟨T2, hT2⟩ : ∃ T, run T1 (brT nt l 17762910994432 (kidN x 0)) = T := ⟨_, rfl⟩
  rw [hT2] at hlen ⊢
  obtain ⟨T3, hT3⟩ : ∃ T, run T2 (nt (kidN x 1)) = T := ⟨_, rfl⟩
  rw [hT3] at hlen ⊢
  have hl3 : T3.length ≤ 140737488355328 := hlen
  have hl2 : T2.length ≤ 140737488355328 := Nat.le_trans (run_le _ _) (by rw [hT3]; exact hl3)
  have hl1 : T1.length ≤ 140737488355328 := Nat.le_trans (run_le _ _) (by rw [hT2]; exact hl2)
  have HC1 : Hid (∀ W, RSt w0 b (.slice ao l.length c) t W → Calls Tryz.prog 53 #[.pointer (some ⟨b, 0, none⟩), .string ⟨#[119, 104, 105, 108, 101]⟩] W fun e w' => e = .returned (.tuple #[]) ∧ PoR w0 b (.slice ao l.length c) T1 W w') := rput_h (s := ⟨#[119, 104, 105, 108, 101]⟩) (by simp) hT1 hl1
  have HC2 : Hid (∀ W, RSt w0 b (.slice ao l.length c) T1 W → Calls Tryz.prog 56 #[.pointer (some ⟨b, 0, none⟩), .int .i64 (kidN x 0 : Nat), .bool false] W fun e w' => e = .returned (.tuple #[]) ∧ PoR w0 b (.slice ao l.length c) T2 W w') := roper_ah hr.hl (hr.kl 0 (by omega)) (hr.kid 0 (by omega)) hT2 hl2
  have HC3 : Hid (∀ W, RSt w0 b (.slice ao l.length c) T2 W → Calls Tryz.prog 29 #[.pointer (some ⟨b, 0, none⟩), .int .i64 (kidN x 1 : Nat)] W fun e w' => e = .returned (.tuple #[]) ∧ PoR w0 b (.slice ao l.length c) T3 W w') := rnode_h (hr.kid 1 (by omega)) hT3 hl3
  have HS : Hid (RSt w0 b (.slice ao l.length c) t W) := hS
  obtain ⟨g0, o0, hka, hcell⟩ := hr.nk.addr (by omega)
  have HX : Hid (∀ W, Below w0.heap.size w0 W → W.cell? ⟨g0, o0, none⟩ = some (.int .i64 (kidN x 0 : Nat)) ∧ W.cell? ⟨g0, o0 + 1, none⟩ = some (.int .i64 (kidN x 1 : Nat))) := fun W hW => ⟨hcell W hW 0 (by omega), hcell W hW 1 (by omega)⟩
  have hc1 := hr.nk.ks.1
  have hc2 := hr.nk.ks.2.1
  rw [hl] at hc1
  unfold nda
  rw [hk, hl, hka]
  clear hr hlen hS har hk hT1 hl1 hT2 hl2 hT3 hl3 hcell hka hl
  generalize kidN x 0 = q0 at *
  generalize kidN x 1 = q1 at *
  generalize x.nm = xn at *
  generalize x.v = xv at *
  generalize x.kc = xc at *
  generalize x.ka = xa at *
  generalize x.fr = xf at *
  generalize x.en = xe at *
  generalize l.length = ln at *
  have HB0 : Hid (BsR w0 b (.slice ao ln c) t W #[.int .i64 24, .string xn, .int .i64 xv, .slice (some ⟨g0, o0, none⟩) 2 xc, .int .i64 xf, .int .i64 xe] (W.alloc (.cells #[.int .i64 24, .string xn, .int .i64 xv, .slice (some ⟨g0, o0, none⟩) 2 xc, .int .i64 xf, .int .i64 xe] 53))) := BsR.start HS.out _
  have r00 : (W.alloc (.cells #[.int .i64 24, .string xn, .int .i64 xv, .slice (some ⟨g0, o0, none⟩) 2 xc, .int .i64 xf, .int .i64 xe] 53)).cell? ⟨g0, o0, none⟩ = some (.int .i64 q0) := (HX.out _ HB0.out.st.bl).1
  have r01 : (W.alloc (.cells #[.int .i64 24, .string xn, .int .i64 xv, .slice (some ⟨g0, o0, none⟩) 2 xc, .int .i64 xf, .int .i64 xe] 53)).cell? ⟨g0, o0 + 1, none⟩ = some (.int .i64 q1) := (HX.out _ HB0.out.st.bl).2
  go_enter Tryz.func52, Tryz.ntmps52
  go_wp2_with fail
  refine (HC1.out _ HB0.out.st).mono ?_
  rintro e w1 ⟨rfl, hE⟩
  have HB1 : Hid (BsR w0 b (.slice ao ln c) T1 W #[.int .i64 24, .string xn, .int .i64 xv, .slice (some ⟨g0, o0, none⟩) 2 xc, .int .i64 xf, .int .i64 xe] w1) := HB0.out.put hE
  clear hE
  obtain ⟨d10, d11, d12, d13, d14, d15⟩ := box6 HB1.out.bx
  obtain ⟨r10, r11⟩ := HX.out w1 HB1.out.st.bl
  go_wp2_with fail
  refine (HC2.out _ HB1.out.st).mono ?_
  rintro e w2 ⟨rfl, hE⟩
  have HB2 : Hid (BsR w0 b (.slice ao ln c) T2 W #[.int .i64 24, .string xn, .int .i64 xv, .slice (some ⟨g0, o0, none⟩) 2 xc, .int .i64 xf, .int .i64 xe] w2) := HB1.out.put hE
  clear hE
  obtain ⟨d20, d21, d22, d23, d24, d25⟩ := box6 HB2.out.bx
  obtain ⟨r20, r21⟩ := HX.out w2 HB2.out.st.bl
  go_wp2_with fail
  refine (HC3.out _ HB2.out.st).mono ?_
  rintro e w3 ⟨rfl, hE⟩
  have HB3 : Hid (BsR w0 b (.slice ao ln c) T3 W #[.int .i64 24, .string xn, .int .i64 xv, .slice (some ⟨g0, o0, none⟩) 2 xc, .int .i64 xf, .int .i64 xe] w3) := HB2.out.put hE
  clear hE
  have HE : Hid (PoR w0 b (.slice ao ln c) T3 W w3) := HB3.out.pos
  clear HB3
  go_wp2
  refine bodyPost_ret (results_none rfl _ _ _) rfl ?_
  exact ⟨rfl, HE.out⟩
set_option maxRecDepth 100000 in
set_option maxHeartbeats 4000000 in
theorem rf_25a (w0 : World) (b : Nat) (ao : Option Addr) (c : Nat) (l : List Nd) (nt : Nat → Tks) (K : Nat) (x : Nd) (hk : x.k = 25) (hr : NdR w0 b ao c l nt K x) (hl : x.ks.length = 0) : PrR w0 b (.slice ao l.length c) l nt 52 x (prtK l x 25) := by
  intro t W hS hlen
  have har : arB 25 x.ks.length = true := by have := hr.nk.ar; rw [hk] at this; exact this
  have hE0 : run t (psT nt l (prtK l x 25)) = run (run t [[114, 101, 116, 117, 114, 110]]) [[59]] := by
    have e0 : x.ks = [] := List.eq_nil_of_length_eq_zero hl
    simp only [prtK, psT, Pt.tk, run_app, List.append_nil, e0, seqT, run_nil]
  rw [hE0] at hlen ⊢
  clear hE0
  obtain ⟨T1, hT1⟩ : ∃ T, run t [[114, 101, 116, 117, 114, 110]] = T := ⟨_, rfl⟩
  rw [hT1] at hlen ⊢
  obtain ⟨T2, hT2⟩ : ∃ T, run T1 [[59]] = T := ⟨_, rfl⟩
  rw [hT2] at hlen ⊢
  have hl2 : T2.length ≤ 140737488355328 := hlen
  have hl1 : T1.length ≤ 140737488355328 := Nat.le_trans (run_le _ _) (by rw [hT2]; exact hl2)
  have HC1 : Hid (∀ W, RSt w0 b (.slice ao l.length c) t W → Calls Tryz.prog 53 #[.pointer (some ⟨b, 0, none⟩), .string ⟨#[114, 101, 116, 117, 114, 110]⟩] W fun e w' => e = .returned (.tuple #[]) ∧ PoR w0 b (.slice ao l.length c) T1 W w') := rput_h (s := ⟨#[114, 101, 116, 117, 114, 110]⟩) (by simp) hT1 hl1
  have HC2 : Hid (∀ W, RSt w0 b (.slice ao l.length c) T1 W → Calls Tryz.prog 53 #[.pointer (some ⟨b, 0, none⟩), .string ⟨#[59]⟩] W fun e w' => e = .returned (.tuple #[]) ∧ PoR w0 b (.slice ao l.length c) T2 W w') := rput_h (s := ⟨#[59]⟩) (by simp) hT2 hl2
  have HS : Hid (RSt w0 b (.slice ao l.length c) t W) := hS
  have hc1 := hr.nk.ks.1
  have hc2 := hr.nk.ks.2.1
  rw [hl] at hc1
  unfold nda
  rw [hk, hl]
  clear hr hlen hS har hk hT1 hl1 hT2 hl2 hl
  generalize x.nm = xn at *
  generalize x.v = xv at *
  generalize x.kc = xc at *
  generalize x.ka = xa at *
  generalize x.fr = xf at *
  generalize x.en = xe at *
  generalize l.length = ln at *
  have HB0 : Hid (BsR w0 b (.slice ao ln c) t W #[.int .i64 25, .string xn, .int .i64 xv, .slice xa 0 xc, .int .i64 xf, .int .i64 xe] (W.alloc (.cells #[.int .i64 25, .string xn, .int .i64 xv, .slice xa 0 xc, .int .i64 xf, .int .i64 xe] 53))) := BsR.start HS.out _
  go_enter Tryz.func52, Tryz.ntmps52
  go_wp2_with fail
  refine (HC1.out _ HB0.out.st).mono ?_
  rintro e w1 ⟨rfl, hE⟩
  have HB1 : Hid (BsR w0 b (.slice ao ln c) T1 W #[.int .i64 25, .string xn, .int .i64 xv, .slice xa 0 xc, .int .i64 xf, .int .i64 xe] w1) := HB0.out.put hE
  clear hE
  obtain ⟨d10, d11, d12, d13, d14, d15⟩ := box6 HB1.out.bx
  go_wp2_with fail
  refine (HC2.out _ HB1.out.st).mono ?_
  rintro e w2 ⟨rfl, hE⟩
  have HB2 : Hid (BsR w0 b (.slice ao ln c) T2 W #[.int .i64 25, .string xn, .int .i64 xv, .slice xa 0 xc, .int .i64 xf, .int .i64 xe] w2) := HB1.out.put hE
  clear hE
  have HE : Hid (PoR w0 b (.slice ao ln c) T2 W w2) := HB2.out.pos
  clear HB2
  go_wp2
  go_end0
  exact ⟨rfl, HE.out⟩
set_option maxRecDepth 100000 in
set_option maxHeartbeats 4000000 in
theorem rf_25b (w0 : World) (b : Nat) (ao : Option Addr) (c : Nat) (l : List Nd) (nt : Nat → Tks) (K : Nat) (x : Nd) (hk : x.k = 25) (hr : NdR w0 b ao c l nt K x) (hl : x.ks.length = 1) : PrR w0 b (.slice ao l.length c) l nt 52 x (prtK l x 25) := by
  intro t W hS hlen
  have har : arB 25 x.ks.length = true := by have := hr.nk.ar; rw [hk] at this; exact this
  have hE0 : run t (psT nt l (prtK l x 25)) = run (run (run t [[114, 101, 116, 117, 114, 110]]) (nt (kidN x 0))) [[59]] := by
    have e1 := list1 (fun y hy => (hr.nk.hin y hy).1) hl
    simp only [prtK, psT, Pt.tk, run_app, List.append_nil]
    rw [e1]
    simp only [seqT, Int.toNat_natCast, List.append_nil]
  rw [hE0] at hlen ⊢
  clear hE0
  obtain ⟨T1, hT1⟩ : ∃ T, run t [[114, 101, 116, 117, 114, 110]] = T := ⟨_, rfl⟩
  rw [hT1] at hlen ⊢
  obtain ⟨T2, hT2⟩ : ∃ T, run T1 (nt (kidN x 0)) = T := ⟨_, rfl⟩
  rw [hT2] at hlen ⊢
  obtain ⟨T3, hT3⟩ : ∃ T, run T2 [[59]] = T := ⟨_, rfl⟩
  rw [hT3] at hlen ⊢
  have hl3 : T3.length ≤ 140737488355328 := hlen
  have hl2 : T2.length ≤ 140737488355328 := Nat.le_trans (run_le _ _) (by rw [hT3]; exact hl3)
  have hl1 : T1.length ≤ 140737488355328 := Nat.le_trans (run_le _ _) (by rw [hT2]; exact hl2)
  have HC1 : Hid (∀ W, RSt w0 b (.slice ao l.length c) t W → Calls Tryz.prog 53 #[.pointer (some ⟨b, 0, none⟩), .string ⟨#[114, 101, 116, 117, 114, 110]⟩] W fun e w' => e = .returned (.tuple #[]) ∧ PoR w0 b (.slice ao l.length c) T1 W w') := rput_h (s := ⟨#[114, 101, 116, 117, 114, 110]⟩) (by simp) hT1 hl1
  have HC2 : Hid (∀ W, RSt w0 b (.slice ao l.length c) T1 W → Calls Tryz.prog 29 #[.pointer (some ⟨b, 0, none⟩), .int .i64 (kidN x 0 : Nat)] W fun e w' => e = .returned (.tuple #[]) ∧ PoR w0 b (.slice ao l.length c) T2 W w') := rnode_h (hr.kid 0 (by omega)) hT2 hl2
  have HC3 : Hid (∀ W, RSt w0 b (.slice ao l.length c) T2 W → Calls Tryz.prog 53 #[.pointer (some ⟨b, 0, none⟩), .string ⟨#[59]⟩] W fun e w' => e = .returned (.tuple #[]) ∧ PoR w0 b (.slice ao l.length c) T3 W w') := rput_h (s := ⟨#[59]⟩) (by simp) hT3 hl3
  have HS : Hid (RSt w0 b (.slice ao l.length c) t W) := hS
  obtain ⟨g0, o0, hka, hcell⟩ := hr.nk.addr (by omega)
  have HX : Hid (∀ W, Below w0.heap.size w0 W → W.cell? ⟨g0, o0, none⟩ = some (.int .i64 (kidN x 0 : Nat))) := fun W hW => hcell W hW 0 (by omega)
  have hc1 := hr.nk.ks.1
  have hc2 := hr.nk.ks.2.1
  rw [hl] at hc1
  unfold nda
  rw [hk, hl, hka]
  clear hr hlen hS har hk hT1 hl1 hT2 hl2 hT3 hl3 hcell hka hl
  generalize kidN x 0 = q0 at *
  generalize x.nm = xn at *
  generalize x.v = xv at *
  generalize x.kc = xc at *
  generalize x.ka = xa at *
  generalize x.fr = xf at *
  generalize x.en = xe at *
  generalize l.length = ln at *
  have HB0 : Hid (BsR w0 b (.slice ao ln c) t W #[.int .i64 25, .string xn, .int .i64 xv, .slice (some ⟨g0, o0, none⟩) 1 xc, .int .i64 xf, .int .i64 xe] (W.alloc (.cells #[.int .i64 25, .string xn, .int .i64 xv, .slice (some ⟨g0, o0, none⟩) 1 xc, .int .i64 xf, .int .i64 xe] 53))) := BsR.start HS.out _
  have r00 : (W.alloc (.cells #[.int .i64 25, .string xn, .int .i64 xv, .slice (some ⟨g0, o0, none⟩) 1 xc, .int .i64 xf, .int .i64 xe] 53)).cell? ⟨g0, o0, none⟩ = some (.int .i64 q0) := HX.out _ HB0.out.st.bl
  go_enter Tryz.func52, Tryz.ntmps52
  go_wp2_with fail
  refine (HC1.out _ HB0.out.st).mono ?_
  rintro e w1 ⟨rfl, hE⟩
  have HB1 : Hid (BsR w0 b (.slice ao ln c) T1 W #[.int .i64 25, .string xn, .int .i64 xv, .slice (some ⟨g0, o0, none⟩) 1 xc, .int .i64 xf, .int .i64 xe] w1) := HB0.out.put hE
  clear hE
  obtain ⟨d10, d11, d12, d13, d14, d15⟩ := box6 HB1.out.bx
  have r10 := HX.out w1 HB1.out.st.bl
  go_wp2_with fail
  refine (HC2.out _ HB1.out.st).mono ?_
  rintro e w2 ⟨rfl, hE⟩
  have HB2 : Hid (BsR w0 b (.slice ao ln c) T2 W #[.int .i64 25, .string xn, .int .i64 xv, .slice (some ⟨g0, o0, none⟩) 1 xc, .int .i64 xf, .int .i64 xe] w2) := HB1.out.put hE
  clear hE
  obtain ⟨d20, d21, d22, d23, d24, d25⟩ := box6 HB2.out.bx
  have r20 := HX.out w2 HB2.out.st.bl
  go_wp2_with fail
  refine (HC3.out _ HB2.out.st).mono ?_
  rintro e w3 ⟨rfl, hE⟩
  have HB3 : Hid (BsR w0 b (.slice ao ln c) T3 W #[.int .i64 25, .string xn, .int .i64 xv, .slice (some ⟨g0, o0, none⟩) 1 xc, .int .i64 xf, .int .i64 xe] w3) := HB2.out.put hE
  clear hE
  have HE : Hid (PoR w0 b (.slice ao ln c) T3 W w3) := HB3.out.pos
  clear HB3
  go_wp2
  go_end0
  exact ⟨rfl, HE.out⟩
set_option maxRecDepth 100000 in
set_option maxHeartbeats 4000000 in
theorem rf_26 (w0 : World) (b : Nat) (ao : Option Addr) (c : Nat) (l : List Nd) (nt : Nat → Tks) (K : Nat) (x : Nd) (hk : x.k = 26) (hr : NdR w0 b ao c l nt K x) : PrR w0 b (.slice ao l.length c) l nt 52 x (prtK l x 26) := by
  intro t W hS hlen
  have har : arB 26 x.ks.length = true := by have := hr.nk.ar; rw [hk] at this; exact this
  have hl : x.ks.length = 0 := by simpa [arB] using har
  have hE0 : run t (psT nt l (prtK l x 26)) = run (run t [[98, 114, 101, 97, 107]]) [[59]] := by
    simp only [prtK, psT, Pt.tk, run_app, List.append_nil]
  rw [hE0] at hlen ⊢
  clear hE0
  obtain ⟨T1, hT1⟩ : ∃ T, run t [[98, 114, 101, 97, 107]] = T := ⟨_, rfl⟩
  rw [hT1] at hlen ⊢
  obtain ⟨T2, hT2⟩ : ∃ T, run T1 [[59]] = T := ⟨_, rfl⟩
  rw [hT2] at hlen ⊢
  have hl2 : T2.length ≤ 140737488355328 := hlen
  have hl1 : T1.length ≤ 140737488355328 := Nat.le_trans (run_le _ _) (by rw [hT2]; exact hl2)
  have HC1 : Hid (∀ W, RSt w0 b (.slice ao l.length c) t W → Calls Tryz.prog 53 #[.pointer (some ⟨b, 0, none⟩), .string ⟨#[98, 114, 101, 97, 107]⟩] W fun e w' => e = .returned (.tuple #[]) ∧ PoR w0 b (.slice ao l.length c) T1 W w') := rput_h (s := ⟨#[98, 114, 101, 97, 107]⟩) (by simp) hT1 hl1
  have HC2 : Hid (∀ W, RSt w0 b (.slice ao l.length c) T1 W → Calls Tryz.prog 53 #[.pointer (some ⟨b, 0, none⟩), .string ⟨#[59]⟩] W fun e w' => e = .returned (.tuple #[]) ∧ PoR w0 b (.slice ao l.length c) T2 W w') := rput_h (s := ⟨#[59]⟩) (by simp) hT2 hl2
  have HS : Hid (RSt w0 b (.slice ao l.length c) t W) := hS
  have hc1 := hr.nk.ks.1
  have hc2 := hr.nk.ks.2.1
  rw [hl] at hc1
  unfold nda
  rw [hk, hl]
  clear hr hlen hS har hk hT1 hl1 hT2 hl2 hl
  generalize x.nm = xn at *
  generalize x.v = xv at *
  generalize x.kc = xc at *
  generalize x.ka = xa at *
  generalize x.fr = xf at *
  generalize x.en = xe at *
  generalize l.length = ln at *
  have HB0 : Hid (BsR w0 b (.slice ao ln c) t W #[.int .i64 26, .string xn, .int .i64 xv, .slice xa 0 xc, .int .i64 xf, .int .i64 xe] (W.alloc (.cells #[.int .i64 26, .string xn, .int .i64 xv, .slice xa 0 xc, .int .i64 xf, .int .i64 xe] 53))) := BsR.start HS.out _
  go_enter Tryz.func52, Tryz.ntmps52
  go_wp2_with fail
  refine (HC1.out _ HB0.out.st).mono ?_
  rintro e w1 ⟨rfl, hE⟩
  have HB1 : Hid (BsR w0 b (.slice ao ln c) T1 W #[.int .i64 26, .string xn, .int .i64 xv, .slice xa 0 xc, .int .i64 xf, .int .i64 xe] w1) := HB0.out.put hE
  clear hE
  obtain ⟨d10, d11, d12, d13, d14, d15⟩ := box6 HB1.out.bx
  go_wp2_with fail
  refine (HC2.out _ HB1.out.st).mono ?_
  rintro e w2 ⟨rfl, hE⟩
  have HB2 : Hid (BsR w0 b (.slice ao ln c) T2 W #[.int .i64 26, .string xn, .int .i64 xv, .slice xa 0 xc, .int .i64 xf, .int .i64 xe] w2) := HB1.out.put hE
  clear hE
  have HE : Hid (PoR w0 b (.slice ao ln c) T2 W w2) := HB2.out.pos
  clear HB2
  go_wp2
  go_end0
  exact ⟨rfl, HE.out⟩
set_option maxRecDepth 100000 in
set_option maxHeartbeats 4000000 in
theorem rf_27 (w0 : World) (b : Nat) (ao : Option Addr) (c : Nat) (l : List Nd) (nt : Nat → Tks) (K : Nat) (x : Nd) (hk : x.k = 27) (hr : NdR w0 b ao c l nt K x) : PrR w0 b (.slice ao l.length c) l nt 52 x (prtK l x 27) := by
  intro t W hS hlen
  have har : arB 27 x.ks.length = true := by have := hr.nk.ar; rw [hk] at this; exact this
  have hl : x.ks.length = 0 := by simpa [arB] using har
  have hE0 : run t (psT nt l (prtK l x 27)) = run (run t [[99, 111, 110, 116, 105, 110, 117, 101]]) [[59]] := by
    simp only [prtK, psT, Pt.tk, run_app, List.append_nil]
  rw [hE0] at hlen ⊢
  clear hE0
  obtain ⟨T1, hT1⟩ : ∃ T, run t [[99, 111, 110, 116, 105, 110, 117, 101]] = T := ⟨_, rfl⟩
  rw [hT1] at hlen ⊢
  obtain ⟨T2, hT2⟩ : ∃ T, run T1 [[59]] = T := ⟨_, rfl⟩
  rw [hT2] at hlen ⊢
  have hl2 : T2.length ≤ 140737488355328 := hlen
  have hl1 : T1.length ≤ 140737488355328 := Nat.le_trans (run_le _ _) (by rw [hT2]; exact hl2)
  have HC1 : Hid (∀ W, RSt w0 b (.slice ao l.length c) t W → Calls Tryz.prog 53 #[.pointer (some ⟨b, 0, none⟩), .string ⟨#[99, 111, 110, 116, 105, 110, 117, 101]⟩] W fun e w' => e = .returned (.tuple #[]) ∧ PoR w0 b (.slice ao l.length c) T1 W w') := rput_h (s := ⟨#[99, 111, 110, 116, 105, 110, 117, 101]⟩) (by simp) hT1 hl1
  have HC2 : Hid (∀ W, RSt w0 b (.slice ao l.length c) T1 W → Calls Tryz.prog 53 #[.pointer (some ⟨b, 0, none⟩), .string ⟨#[59]⟩] W fun e w' => e = .returned (.tuple #[]) ∧ PoR w0 b (.slice ao l.length c) T2 W w') := rput_h (s := ⟨#[59]⟩) (by simp) hT2 hl2
  have HS : Hid (RSt w0 b (.slice ao l.length c) t W) := hS
  have hc1 := hr.nk.ks.1
  have hc2 := hr.nk.ks.2.1
  rw [hl] at hc1
  unfold nda
  rw [hk, hl]
  clear hr hlen hS har hk hT1 hl1 hT2 hl2 hl
  generalize x.nm = xn at *
  generalize x.v = xv at *
  generalize x.kc = xc at *
  generalize x.ka = xa at *
  generalize x.fr = xf at *
  generalize x.en = xe at *
  generalize l.length = ln at *
  have HB0 : Hid (BsR w0 b (.slice ao ln c) t W #[.int .i64 27, .string xn, .int .i64 xv, .slice xa 0 xc, .int .i64 xf, .int .i64 xe] (W.alloc (.cells #[.int .i64 27, .string xn, .int .i64 xv, .slice xa 0 xc, .int .i64 xf, .int .i64 xe] 53))) := BsR.start HS.out _
  go_enter Tryz.func52, Tryz.ntmps52
  go_wp2_with fail
  refine (HC1.out _ HB0.out.st).mono ?_
  rintro e w1 ⟨rfl, hE⟩
  have HB1 : Hid (BsR w0 b (.slice ao ln c) T1 W #[.int .i64 27, .string xn, .int .i64 xv, .slice xa 0 xc, .int .i64 xf, .int .i64 xe] w1) := HB0.out.put hE
  clear hE
  obtain ⟨d10, d11, d12, d13, d14, d15⟩ := box6 HB1.out.bx
  go_wp2_with fail
  refine (HC2.out _ HB1.out.st).mono ?_
  rintro e w2 ⟨rfl, hE⟩
  have HB2 : Hid (BsR w0 b (.slice ao ln c) T2 W #[.int .i64 27, .string xn, .int .i64 xv, .slice xa 0 xc, .int .i64 xf, .int .i64 xe] w2) := HB1.out.put hE
  clear hE
  have HE : Hid (PoR w0 b (.slice ao ln c) T2 W w2) := HB2.out.pos
  clear HB2
  go_wp2
  go_end0
  exact ⟨rfl, HE.out⟩
end
end Go.Proofs.YtkkmeogehapjoaaGreatDoor
