/- The document: signs, calls put. The document: lets put. -/
import Derived.Test.YtkkmeogehapjoaaGreatDoorDD
namespace Go.Proofs.YtkkmeogehapjoaaGreatDoor
section
open Go.RowKit Go.Shelf
set_option maxRecDepth 100000 in
set_option maxHeartbeats 4000000 in
theorem rf_39 (w0 : World) (b : Nat) (ao : Option Addr) (c : Nat) (l : List Nd) (nt : Nat → Tks) (K : Nat) (x : Nd) (hk : x.k = 39) (hr : NdR w0 b ao c l nt K x) : PrR w0 b (.slice ao l.length c) l nt 59 x (prtK l x 39) := by
  intro t W hS hlen
  have har : arB 39 x.ks.length = true := by have := hr.nk.ar; rw [hk] at this; exact this
  have hl : x.ks.length = 1 := by simpa [arB] using har
  have hE0 : run t (psT nt l (prtK l x 39)) = run (run t [[45]]) (brT nt l 17762910994432 (kidN x 0)) := by
    simp only [prtK, psT, Pt.tk, run_app, List.append_nil]
  rw [hE0] at hlen ⊢
  clear hE0
  obtain ⟨T1, hT1⟩ : ∃ T, run t [[45]] = T := ⟨_, rfl⟩
  rw [hT1] at hlen ⊢
  obtain ⟨T2, hT2⟩ : ∃ T, run T1 (brT nt l 17762910994432 (kidN x 0)) = T := ⟨_, rfl⟩
  rw [hT2] at hlen ⊢
  have hl2 : T2.length ≤ 140737488355328 := hlen
  have hl1 : T1.length ≤ 140737488355328 := Nat.le_trans (run_le _ _) (by rw [hT2]; exact hl2)
  have HC1 : Hid (∀ W, RSt w0 b (.slice ao l.length c) t W → Calls Tryz.prog 53 #[.pointer (some ⟨b, 0, none⟩), .string ⟨#[45]⟩] W fun e w' => e = .returned (.tuple #[]) ∧ PoR w0 b (.slice ao l.length c) T1 W w') := rput_h (s := ⟨#[45]⟩) (by simp) hT1 hl1
  have HC2 : Hid (∀ W, RSt w0 b (.slice ao l.length c) T1 W → Calls Tryz.prog 56 #[.pointer (some ⟨b, 0, none⟩), .int .i64 (kidN x 0 : Nat), .bool false] W fun e w' => e = .returned (.tuple #[]) ∧ PoR w0 b (.slice ao l.length c) T2 W w') := roper_ah hr.hl (hr.kl 0 (by omega)) (hr.kid 0 (by omega)) hT2 hl2
  have HS : Hid (RSt w0 b (.slice ao l.length c) t W) := hS
  obtain ⟨g0, o0, hka, hcell⟩ := hr.nk.addr (by omega)
  have HX : Hid (∀ W, Below w0.heap.size w0 W → W.cell? ⟨g0, o0, none⟩ = some (.int .i64 (kidN x 0 : Nat))) := fun W hW => hcell W hW 0 (by omega)
  have hc1 := hr.nk.ks.1
  have hc2 := hr.nk.ks.2.1
  rw [hl] at hc1
  unfold nda
  rw [hk, hl, hka]
  clear hr hlen hS har hk hT1 hl1 hT2 hl2 hcell hka hl
  generalize kidN x 0 = q0 at *
  generalize x.nm = xn at *
  generalize x.v = xv at *
  generalize x.kc = xc at *
  generalize x.ka = xa at *
  generalize x.fr = xf at *
  generalize x.en = xe at *
  generalize l.length = ln at *
  have HB0 : Hid (BsR w0 b (.slice ao ln c) t W #[.int .i64 39, .string xn, .int .i64 xv, .slice (some ⟨g0, o0, none⟩) 1 xc, .int .i64 xf, .int .i64 xe] (W.alloc (.cells #[.int .i64 39, .string xn, .int .i64 xv, .slice (some ⟨g0, o0, none⟩) 1 xc, .int .i64 xf, .int .i64 xe] 53))) := BsR.start HS.out _
  have r00 : (W.alloc (.cells #[.int .i64 39, .string xn, .int .i64 xv, .slice (some ⟨g0, o0, none⟩) 1 xc, .int .i64 xf, .int .i64 xe] 53)).cell? ⟨g0, o0, none⟩ = some (.int .i64 q0) := HX.out _ HB0.out.st.bl
  go_enter Tryz.func59, Tryz.ntmps59
  go_wp2_with fail
  refine (HC1.out _ HB0.out.st).mono ?_
  rintro e w1 ⟨rfl, hE⟩
  have HB1 : Hid (BsR w0 b (.slice ao ln c) T1 W #[.int .i64 39, .string xn, .int .i64 xv, .slice (some ⟨g0, o0, none⟩) 1 xc, .int .i64 xf, .int .i64 xe] w1) := HB0.out.put hE
  clear hE
  obtain ⟨d10, d11, d12, d13, d14, d15⟩ := box6 HB1.out.bx
  have r10 := HX.out w1 HB1.out.st.bl
  go_wp2_with fail
  refine (HC2.out _ HB1.out.st).mono ?_
  rintro e w2 ⟨rfl, hE⟩
  have HB2 : Hid (BsR w0 b (.slice ao ln c) T2 W #[.int .i64 39, .string xn, .int .i64 xv, .slice (some ⟨g0, o0, none⟩) 1 xc, .int .i64 xf, .int .i64 xe] w2) := HB1.out.put hE
  clear hE
  have HE : Hid (PoR w0 b (.slice ao ln c) T2 W w2) := HB2.out.pos
  clear HB2
  go_wp2
  go_end0
  exact ⟨rfl, HE.out⟩
set_option maxRecDepth 100000 in
set_option maxHeartbeats 4000000 in
theorem rf_40 (w0 : World) (b : Nat) (ao : Option Addr) (c : Nat) (l : List Nd) (nt : Nat → Tks) (K : Nat) (x : Nd) (hk : x.k = 40) (hr : NdR w0 b ao c l nt K x) : PrR w0 b (.slice ao l.length c) l nt 59 x (prtK l x 40) := by
  intro t W hS hlen
  have har : arB 40 x.ks.length = true := by have := hr.nk.ar; rw [hk] at this; exact this
  have hl : x.ks.length = 1 := by simpa [arB] using har
  have hE0 : run t (psT nt l (prtK l x 40)) = run (run t [[33]]) (brT nt l 17762910994432 (kidN x 0)) := by
    simp only [prtK, psT, Pt.tk, run_app, List.append_nil]
  rw [hE0] at hlen ⊢
  clear hE0
  obtain ⟨T1, hT1⟩ : ∃ T, run t [[33]] = T := ⟨_, rfl⟩
  rw [hT1] at hlen ⊢
  obtain ⟨T2, hT2⟩ : ∃ T, run T1 (brT nt l 17762910994432 (kidN x 0)) = T := ⟨_, rfl⟩
  rw [hT2] at hlen ⊢
  have hl2 : T2.length ≤ 140737488355328 := hlen
  have hl1 : T1.length ≤ 140737488355328 := Nat.le_trans (run_le _ _) (by rw [hT2]; exact hl2)
  have HC1 : Hid (∀ W, RSt w0 b (.slice ao l.length c) t W → Calls Tryz.prog 53 #[.pointer (some ⟨b, 0, none⟩), .string ⟨#[33]⟩] W fun e w' => e = .returned (.tuple #[]) ∧ PoR w0 b (.slice ao l.length c) T1 W w') := rput_h (s := ⟨#[33]⟩) (by simp) hT1 hl1
  have HC2 : Hid (∀ W, RSt w0 b (.slice ao l.length c) T1 W → Calls Tryz.prog 56 #[.pointer (some ⟨b, 0, none⟩), .int .i64 (kidN x 0 : Nat), .bool false] W fun e w' => e = .returned (.tuple #[]) ∧ PoR w0 b (.slice ao l.length c) T2 W w') := roper_ah hr.hl (hr.kl 0 (by omega)) (hr.kid 0 (by omega)) hT2 hl2
  have HS : Hid (RSt w0 b (.slice ao l.length c) t W) := hS
  obtain ⟨g0, o0, hka, hcell⟩ := hr.nk.addr (by omega)
  have HX : Hid (∀ W, Below w0.heap.size w0 W → W.cell? ⟨g0, o0, none⟩ = some (.int .i64 (kidN x 0 : Nat))) := fun W hW => hcell W hW 0 (by omega)
  have hc1 := hr.nk.ks.1
  have hc2 := hr.nk.ks.2.1
  rw [hl] at hc1
  unfold nda
  rw [hk, hl, hka]
  clear hr hlen hS har hk hT1 hl1 hT2 hl2 hcell hka hl
  generalize kidN x 0 = q0 at *
  generalize x.nm = xn at *
  generalize x.v = xv at *
  generalize x.kc = xc at *
  generalize x.ka = xa at *
  generalize x.fr = xf at *
  generalize x.en = xe at *
  generalize l.length = ln at *
  have HB0 : Hid (BsR w0 b (.slice ao ln c) t W #[.int .i64 40, .string xn, .int .i64 xv, .slice (some ⟨g0, o0, none⟩) 1 xc, .int .i64 xf, .int .i64 xe] (W.alloc (.cells #[.int .i64 40, .string xn, .int .i64 xv, .slice (some ⟨g0, o0, none⟩) 1 xc, .int .i64 xf, .int .i64 xe] 53))) := BsR.start HS.out _
  have r00 : (W.alloc (.cells #[.int .i64 40, .string xn, .int .i64 xv, .slice (some ⟨g0, o0, none⟩) 1 xc, .int .i64 xf, .int .i64 xe] 53)).cell? ⟨g0, o0, none⟩ = some (.int .i64 q0) := HX.out _ HB0.out.st.bl
  go_enter Tryz.func59, Tryz.ntmps59
  go_wp2_with fail
  refine (HC1.out _ HB0.out.st).mono ?_
  rintro e w1 ⟨rfl, hE⟩
  have HB1 : Hid (BsR w0 b (.slice ao ln c) T1 W #[.int .i64 40, .string xn, .int .i64 xv, .slice (some ⟨g0, o0, none⟩) 1 xc, .int .i64 xf, .int .i64 xe] w1) := HB0.out.put hE
  clear hE
  obtain ⟨d10, d11, d12, d13, d14, d15⟩ := box6 HB1.out.bx
  have r10 := HX.out w1 HB1.out.st.bl
  go_wp2_with fail
  refine (HC2.out _ HB1.out.st).mono ?_
  rintro e w2 ⟨rfl, hE⟩
  have HB2 : Hid (BsR w0 b (.slice ao ln c) T2 W #[.int .i64 40, .string xn, .int .i64 xv, .slice (some ⟨g0, o0, none⟩) 1 xc, .int .i64 xf, .int .i64 xe] w2) := HB1.out.put hE
  clear hE
  have HE : Hid (PoR w0 b (.slice ao ln c) T2 W w2) := HB2.out.pos
  clear HB2
  go_wp2
  go_end0
  exact ⟨rfl, HE.out⟩
set_option maxRecDepth 100000 in
set_option maxHeartbeats 4000000 in
theorem rf_42 (w0 : World) (b : Nat) (ao : Option Addr) (c : Nat) (l : List Nd) (nt : Nat → Tks) (K : Nat) (x : Nd) (hk : x.k = 42) (hr : NdR w0 b ao c l nt K x) : PrR w0 b (.slice ao l.length c) l nt 59 x (prtK l x 42) := by
  intro t W hS hlen
  have har : arB 42 x.ks.length = true := by have := hr.nk.ar; rw [hk] at this; exact this
  have hl : x.ks.length = 1 := by simpa [arB] using har
  have hE0 : run t (psT nt l (prtK l x 42)) = run (run t [[42]]) (brT nt l 17762910994432 (kidN x 0)) := by
    simp only [prtK, psT, Pt.tk, run_app, List.append_nil]
  rw [hE0] at hlen ⊢
  clear hE0
  obtain ⟨T1, hT1⟩ : ∃ T, run t [[42]] = T := ⟨_, rfl⟩
  rw [hT1] at hlen ⊢
  obtain ⟨T2, hT2⟩ : ∃ T, run T1 (brT nt l 17762910994432 (kidN x 0)) = T := ⟨_, rfl⟩
  rw [hT2] at hlen ⊢
  have hl2 : T2.length ≤ 140737488355328 := hlen
  have hl1 : T1.length ≤ 140737488355328 := Nat.le_trans (run_le _ _) (by rw [hT2]; exact hl2)
  have HC1 : Hid (∀ W, RSt w0 b (.slice ao l.length c) t W → Calls Tryz.prog 53 #[.pointer (some ⟨b, 0, none⟩), .string ⟨#[42]⟩] W fun e w' => e = .returned (.tuple #[]) ∧ PoR w0 b (.slice ao l.length c) T1 W w') := rput_h (s := ⟨#[42]⟩) (by simp) hT1 hl1
  have HC2 : Hid (∀ W, RSt w0 b (.slice ao l.length c) T1 W → Calls Tryz.prog 56 #[.pointer (some ⟨b, 0, none⟩), .int .i64 (kidN x 0 : Nat), .bool false] W fun e w' => e = .returned (.tuple #[]) ∧ PoR w0 b (.slice ao l.length c) T2 W w') := roper_ah hr.hl (hr.kl 0 (by omega)) (hr.kid 0 (by omega)) hT2 hl2
  have HS : Hid (RSt w0 b (.slice ao l.length c) t W) := hS
  obtain ⟨g0, o0, hka, hcell⟩ := hr.nk.addr (by omega)
  have HX : Hid (∀ W, Below w0.heap.size w0 W → W.cell? ⟨g0, o0, none⟩ = some (.int .i64 (kidN x 0 : Nat))) := fun W hW => hcell W hW 0 (by omega)
  have hc1 := hr.nk.ks.1
  have hc2 := hr.nk.ks.2.1
  rw [hl] at hc1
  unfold nda
  rw [hk, hl, hka]
  clear hr hlen hS har hk hT1 hl1 hT2 hl2 hcell hka hl
  generalize kidN x 0 = q0 at *
  generalize x.nm = xn at *
  generalize x.v = xv at *
  generalize x.kc = xc at *
  generalize x.ka = xa at *
  generalize x.fr = xf at *
  generalize x.en = xe at *
  generalize l.length = ln at *
  have HB0 : Hid (BsR w0 b (.slice ao ln c) t W #[.int .i64 42, .string xn, .int .i64 xv, .slice (some ⟨g0, o0, none⟩) 1 xc, .int .i64 xf, .int .i64 xe] (W.alloc (.cells #[.int .i64 42, .string xn, .int .i64 xv, .slice (some ⟨g0, o0, none⟩) 1 xc, .int .i64 xf, .int .i64 xe] 53))) := BsR.start HS.out _
  have r00 : (W.alloc (.cells #[.int .i64 42, .string xn, .int .i64 xv, .slice (some ⟨g0, o0, none⟩) 1 xc, .int .i64 xf, .int .i64 xe] 53)).cell? ⟨g0, o0, none⟩ = some (.int .i64 q0) := HX.out _ HB0.out.st.bl
  go_enter Tryz.func59, Tryz.ntmps59
  go_wp2_with fail
  refine (HC1.out _ HB0.out.st).mono ?_
  rintro e w1 ⟨rfl, hE⟩
  have HB1 : Hid (BsR w0 b (.slice ao ln c) T1 W #[.int .i64 42, .string xn, .int .i64 xv, .slice (some ⟨g0, o0, none⟩) 1 xc, .int .i64 xf, .int .i64 xe] w1) := HB0.out.put hE
  clear hE
  obtain ⟨d10, d11, d12, d13, d14, d15⟩ := box6 HB1.out.bx
  have r10 := HX.out w1 HB1.out.st.bl
  go_wp2_with fail
  refine (HC2.out _ HB1.out.st).mono ?_
  rintro e w2 ⟨rfl, hE⟩
  have HB2 : Hid (BsR w0 b (.slice ao ln c) T2 W #[.int .i64 42, .string xn, .int .i64 xv, .slice (some ⟨g0, o0, none⟩) 1 xc, .int .i64 xf, .int .i64 xe] w2) := HB1.out.put hE
  clear hE
  have HE : Hid (PoR w0 b (.slice ao ln c) T2 W w2) := HB2.out.pos
  clear HB2
  go_wp2
  go_end0
  exact ⟨rfl, HE.out⟩
set_option maxRecDepth 100000 in
set_option maxHeartbeats 4000000 in
theorem rf_43a (w0 : World) (b : Nat) (ao : Option Addr) (c : Nat) (l : List Nd) (nt : Nat → Tks) (K : Nat) (x : Nd) (hk : x.k = 43) (hr : NdR w0 b ao c l nt K x) (hv1 : x.v = 1) : PrR w0 b (.slice ao l.length c) l nt 59 x (prtK l x 43) := by
  intro t W hS hlen
  have har : arB 43 x.ks.length = true := by have := hr.nk.ar; rw [hk] at this; exact this
  have hl : x.ks.length = 1 := by simpa [arB] using har
  have hE0 : run t (psT nt l (prtK l x 43)) = run (run (run t [[38]]) [[109, 117, 116]]) (brT nt l 17762910994432 (kidN x 0)) := by
    simp only [prtK, psT, Pt.tk, run_app, List.append_nil, hv1, mutS_1]
  rw [hE0] at hlen ⊢
  clear hE0
  obtain ⟨T1, hT1⟩ : ∃ T, run t [[38]] = T := ⟨_, rfl⟩
  rw [hT1] at hlen ⊢
  obtain ⟨T2, hT2⟩ : ∃ T, run T1 [[109, 117, 116]] = T := ⟨_, rfl⟩
  rw [hT2] at hlen ⊢
  obtain ⟨T3, hT3⟩ : ∃ T, run T2 (brT nt l 17762910994432 (kidN x 0)) = T := ⟨_, rfl⟩
  rw [hT3] at hlen ⊢
  have hl3 : T3.length ≤ 140737488355328 := hlen
  have hl2 : T2.length ≤ 140737488355328 := Nat.le_trans (run_le _ _) (by rw [hT3]; exact hl3)
  have hl1 : T1.length ≤ 140737488355328 := Nat.le_trans (run_le _ _) (by rw [hT2]; exact hl2)
  have HC1 : Hid (∀ W, RSt w0 b (.slice ao l.length c) t W → Calls Tryz.prog 53 #[.pointer (some ⟨b, 0, none⟩), .string ⟨#[38]⟩] W fun e w' => e = .returned (.tuple #[]) ∧ PoR w0 b (.slice ao l.length c) T1 W w') := rput_h (s := ⟨#[38]⟩) (by simp) hT1 hl1
  have HC2 : Hid (∀ W, RSt w0 b (.slice ao l.length c) T1 W → Calls Tryz.prog 53 #[.pointer (some ⟨b, 0, none⟩), .string ⟨#[109, 117, 116]⟩] W fun e w' => e = .returned (.tuple #[]) ∧ PoR w0 b (.slice ao l.length c) T2 W w') := rput_h (s := ⟨#[109, 117, 116]⟩) (by simp) hT2 hl2
  have HC3 : Hid (∀ W, RSt w0 b (.slice ao l.length c) T2 W → Calls Tryz.prog 56 #[.pointer (some ⟨b, 0, none⟩), .int .i64 (kidN x 0 : Nat), .bool false] W fun e w' => e = .returned (.tuple #[]) ∧ PoR w0 b (.slice ao l.length c) T3 W w') := roper_ah hr.hl (hr.kl 0 (by omega)) (hr.kid 0 (by omega)) hT3 hl3
  have HS : Hid (RSt w0 b (.slice ao l.length c) t W) := hS
  obtain ⟨g0, o0, hka, hcell⟩ := hr.nk.addr (by omega)
  have HX : Hid (∀ W, Below w0.heap.size w0 W → W.cell? ⟨g0, o0, none⟩ = some (.int .i64 (kidN x 0 : Nat))) := fun W hW => hcell W hW 0 (by omega)
  have hc1 := hr.nk.ks.1
  have hc2 := hr.nk.ks.2.1
  rw [hl] at hc1
  unfold nda
  rw [hk, hl, hka]
  clear hr hlen hS har hk hT1 hl1 hT2 hl2 hT3 hl3 hcell hka hl
  generalize kidN x 0 = q0 at *
  generalize x.nm = xn at *
  generalize x.v = xv at *
  generalize x.kc = xc at *
  generalize x.ka = xa at *
  generalize x.fr = xf at *
  generalize x.en = xe at *
  generalize l.length = ln at *
  subst hv1
  have HB0 : Hid (BsR w0 b (.slice ao ln c) t W #[.int .i64 43, .string xn, .int .i64 1, .slice (some ⟨g0, o0, none⟩) 1 xc, .int .i64 xf, .int .i64 xe] (W.alloc (.cells #[.int .i64 43, .string xn, .int .i64 1, .slice (some ⟨g0, o0, none⟩) 1 xc, .int .i64 xf, .int .i64 xe] 53))) := BsR.start HS.out _
  have r00 : (W.alloc (.cells #[.int .i64 43, .string xn, .int .i64 1, .slice (some ⟨g0, o0, none⟩) 1 xc, .int .i64 xf, .int .i64 xe] 53)).cell? ⟨g0, o0, none⟩ = some (.int .i64 q0) := HX.out _ HB0.out.st.bl
  go_enter Tryz.func59, Tryz.ntmps59
  go_wp2_with fail
  refine (HC1.out _ HB0.out.st).mono ?_
  rintro e w1 ⟨rfl, hE⟩
  have HB1 : Hid (BsR w0 b (.slice ao ln c) T1 W #[.int .i64 43, .string xn, .int .i64 1, .slice (some ⟨g0, o0, none⟩) 1 xc, .int .i64 xf, .int .i64 xe] w1) := HB0.out.put hE
  clear hE
  obtain ⟨d10, d11, d12, d13, d14, d15⟩ := box6 HB1.out.bx
  have r10 := HX.out w1 HB1.out.st.bl
  go_wp2_with fail
  refine (HC2.out _ HB1.out.st).mono ?_
  rintro e w2 ⟨rfl, hE⟩
  have HB2 : Hid (BsR w0 b (.slice ao ln c) T2 W #[.int .i64 43, .string xn, .int .i64 1, .slice (some ⟨g0, o0, none⟩) 1 xc, .int .i64 xf, .int .i64 xe] w2) := HB1.out.put hE
  clear hE
  obtain ⟨d20, d21, d22, d23, d24, d25⟩ := box6 HB2.out.bx
  have r20 := HX.out w2 HB2.out.st.bl
  go_wp2_with fail
  refine (HC3.out _ HB2.out.st).mono ?_
  rintro e w3 ⟨rfl, hE⟩
  have HB3 : Hid (BsR w0 b (.slice ao ln c) T3 W #[.int .i64 43, .string xn, .int .i64 1, .slice (some ⟨g0, o0, none⟩) 1 xc, .int .i64 xf, .int .i64 xe] w3) := HB2.out.put hE
  clear hE
  have HE : Hid (PoR w0 b (.slice ao ln c) T3 W w3) := HB3.out.pos
  clear HB3
  go_wp2
  go_end0
  exact ⟨rfl, HE.out⟩
set_option maxRecDepth 100000 in
set_option maxHeartbeats 4000000 in
theorem rf_43b (w0 : World) (b : Nat) (ao : Option Addr) (c : Nat) (l : List Nd) (nt : Nat → Tks) (K : Nat) (x : Nd) (hk : x.k = 43) (hr : NdR w0 b ao c l nt K x) (hv0 : ¬ x.v = 1) : PrR w0 b (.slice ao l.length c) l nt 59 x (prtK l x 43) := by
  intro t W hS hlen
  have har : arB 43 x.ks.length = true := by have := hr.nk.ar; rw [hk] at this; exact this
  have hl : x.ks.length = 1 := by simpa [arB] using har
  have hE0 : run t (psT nt l (prtK l x 43)) = run (run t [[38]]) (brT nt l 17762910994432 (kidN x 0)) := by
    simp only [prtK, psT, Pt.tk, run_app, List.append_nil, mutS_0 hv0, run_e]
  rw [hE0] at hlen ⊢
  clear hE0
  obtain ⟨T1, hT1⟩ : ∃ T, run t [[38]] = T := ⟨_, rfl⟩
  rw [hT1] at hlen ⊢
  obtain ⟨T2, hT2⟩ : ∃ T, run T1 (brT nt l 17762910994432 (kidN x 0)) = T := ⟨_, rfl⟩
  rw [hT2] at hlen ⊢
  have hl2 : T2.length ≤ 140737488355328 := hlen
  have hl1 : T1.length ≤ 140737488355328 := Nat.le_trans (run_le _ _) (by rw [hT2]; exact hl2)
  have HC1 : Hid (∀ W, RSt w0 b (.slice ao l.length c) t W → Calls Tryz.prog 53 #[.pointer (some ⟨b, 0, none⟩), .string ⟨#[38]⟩] W fun e w' => e = .returned (.tuple #[]) ∧ PoR w0 b (.slice ao l.length c) T1 W w') := rput_h (s := ⟨#[38]⟩) (by simp) hT1 hl1
  have HC2 : Hid (∀ W, RSt w0 b (.slice ao l.length c) T1 W → Calls Tryz.prog 56 #[.pointer (some ⟨b, 0, none⟩), .int .i64 (kidN x 0 : Nat), .bool false] W fun e w' => e = .returned (.tuple #[]) ∧ PoR w0 b (.slice ao l.length c) T2 W w') := roper_ah hr.hl (hr.kl 0 (by omega)) (hr.kid 0 (by omega)) hT2 hl2
  have HS : Hid (RSt w0 b (.slice ao l.length c) t W) := hS
  obtain ⟨g0, o0, hka, hcell⟩ := hr.nk.addr (by omega)
  have HX : Hid (∀ W, Below w0.heap.size w0 W → W.cell? ⟨g0, o0, none⟩ = some (.int .i64 (kidN x 0 : Nat))) := fun W hW => hcell W hW 0 (by omega)
  have hc1 := hr.nk.ks.1
  have hc2 := hr.nk.ks.2.1
  rw [hl] at hc1
  unfold nda
  rw [hk, hl, hka]
  clear hr hlen hS har hk hT1 hl1 hT2 hl2 hcell hka hl
  generalize kidN x 0 = q0 at *
  generalize x.nm = xn at *
  generalize x.v = xv at *
  generalize x.kc = xc at *
  generalize x.ka = xa at *
  generalize x.fr = xf at *
  generalize x.en = xe at *
  generalize l.length = ln at *
  have hvb : (xv == 1) = false := by simpa using hv0
  have HB0 : Hid (BsR w0 b (.slice ao ln c) t W #[.int .i64 43, .string xn, .int .i64 xv, .slice (some ⟨g0, o0, none⟩) 1 xc, .int .i64 xf, .int .i64 xe] (W.alloc (.cells #[.int .i64 43, .string xn, .int .i64 xv, .slice (some ⟨g0, o0, none⟩) 1 xc, .int .i64 xf, .int .i64 xe] 53))) := BsR.start HS.out _
  have r00 : (W.alloc (.cells #[.int .i64 43, .string xn, .int .i64 xv, .slice (some ⟨g0, o0, none⟩) 1 xc, .int .i64 xf, .int .i64 xe] 53)).cell? ⟨g0, o0, none⟩ = some (.int .i64 q0) := HX.out _ HB0.out.st.bl
  go_enter Tryz.func59, Tryz.ntmps59
  go_wp2_with fail
  refine (HC1.out _ HB0.out.st).mono ?_
  rintro e w1 ⟨rfl, hE⟩
  have HB1 : Hid (BsR w0 b (.slice ao ln c) T1 W #[.int .i64 43, .string xn, .int .i64 xv, .slice (some ⟨g0, o0, none⟩) 1 xc, .int .i64 xf, .int .i64 xe] w1) := HB0.out.put hE
  clear hE
  obtain ⟨d10, d11, d12, d13, d14, d15⟩ := box6 HB1.out.bx
  have r10 := HX.out w1 HB1.out.st.bl
  go_wp2_with fail
  refine (HC2.out _ HB1.out.st).mono ?_
  rintro e w2 ⟨rfl, hE⟩
  have HB2 : Hid (BsR w0 b (.slice ao ln c) T2 W #[.int .i64 43, .string xn, .int .i64 xv, .slice (some ⟨g0, o0, none⟩) 1 xc, .int .i64 xf, .int .i64 xe] w2) := HB1.out.put hE
  clear hE
  have HE : Hid (PoR w0 b (.slice ao ln c) T2 W w2) := HB2.out.pos
  clear HB2
  go_wp2
  go_end0
  exact ⟨rfl, HE.out⟩
set_option maxRecDepth 100000 in
set_option maxHeartbeats 4000000 in
theorem rf_34 (w0 : World) (b : Nat) (ao : Option Addr) (c : Nat) (l : List Nd) (nt : Nat → Tks) (K : Nat) (x : Nd) (hk : x.k = 34) (hr : NdR w0 b ao c l nt K x) (hnm : x.nm.data.toList ≠ []) : PrR w0 b (.slice ao l.length c) l nt 57 x (prtK l x 34) := by
  intro t W hS hlen
  have har : arB 34 x.ks.length = true := by have := hr.nk.ar; rw [hk] at this; exact this
  have hE0 : run t (psT nt l (prtK l x 34)) = run (run (run (run t [x.nm.data.toList]) [[40]]) (comT nt 0 x.ks)) [[41]] := by
    simp only [prtK, psT, Pt.tk, run_app, List.append_nil]
  rw [hE0] at hlen ⊢
  clear hE0
  obtain ⟨T1, hT1⟩ : ∃ T, run t [x.nm.data.toList] = T := ⟨_, rfl⟩
  rw [hT1] at hlen ⊢
  obtain ⟨T2, hT2⟩ : ∃ T, run T1 [[40]] = T := ⟨_, rfl⟩
  rw [hT2] at hlen ⊢
  obtain ⟨T3, hT3⟩ : ∃ T, run T2 (comT nt 0 x.ks) = T := ⟨_, rfl⟩
  rw [hT3] at hlen ⊢
  obtain ⟨T4, hT4⟩ : ∃ T, run T3 [[41]] = T := ⟨_, rfl⟩
  rw [hT4] at hlen ⊢
  have hl4 : T4.length ≤ 140737488355328 := hlen
  have hl3 : T3.length ≤ 140737488355328 := Nat.le_trans (run_le _ _) (by rw [hT4]; exact hl4)
  have hl2 : T2.length ≤ 140737488355328 := Nat.le_trans (run_le _ _) (by rw [hT3]; exact hl3)
  have hl1 : T1.length ≤ 140737488355328 := Nat.le_trans (run_le _ _) (by rw [hT2]; exact hl2)
  have HC1 : Hid (∀ W, RSt w0 b (.slice ao l.length c) t W → Calls Tryz.prog 53 #[.pointer (some ⟨b, 0, none⟩), .string x.nm] W fun e w' => e = .returned (.tuple #[]) ∧ PoR w0 b (.slice ao l.length c) T1 W w') := rput_h (s := x.nm) hnm hT1 hl1
  have HC2 : Hid (∀ W, RSt w0 b (.slice ao l.length c) T1 W → Calls Tryz.prog 53 #[.pointer (some ⟨b, 0, none⟩), .string ⟨#[40]⟩] W fun e w' => e = .returned (.tuple #[]) ∧ PoR w0 b (.slice ao l.length c) T2 W w') := rput_h (s := ⟨#[40]⟩) (by simp) hT2 hl2
  have HC3 : Hid (∀ W, RSt w0 b (.slice ao l.length c) T2 W → Calls Tryz.prog 79 #[.pointer (some ⟨b, 0, none⟩), .slice x.ka x.ks.length x.kc] W fun e w' => e = .returned (.tuple #[]) ∧ PoR w0 b (.slice ao l.length c) T3 W w') := rrow_h hr.nk.ks hr.all hT3 hl3
  have HC4 : Hid (∀ W, RSt w0 b (.slice ao l.length c) T3 W → Calls Tryz.prog 53 #[.pointer (some ⟨b, 0, none⟩), .string ⟨#[41]⟩] W fun e w' => e = .returned (.tuple #[]) ∧ PoR w0 b (.slice ao l.length c) T4 W w') := rput_h (s := ⟨#[41]⟩) (by simp) hT4 hl4
  have HS : Hid (RSt w0 b (.slice ao l.length c) t W) := hS
  have hc1 := hr.nk.ks.1
  have hc2 := hr.nk.ks.2.1
  unfold nda
  rw [hk]
  clear hr hlen hS har hk hT1 hl1 hT2 hl2 hT3 hl3 hT4 hl4 hnm
  generalize x.ks.length = xl at *
  generalize x.nm = xn at *
  generalize x.v = xv at *
  generalize x.kc = xc at *
  generalize x.ka = xa at *
  generalize x.fr = xf at *
  generalize x.en = xe at *
  generalize l.length = ln at *
  have HB0 : Hid (BsR w0 b (.slice ao ln c) t W #[.int .i64 34, .string xn, .int .i64 xv, .slice xa xl xc, .int .i64 xf, .int .i64 xe] (W.alloc (.cells #[.int .i64 34, .string xn, .int .i64 xv, .slice xa xl xc, .int .i64 xf, .int .i64 xe] 53))) := BsR.start HS.out _
  go_enter Tryz.func57, Tryz.ntmps57
  go_wp2_with fail
  refine (HC1.out _ HB0.out.st).mono ?_
  rintro e w1 ⟨rfl, hE⟩
  have HB1 : Hid (BsR w0 b (.slice ao ln c) T1 W #[.int .i64 34, .string xn, .int .i64 xv, .slice xa xl xc, .int .i64 xf, .int .i64 xe] w1) := HB0.out.put hE
  clear hE
  obtain ⟨d10, d11, d12, d13, d14, d15⟩ := box6 HB1.out.bx
  go_wp2_with fail
  refine (HC2.out _ HB1.out.st).mono ?_
  rintro e w2 ⟨rfl, hE⟩
  have HB2 : Hid (BsR w0 b (.slice ao ln c) T2 W #[.int .i64 34, .string xn, .int .i64 xv, .slice xa xl xc, .int .i64 xf, .int .i64 xe] w2) := HB1.out.put hE
  clear hE
  obtain ⟨d20, d21, d22, d23, d24, d25⟩ := box6 HB2.out.bx
  go_wp2_with fail
  refine (HC3.out _ HB2.out.st).mono ?_
  rintro e w3 ⟨rfl, hE⟩
  have HB3 : Hid (BsR w0 b (.slice ao ln c) T3 W #[.int .i64 34, .string xn, .int .i64 xv, .slice xa xl xc, .int .i64 xf, .int .i64 xe] w3) := HB2.out.put hE
  clear hE
  obtain ⟨d30, d31, d32, d33, d34, d35⟩ := box6 HB3.out.bx
  go_wp2_with fail
  refine (HC4.out _ HB3.out.st).mono ?_
  rintro e w4 ⟨rfl, hE⟩
  have HB4 : Hid (BsR w0 b (.slice ao ln c) T4 W #[.int .i64 34, .string xn, .int .i64 xv, .slice xa xl xc, .int .i64 xf, .int .i64 xe] w4) := HB3.out.put hE
  clear hE
  have HE : Hid (PoR w0 b (.slice ao ln c) T4 W w4) := HB4.out.pos
  clear HB4
  go_wp2
  go_end0
  exact ⟨rfl, HE.out⟩
set_option maxRecDepth 100000 in
set_option maxHeartbeats 4000000 in
theorem rf_35 (w0 : World) (b : Nat) (ao : Option Addr) (c : Nat) (l : List Nd) (nt : Nat → Tks) (K : Nat) (x : Nd) (hk : x.k = 35) (hr : NdR w0 b ao c l nt K x) (hnm : x.nm.data.toList ≠ []) : PrR w0 b (.slice ao l.length c) l nt 57 x (prtK l x 35) := by
  intro t W hS hlen
  have har : arB 35 x.ks.length = true := by have := hr.nk.ar; rw [hk] at this; exact this
  have hE0 : run t (psT nt l (prtK l x 35)) = run (run (run (run t [x.nm.data.toList]) [[123]]) (comT nt 0 (x.ks))) [[125]] := by
    simp only [prtK, psT, Pt.tk, run_app, List.append_nil]
  rw [hE0] at hlen ⊢
  clear hE0
  obtain ⟨T1, hT1⟩ : ∃ T, run t [x.nm.data.toList] = T := ⟨_, rfl⟩
  rw [hT1] at hlen ⊢
  obtain ⟨T2, hT2⟩ : ∃ T, run (run (run T1 [[123]]) (comT nt 0 (x.ks))) [[125]] = T := ⟨_, rfl⟩
  rw [hT2] at hlen ⊢
  have hl2 : T2.length ≤ 140737488355328 := hlen
  have hl1 : T1.length ≤ 140737488355328 := Nat.le_trans (Nat.le_trans (run_le _ _) (Nat.le_trans (run_le _ _) (run_le _ _))) (by rw [hT2]; exact hl2)
  have HC1 : Hid (∀ W, RSt w0 b (.slice ao l.length c) t W → Calls Tryz.prog 53 #[.pointer (some ⟨b, 0, none⟩), .string x.nm] W fun e w' => e = .returned (.tuple #[]) ∧ PoR w0 b (.slice ao l.length c) T1 W w') := rput_h (s := x.nm) hnm hT1 hl1
  have HC2 : Hid (∀ W, RSt w0 b (.slice ao l.length c) T1 W → Calls Tryz.prog 80 #[.pointer (some ⟨b, 0, none⟩), .slice x.ka x.ks.length x.kc] W fun e w' => e = .returned (.tuple #[]) ∧ PoR w0 b (.slice ao l.length c) T2 W w') := rbrace80 w0 b _ nt x.ks x.ka x.kc hr.nk.ks hr.all T1 T2 hT2 hl2
  have HS : Hid (RSt w0 b (.slice ao l.length c) t W) := hS
  have hc1 := hr.nk.ks.1
  have hc2 := hr.nk.ks.2.1
  unfold nda
  rw [hk]
  clear hr hlen hS har hk hT1 hl1 hT2 hl2 hnm
  generalize x.ks.length = xl at *
  generalize x.nm = xn at *
  generalize x.v = xv at *
  generalize x.kc = xc at *
  generalize x.ka = xa at *
  generalize x.fr = xf at *
  generalize x.en = xe at *
  generalize l.length = ln at *
  have HB0 : Hid (BsR w0 b (.slice ao ln c) t W #[.int .i64 35, .string xn, .int .i64 xv, .slice xa xl xc, .int .i64 xf, .int .i64 xe] (W.alloc (.cells #[.int .i64 35, .string xn, .int .i64 xv, .slice xa xl xc, .int .i64 xf, .int .i64 xe] 53))) := BsR.start HS.out _
  go_enter Tryz.func57, Tryz.ntmps57
  go_wp2_with fail
  refine (HC1.out _ HB0.out.st).mono ?_
  rintro e w1 ⟨rfl, hE⟩
  have HB1 : Hid (BsR w0 b (.slice ao ln c) T1 W #[.int .i64 35, .string xn, .int .i64 xv, .slice xa xl xc, .int .i64 xf, .int .i64 xe] w1) := HB0.out.put hE
  clear hE
  obtain ⟨d10, d11, d12, d13, d14, d15⟩ := box6 HB1.out.bx
  go_wp2_with fail
  refine (HC2.out _ HB1.out.st).mono ?_
  rintro e w2 ⟨rfl, hE⟩
  have HB2 : Hid (BsR w0 b (.slice ao ln c) T2 W #[.int .i64 35, .string xn, .int .i64 xv, .slice xa xl xc, .int .i64 xf, .int .i64 xe] w2) := HB1.out.put hE
  clear hE
  have HE : Hid (PoR w0 b (.slice ao ln c) T2 W w2) := HB2.out.pos
  clear HB2
  go_wp2
  go_end0
  exact ⟨rfl, HE.out⟩
set_option maxRecDepth 100000 in
set_option maxHeartbeats 4000000 in
theorem rf_36 (w0 : World) (b : Nat) (ao : Option Addr) (c : Nat) (l : List Nd) (nt : Nat → Tks) (K : Nat) (x : Nd) (hk : x.k = 36) (hr : NdR w0 b ao c l nt K x) (hnm : x.nm.data.toList ≠ []) : PrR w0 b (.slice ao l.length c) l nt 57 x (prtK l x 36) := by
  intro t W hS hlen
  have har : arB 36 x.ks.length = true := by have := hr.nk.ar; rw [hk] at this; exact this
  have hl : x.ks.length = 1 := by simpa [arB] using har
  have hE0 : run t (psT nt l (prtK l x 36)) = run (run (run t [x.nm.data.toList]) [[58]]) (nt (kidN x 0)) := by
    simp only [prtK, psT, Pt.tk, run_app, List.append_nil]
  rw [hE0] at hlen ⊢
  clear hE0
  obtain ⟨T1, hT1⟩ : ∃ T, run t [x.nm.data.toList] = T := ⟨_, rfl⟩
  rw [hT1] at hlen ⊢
  obtain ⟨T2, hT2⟩ : ∃ T, run T1 [[58]] = T := ⟨_, rfl⟩
  rw [hT2] at hlen ⊢
  obtain ⟨T3, hT3⟩ : ∃ T, run T2 (nt (kidN x 0)) = T := ⟨_, rfl⟩
  rw [hT3] at hlen ⊢
  have hl3 : T3.length ≤ 140737488355328 := hlen
  have hl2 : T2.length ≤ 140737488355328 := Nat.le_trans (run_le _ _) (by rw [hT3]; exact hl3)
  have hl1 : T1.length ≤ 140737488355328 := Nat.le_trans (run_le _ _) (by rw [hT2]; exact hl2)
  have HC1 : Hid (∀ W, RSt w0 b (.slice ao l.length c) t W → Calls Tryz.prog 53 #[.pointer (some ⟨b, 0, none⟩), .string x.nm] W fun e w' => e = .returned (.tuple #[]) ∧ PoR w0 b (.slice ao l.length c) T1 W w') := rput_h (s := x.nm) hnm hT1 hl1
  have HC2 : Hid (∀ W, RSt w0 b (.slice ao l.length c) T1 W → Calls Tryz.prog 53 #[.pointer (some ⟨b, 0, none⟩), .string ⟨#[58]⟩] W fun e w' => e = .returned (.tuple #[]) ∧ PoR w0 b (.slice ao l.length c) T2 W w') := rput_h (s := ⟨#[58]⟩) (by simp) hT2 hl2
  have HC3 : Hid (∀ W, RSt w0 b (.slice ao l.length c) T2 W → Calls Tryz.prog 29 #[.pointer (some ⟨b, 0, none⟩), .int .i64 (kidN x 0 : Nat)] W fun e w' => e = .returned (.tuple #[]) ∧ PoR w0 b (.slice ao l.length c) T3 W w') := rnode_h (hr.kid 0 (by omega)) hT3 hl3
  have HS : Hid (RSt w0 b (.slice ao l.length c) t W) := hS
  obtain ⟨g0, o0, hka, hcell⟩ := hr.nk.addr (by omega)
  have HX : Hid (∀ W, Below w0.heap.size w0 W → W.cell? ⟨g0, o0, none⟩ = some (.int .i64 (kidN x 0 : Nat))) := fun W hW => hcell W hW 0 (by omega)
  have hc1 := hr.nk.ks.1
  have hc2 := hr.nk.ks.2.1
  rw [hl] at hc1
  unfold nda
  rw [hk, hl, hka]
  clear hr hlen hS har hk hT1 hl1 hT2 hl2 hT3 hl3 hcell hka hl hnm
  generalize kidN x 0 = q0 at *
  generalize x.nm = xn at *
  generalize x.v = xv at *
  generalize x.kc = xc at *
  generalize x.ka = xa at *
  generalize x.fr = xf at *
  generalize x.en = xe at *
  generalize l.length = ln at *
  have HB0 : Hid (BsR w0 b (.slice ao ln c) t W #[.int .i64 36, .string xn, .int .i64 xv, .slice (some ⟨g0, o0, none⟩) 1 xc, .int .i64 xf, .int .i64 xe] (W.alloc (.cells #[.int .i64 36, .string xn, .int .i64 xv, .slice (some ⟨g0, o0, none⟩) 1 xc, .int .i64 xf, .int .i64 xe] 53))) := BsR.start HS.out _
  have r00 : (W.alloc (.cells #[.int .i64 36, .string xn, .int .i64 xv, .slice (some ⟨g0, o0, none⟩) 1 xc, .int .i64 xf, .int .i64 xe] 53)).cell? ⟨g0, o0, none⟩ = some (.int .i64 q0) := HX.out _ HB0.out.st.bl
  go_enter Tryz.func57, Tryz.ntmps57
  go_wp2_with fail
  refine (HC1.out _ HB0.out.st).mono ?_
  rintro e w1 ⟨rfl, hE⟩
  have HB1 : Hid (BsR w0 b (.slice ao ln c) T1 W #[.int .i64 36, .string xn, .int .i64 xv, .slice (some ⟨g0, o0, none⟩) 1 xc, .int .i64 xf, .int .i64 xe] w1) := HB0.out.put hE
  clear hE
  obtain ⟨d10, d11, d12, d13, d14, d15⟩ := box6 HB1.out.bx
  have r10 := HX.out w1 HB1.out.st.bl
  go_wp2_with fail
  refine (HC2.out _ HB1.out.st).mono ?_
  rintro e w2 ⟨rfl, hE⟩
  have HB2 : Hid (BsR w0 b (.slice ao ln c) T2 W #[.int .i64 36, .string xn, .int .i64 xv, .slice (some ⟨g0, o0, none⟩) 1 xc, .int .i64 xf, .int .i64 xe] w2) := HB1.out.put hE
  clear hE
  obtain ⟨d20, d21, d22, d23, d24, d25⟩ := box6 HB2.out.bx
  have r20 := HX.out w2 HB2.out.st.bl
  go_wp2_with fail
  refine (HC3.out _ HB2.out.st).mono ?_
  rintro e w3 ⟨rfl, hE⟩
  have HB3 : Hid (BsR w0 b (.slice ao ln c) T3 W #[.int .i64 36, .string xn, .int .i64 xv, .slice (some ⟨g0, o0, none⟩) 1 xc, .int .i64 xf, .int .i64 xe] w3) := HB2.out.put hE
  clear hE
  have HE : Hid (PoR w0 b (.slice ao ln c) T3 W w3) := HB3.out.pos
  clear HB3
  go_wp2
  go_end0
  exact ⟨rfl, HE.out⟩
set_option maxRecDepth 100000 in
set_option maxHeartbeats 4000000 in
theorem rf_44 (w0 : World) (b : Nat) (ao : Option Addr) (c : Nat) (l : List Nd) (nt : Nat → Tks) (K : Nat) (x : Nd) (hk : x.k = 44) (hr : NdR w0 b ao c l nt K x) : PrR w0 b (.slice ao l.length c) l nt 57 x (prtK l x 44) := by
  intro t W hS hlen
  have har : arB 44 x.ks.length = true := by have := hr.nk.ar; rw [hk] at this; exact this
  have hl : x.ks.length = 1 := by simpa [arB] using har
  have hE0 : run t (psT nt l (prtK l x 44)) = run (run (run (run (run (run t [[66, 111, 120]]) [[58, 58]]) [[110, 101, 119]]) [[40]]) (nt (kidN x 0))) [[41]] := by
    simp only [prtK, psT, Pt.tk, run_app, List.append_nil]
  rw [hE0] at hlen ⊢
  clear hE0
  obtain ⟨T1, hT1⟩ : ∃ T, run t [[66, 111, 120]] = T := ⟨_, rfl⟩
  rw [hT1] at hlen ⊢
  obtain ⟨T2, hT2⟩ : ∃ T, run T1 [[58, 58]] = T := ⟨_, rfl⟩
  rw [hT2] at hlen ⊢
  obtain ⟨T3, hT3⟩ : ∃ T, run T2 [[110, 101, 119]] = T := ⟨_, rfl⟩
  rw [hT3] at hlen ⊢
  obtain ⟨T4, hT4⟩ : ∃ T, run T3 [[40]] = T := ⟨_, rfl⟩
  rw [hT4] at hlen ⊢
  obtain ⟨T5, hT5⟩ : ∃ T, run T4 (nt (kidN x 0)) = T := ⟨_, rfl⟩
  rw [hT5] at hlen ⊢
  obtain ⟨T6, hT6⟩ : ∃ T, run T5 [[41]] = T := ⟨_, rfl⟩
  rw [hT6] at hlen ⊢
  have hl6 : T6.length ≤ 140737488355328 := hlen
  have hl5 : T5.length ≤ 140737488355328 := Nat.le_trans (run_le _ _) (by rw [hT6]; exact hl6)
  have hl4 : T4.length ≤ 140737488355328 := Nat.le_trans (run_le _ _) (by rw [hT5]; exact hl5)
  have hl3 : T3.length ≤ 140737488355328 := Nat.le_trans (run_le _ _) (by rw [hT4]; exact hl4)
  have hl2 : T2.length ≤ 140737488355328 := Nat.le_trans (run_le _ _) (by rw [hT3]; exact hl3)
  have hl1 : T1.length ≤ 140737488355328 := Nat.le_trans (run_le _ _) (by rw [hT2]; exact hl2)
  have HC1 : Hid (∀ W, RSt w0 b (.slice ao l.length c) t W → Calls Tryz.prog 53 #[.pointer (some ⟨b, 0, none⟩), .string ⟨#[66, 111, 120]⟩] W fun e w' => e = .returned (.tuple #[]) ∧ PoR w0 b (.slice ao l.length c) T1 W w') := rput_h (s := ⟨#[66, 111, 120]⟩) (by simp) hT1 hl1
  have HC2 : Hid (∀ W, RSt w0 b (.slice ao l.length c) T1 W → Calls Tryz.prog 53 #[.pointer (some ⟨b, 0, none⟩), .string ⟨#[58, 58]⟩] W fun e w' => e = .returned (.tuple #[]) ∧ PoR w0 b (.slice ao l.length c) T2 W w') := rput_h (s := ⟨#[58, 58]⟩) (by simp) hT2 hl2
  have HC3 : Hid (∀ W, RSt w0 b (.slice ao l.length c) T2 W → Calls Tryz.prog 53 #[.pointer (some ⟨b, 0, none⟩), .string ⟨#[110, 101, 119]⟩] W fun e w' => e = .returned (.tuple #[]) ∧ PoR w0 b (.slice ao l.length c) T3 W w') := rput_h (s := ⟨#[110, 101, 119]⟩) (by simp) hT3 hl3
  have HC4 : Hid (∀ W, RSt w0 b (.slice ao l.length c) T3 W → Calls Tryz.prog 53 #[.pointer (some ⟨b, 0, none⟩), .string ⟨#[40]⟩] W fun e w' => e = .returned (.tuple #[]) ∧ PoR w0 b (.slice ao l.length c) T4 W w') := rput_h (s := ⟨#[40]⟩) (by simp) hT4 hl4
  have HC5 : Hid (∀ W, RSt w0 b (.slice ao l.length c) T4 W → Calls Tryz.prog 29 #[.pointer (some ⟨b, 0, none⟩), .int .i64 (kidN x 0 : Nat)] W fun e w' => e = .returned (.tuple #[]) ∧ PoR w0 b (.slice ao l.length c) T5 W w') := rnode_h (hr.kid 0 (by omega)) hT5 hl5
  have HC6 : Hid (∀ W, RSt w0 b (.slice ao l.length c) T5 W → Calls Tryz.prog 53 #[.pointer (some ⟨b, 0, none⟩), .string ⟨#[41]⟩] W fun e w' => e = .returned (.tuple #[]) ∧ PoR w0 b (.slice ao l.length c) T6 W w') := rput_h (s := ⟨#[41]⟩) (by simp) hT6 hl6
  have HS : Hid (RSt w0 b (.slice ao l.length c) t W) := hS
  obtain ⟨g0, o0, hka, hcell⟩ := hr.nk.addr (by omega)
  have HX : Hid (∀ W, Below w0.heap.size w0 W → W.cell? ⟨g0, o0, none⟩ = some (.int .i64 (kidN x 0 : Nat))) := fun W hW => hcell W hW 0 (by omega)
  have hc1 := hr.nk.ks.1
  have hc2 := hr.nk.ks.2.1
  rw [hl] at hc1
  unfold nda
  rw [hk, hl, hka]
  clear hr hlen hS har hk hT1 hl1 hT2 hl2 hT3 hl3 hT4 hl4 hT5 hl5 hT6 hl6 hcell hka hl
  generalize kidN x 0 = q0 at *
  generalize x.nm = xn at *
  generalize x.v = xv at *
  generalize x.kc = xc at *
  generalize x.ka = xa at *
  generalize x.fr = xf at *
  generalize x.en = xe at *
  generalize l.length = ln at *
  have HB0 : Hid (BsR w0 b (.slice ao ln c) t W #[.int .i64 44, .string xn, .int .i64 xv, .slice (some ⟨g0, o0, none⟩) 1 xc, .int .i64 xf, .int .i64 xe] (W.alloc (.cells #[.int .i64 44, .string xn, .int .i64 xv, .slice (some ⟨g0, o0, none⟩) 1 xc, .int .i64 xf, .int .i64 xe] 53))) := BsR.start HS.out _
  have r00 : (W.alloc (.cells #[.int .i64 44, .string xn, .int .i64 xv, .slice (some ⟨g0, o0, none⟩) 1 xc, .int .i64 xf, .int .i64 xe] 53)).cell? ⟨g0, o0, none⟩ = some (.int .i64 q0) := HX.out _ HB0.out.st.bl
  go_enter Tryz.func57, Tryz.ntmps57
  go_wp2_with fail
  refine (HC1.out _ HB0.out.st).mono ?_
  rintro e w1 ⟨rfl, hE⟩
  have HB1 : Hid (BsR w0 b (.slice ao ln c) T1 W #[.int .i64 44, .string xn, .int .i64 xv, .slice (some ⟨g0, o0, none⟩) 1 xc, .int .i64 xf, .int .i64 xe] w1) := HB0.out.put hE
  clear hE
  obtain ⟨d10, d11, d12, d13, d14, d15⟩ := box6 HB1.out.bx
  have r10 := HX.out w1 HB1.out.st.bl
  go_wp2_with fail
  refine (HC2.out _ HB1.out.st).mono ?_
  rintro e w2 ⟨rfl, hE⟩
  have HB2 : Hid (BsR w0 b (.slice ao ln c) T2 W #[.int .i64 44, .string xn, .int .i64 xv, .slice (some ⟨g0, o0, none⟩) 1 xc, .int .i64 xf, .int .i64 xe] w2) := HB1.out.put hE
  clear hE
  obtain ⟨d20, d21, d22, d23, d24, d25⟩ := box6 HB2.out.bx
  have r20 := HX.out w2 HB2.out.st.bl
  go_wp2_with fail
  refine (HC3.out _ HB2.out.st).mono ?_
  rintro e w3 ⟨rfl, hE⟩
  have HB3 : Hid (BsR w0 b (.slice ao ln c) T3 W #[.int .i64 44, .string xn, .int .i64 xv, .slice (some ⟨g0, o0, none⟩) 1 xc, .int .i64 xf, .int .i64 xe] w3) := HB2.out.put hE
  clear hE
  obtain ⟨d30, d31, d32, d33, d34, d35⟩ := box6 HB3.out.bx
  have r30 := HX.out w3 HB3.out.st.bl
  go_wp2_with fail
  refine (HC4.out _ HB3.out.st).mono ?_
  rintro e w4 ⟨rfl, hE⟩
  have HB4 : Hid (BsR w0 b (.slice ao ln c) T4 W #[.int .i64 44, .string xn, .int .i64 xv, .slice (some ⟨g0, o0, none⟩) 1 xc, .int .i64 xf, .int .i64 xe] w4) := HB3.out.put hE
  clear hE
  obtain ⟨d40, d41, d42, d43, d44, d45⟩ := box6 HB4.out.bx
  have r40 := HX.out w4 HB4.out.st.bl
  go_wp2_with fail
  refine (HC5.out _ HB4.out.st).mono ?_
  rintro e w5 ⟨rfl, hE⟩
  have HB5 : Hid (BsR w0 b (.slice ao ln c) T5 W #[.int .i64 44, .string xn, .int .i64 xv, .slice (some ⟨g0, o0, none⟩) 1 xc, .int .i64 xf, .int .i64 xe] w5) := HB4.out.put hE
  clear hE
  obtain ⟨d50, d51, d52, d53, d54, d55⟩ := box6 HB5.out.bx
  have r50 := HX.out w5 HB5.out.st.bl
  go_wp2_with fail
  refine (HC6.out _ HB5.out.st).mono ?_
  rintro e w6 ⟨rfl, hE⟩
  have HB6 : Hid (BsR w0 b (.slice ao ln c) T6 W #[.int .i64 44, .string xn, .int .i64 xv, .slice (some ⟨g0, o0, none⟩) 1 xc, .int .i64 xf, .int .i64 xe] w6) := HB5.out.put hE
  clear hE
  have HE : Hid (PoR w0 b (.slice ao ln c) T6 W w6) := HB6.out.pos
  clear HB6
  go_wp2
  go_end0
  exact ⟨rfl, HE.out⟩
end
section
open Go.RowKit Go.Shelf
set_option maxRecDepth 100000 in
set_option maxHeartbeats 4000000 in
theorem rf_21a1 (w0 : World) (b : Nat) (ao : Option Addr) (c : Nat) (l : List Nd) (nt : Nat → Tks) (K : Nat) (x : Nd) (hk : x.k = 21) (hr : NdR w0 b ao c l nt K x) (hnm : x.nm.data.toList ≠ []) (hl : x.ks.length = 1) (hv1 : x.v = 1) : PrR w0 b (.slice ao l.length c) l nt 52 x (prtK l x 21) := by
  intro t W hS hlen
  have har : arB 21 x.ks.length = true := by have := hr.nk.ar; rw [hk] at this; exact this
  have hE0 : run t (psT nt l (prtK l x 21)) = run (run (run (run (run (run t [[108, 101, 116]]) [[109, 117, 116]]) [x.nm.data.toList]) [[61]]) (nt (kidN x 0))) [[59]] := by
    have e1 := list1 (fun y hy => (hr.nk.hin y hy).1) hl
    simp only [prtK, psT, psT_app, Pt.tk, run_app, List.append_nil, hv1, mutS_1]
    rw [if_pos hl, hl, e1]
    simp only [psT, seqT, Int.toNat_natCast, List.append_nil, run_nil, Nat.reduceSub, List.drop_zero]
  rw [hE0] at hlen ⊢
  clear hE0
  obtain ⟨T1, hT1⟩ : ∃ T, run t [[108, 101, 116]] = T := ⟨_, rfl⟩
  rw [hT1] at hlen ⊢
  obtain ⟨T2, hT2⟩ : ∃ T, run T1 [[109, 117, 116]] = T := ⟨_, rfl⟩
  rw [hT2] at hlen ⊢
  obtain ⟨T3, hT3⟩ : ∃ T, run T2 [x.nm.data.toList] = T := ⟨_, rfl⟩
  rw [hT3] at hlen ⊢
  obtain ⟨T4, hT4⟩ : ∃ T, run T3 [[61]] = T := ⟨_, rfl⟩
  rw [hT4] at hlen ⊢
  obtain ⟨T5, hT5⟩ : ∃ T, run T4 (nt (kidN x 0)) = T := ⟨_, rfl⟩
  rw [hT5] at hlen ⊢
  obtain ⟨T6, hT6⟩ : ∃ T, run T5 [[59]] = T := ⟨_, rfl⟩
  rw [hT6] at hlen ⊢
  have hl6 : T6.length ≤ 140737488355328 := hlen
  have hl5 : T5.length ≤ 140737488355328 := Nat.le_trans (run_le _ _) (by rw [hT6]; exact hl6)
  have hl4 : T4.length ≤ 140737488355328 := Nat.le_trans (run_le _ _) (by rw [hT5]; exact hl5)
  have hl3 : T3.length ≤ 140737488355328 := Nat.le_trans (run_le _ _) (by rw [hT4]; exact hl4)
  have hl2 : T2.length ≤ 140737488355328 := Nat.le_trans (run_le _ _) (by rw [hT3]; exact hl3)
  have hl1 : T1.length ≤ 140737488355328 := Nat.le_trans (run_le _ _) (by rw [hT2]; exact hl2)
  have HC1 : Hid (∀ W, RSt w0 b (.slice ao l.length c) t W → Calls Tryz.prog 53 #[.pointer (some ⟨b, 0, none⟩), .string ⟨#[108, 101, 116]⟩] W fun e w' => e = .returned (.tuple #[]) ∧ PoR w0 b (.slice ao l.length c) T1 W w') := rput_h (s := ⟨#[108, 101, 116]⟩) (by simp) hT1 hl1
  have HC2 : Hid (∀ W, RSt w0 b (.slice ao l.length c) T1 W → Calls Tryz.prog 53 #[.pointer (some ⟨b, 0, none⟩), .string ⟨#[109, 117, 116]⟩] W fun e w' => e = .returned (.tuple #[]) ∧ PoR w0 b (.slice ao l.length c) T2 W w') := rput_h (s := ⟨#[109, 117, 116]⟩) (by simp) hT2 hl2
  have HC3 : Hid (∀ W, RSt w0 b (.slice ao l.length c) T2 W → Calls Tryz.prog 53 #[.pointer (some ⟨b, 0, none⟩), .string x.nm] W fun e w' => e = .returned (.tuple #[]) ∧ PoR w0 b (.slice ao l.length c) T3 W w') := rput_h (s := x.nm) hnm hT3 hl3
  have HC4 : Hid (∀ W, RSt w0 b (.slice ao l.length c) T3 W → Calls Tryz.prog 53 #[.pointer (some ⟨b, 0, none⟩), .string ⟨#[61]⟩] W fun e w' => e = .returned (.tuple #[]) ∧ PoR w0 b (.slice ao l.length c) T4 W w') := rput_h (s := ⟨#[61]⟩) (by simp) hT4 hl4
  have HC5 : Hid (∀ W, RSt w0 b (.slice ao l.length c) T4 W → Calls Tryz.prog 29 #[.pointer (some ⟨b, 0, none⟩), .int .i64 (kidN x 0 : Nat)] W fun e w' => e = .returned (.tuple #[]) ∧ PoR w0 b (.slice ao l.length c) T5 W w') := rnode_h (hr.kid 0 (by omega)) hT5 hl5
  have HC6 : Hid (∀ W, RSt w0 b (.slice ao l.length c) T5 W → Calls Tryz.prog 53 #[.pointer (some ⟨b, 0, none⟩), .string ⟨#[59]⟩] W fun e w' => e = .returned (.tuple #[]) ∧ PoR w0 b (.slice ao l.length c) T6 W w') := rput_h (s := ⟨#[59]⟩) (by simp) hT6 hl6
  have HS : Hid (RSt w0 b (.slice ao l.length c) t W) := hS
  obtain ⟨g0, o0, hka, hcell⟩ := hr.nk.addr (by omega)
  have HX : Hid (∀ W, Below w0.heap.size w0 W → W.cell? ⟨g0, o0, none⟩ = some (.int .i64 (kidN x 0 : Nat))) := fun W hW => hcell W hW 0 (by omega)
  have hc1 := hr.nk.ks.1
  have hc2 := hr.nk.ks.2.1
  rw [hl] at hc1
  unfold nda
  rw [hk, hl, hka]
  clear hr hlen hS har hk hT1 hl1 hT2 hl2 hT3 hl3 hT4 hl4 hT5 hl5 hT6 hl6 hcell hka hl hnm
  generalize kidN x 0 = q0 at *
  generalize x.nm = xn at *
  generalize x.v = xv at *
  generalize x.kc = xc at *
  generalize x.ka = xa at *
  generalize x.fr = xf at *
  generalize x.en = xe at *
  generalize l.length = ln at *
  subst hv1
  have HB0 : Hid (BsR w0 b (.slice ao ln c) t W #[.int .i64 21, .string xn, .int .i64 1, .slice (some ⟨g0, o0, none⟩) 1 xc, .int .i64 xf, .int .i64 xe] (W.alloc (.cells #[.int .i64 21, .string xn, .int .i64 1, .slice (some ⟨g0, o0, none⟩) 1 xc, .int .i64 xf, .int .i64 xe] 53))) := BsR.start HS.out _
  have r00 : (W.alloc (.cells #[.int .i64 21, .string xn, .int .i64 1, .slice (some ⟨g0, o0, none⟩) 1 xc, .int .i64 xf, .int .i64 xe] 53)).cell? ⟨g0, o0, none⟩ = some (.int .i64 q0) := HX.out _ HB0.out.st.bl
  go_enter Tryz.func52, Tryz.ntmps52
  go_wp2_with fail
  refine (HC1.out _ HB0.out.st).mono ?_
  rintro e w1 ⟨rfl, hE⟩
  have HB1 : Hid (BsR w0 b (.slice ao ln c) T1 W #[.int .i64 21, .string xn, .int .i64 1, .slice (some ⟨g0, o0, none⟩) 1 xc, .int .i64 xf, .int .i64 xe] w1) := HB0.out.put hE
  clear hE
  obtain ⟨d10, d11, d12, d13, d14, d15⟩ := box6 HB1.out.bx
  have r10 := HX.out w1 HB1.out.st.bl
  go_wp2_with fail
  refine (HC2.out _ HB1.out.st).mono ?_
  rintro e w2 ⟨rfl, hE⟩
  have HB2 : Hid (BsR w0 b (.slice ao ln c) T2 W #[.int .i64 21, .string xn, .int .i64 1, .slice (some ⟨g0, o0, none⟩) 1 xc, .int .i64 xf, .int .i64 xe] w2) := HB1.out.put hE
  clear hE
  obtain ⟨d20, d21, d22, d23, d24, d25⟩ := box6 HB2.out.bx
  have r20 := HX.out w2 HB2.out.st.bl
  go_wp2_with fail
  refine (HC3.out _ HB2.out.st).mono ?_
  rintro e w3 ⟨rfl, hE⟩
  have HB3 : Hid (BsR w0 b (.slice ao ln c) T3 W #[.int .i64 21, .string xn, .int .i64 1, .slice (some ⟨g0, o0, none⟩) 1 xc, .int .i64 xf, .int .i64 xe] w3) := HB2.out.put hE
  clear hE
  obtain ⟨d30, d31, d32, d33, d34, d35⟩ := box6 HB3.out.bx
  have r30 := HX.out w3 HB3.out.st.bl
  go_wp2_with fail
  refine (HC4.out _ HB3.out.st).mono ?_
  rintro e w4 ⟨rfl, hE⟩
  have HB4 : Hid (BsR w0 b (.slice ao ln c) T4 W #[.int .i64 21, .string xn, .int .i64 1, .slice (some ⟨g0, o0, none⟩) 1 xc, .int .i64 xf, .int .i64 xe] w4) := HB3.out.put hE
  clear hE
  obtain ⟨d40, d41, d42, d43, d44, d45⟩ := box6 HB4.out.bx
  have r40 := HX.out w4 HB4.out.st.bl
  go_wp2_with fail
  refine (HC5.out _ HB4.out.st).mono ?_
  rintro e w5 ⟨rfl, hE⟩
  have HB5 : Hid (BsR w0 b (.slice ao ln c) T5 W #[.int .i64 21, .string xn, .int .i64 1, .slice (some ⟨g0, o0, none⟩) 1 xc, .int .i64 xf, .int .i64 xe] w5) := HB4.out.put hE
  clear hE
  obtain ⟨d50, d51, d52, d53, d54, d55⟩ := box6 HB5.out.bx
  have r50 := HX.out w5 HB5.out.st.bl
  go_wp2_with fail
  refine (HC6.out _ HB5.out.st).mono ?_
  rintro e w6 ⟨rfl, hE⟩
  have HB6 : Hid (BsR w0 b (.slice ao ln c) T6 W #[.int .i64 21, .string xn, .int .i64 1, .slice (some ⟨g0, o0, none⟩) 1 xc, .int .i64 xf, .int .i64 xe] w6) := HB5.out.put hE
  clear hE
  have HE : Hid (PoR w0 b (.slice ao ln c) T6 W w6) := HB6.out.pos
  clear HB6
  go_wp2
  go_end0
  exact ⟨rfl, HE.out⟩
set_option maxRecDepth 100000 in
set_option maxHeartbeats 4000000 in
theorem rf_21a0 (w0 : World) (b : Nat) (ao : Option Addr) (c : Nat) (l : List Nd) (nt : Nat → Tks) (K : Nat) (x : Nd) (hk : x.k = 21) (hr : NdR w0 b ao c l nt K x) (hnm : x.nm.data.toList ≠ []) (hl : x.ks.length = 1) (hv0 : ¬ x.v = 1) : PrR w0 b (.slice ao l.length c) l nt 52 x (prtK l x 21) := by
  intro t W hS hlen
  have har : arB 21 x.ks.length = true := by have := hr.nk.ar; rw [hk] at this; exact this
  have hE0 : run t (psT nt l (prtK l x 21)) = run (run (run (run (run t [[108, 101, 116]]) [x.nm.data.toList]) [[61]]) (nt (kidN x 0))) [[59]] := by
    have e1 := list1 (fun y hy => (hr.nk.hin y hy).1) hl
    simp only [prtK, psT, psT_app, Pt.tk, run_app, List.append_nil, mutS_0 hv0, run_e]
    rw [if_pos hl, hl, e1]
    simp only [psT, seqT, Int.toNat_natCast, List.append_nil, run_nil, Nat.reduceSub, List.drop_zero]
  rw [hE0] at hlen ⊢
  clear hE0
  obtain ⟨T1, hT1⟩ : ∃ T, run t [[108, 101, 116]] = T := ⟨_, rfl⟩
  rw [hT1] at hlen ⊢
  obtain ⟨T2, hT2⟩ : ∃ T, run T1 [x.nm.data.toList] = T := ⟨_, rfl⟩
  rw [hT2] at hlen ⊢
  obtain ⟨T3, hT3⟩ : ∃ T, run T2 [[61]] = T := ⟨_, rfl⟩
  rw [hT3] at hlen ⊢
  obtain ⟨T4, hT4⟩ : ∃ T, run T3 (nt (kidN x 0)) = T := ⟨_, rfl⟩
  rw [hT4] at hlen ⊢
  obtain ⟨T5, hT5⟩ : ∃ T, run T4 [[59]] = T := ⟨_, rfl⟩
  rw [hT5] at hlen ⊢
  have hl5 : T5.length ≤ 140737488355328 := hlen
  have hl4 : T4.length ≤ 140737488355328 := Nat.le_trans (run_le _ _) (by rw [hT5]; exact hl5)
  have hl3 : T3.length ≤ 140737488355328 := Nat.le_trans (run_le _ _) (by rw [hT4]; exact hl4)
  have hl2 : T2.length ≤ 140737488355328 := Nat.le_trans (run_le _ _) (by rw [hT3]; exact hl3)
  have hl1 : T1.length ≤ 140737488355328 := Nat.le_trans (run_le _ _) (by rw [hT2]; exact hl2)
  have HC1 : Hid (∀ W, RSt w0 b (.slice ao l.length c) t W → Calls Tryz.prog 53 #[.pointer (some ⟨b, 0, none⟩), .string ⟨#[108, 101, 116]⟩] W fun e w' => e = .returned (.tuple #[]) ∧ PoR w0 b (.slice ao l.length c) T1 W w') := rput_h (s := ⟨#[108, 101, 116]⟩) (by simp) hT1 hl1
  have HC2 : Hid (∀ W, RSt w0 b (.slice ao l.length c) T1 W → Calls Tryz.prog 53 #[.pointer (some ⟨b, 0, none⟩), .string x.nm] W fun e w' => e = .returned (.tuple #[]) ∧ PoR w0 b (.slice ao l.length c) T2 W w') := rput_h (s := x.nm) hnm hT2 hl2
  have HC3 : Hid (∀ W, RSt w0 b (.slice ao l.length c) T2 W → Calls Tryz.prog 53 #[.pointer (some ⟨b, 0, none⟩), .string ⟨#[61]⟩] W fun e w' => e = .returned (.tuple #[]) ∧ PoR w0 b (.slice ao l.length c) T3 W w') := rput_h (s := ⟨#[61]⟩) (by simp) hT3 hl3
  have HC4 : Hid (∀ W, RSt w0 b (.slice ao l.length c) T3 W → Calls Tryz.prog 29 #[.pointer (some ⟨b, 0, none⟩), .int .i64 (kidN x 0 : Nat)] W fun e w' => e = .returned (.tuple #[]) ∧ PoR w0 b (.slice ao l.length c) T4 W w') := rnode_h (hr.kid 0 (by omega)) hT4 hl4
  have HC5 : Hid (∀ W, RSt w0 b (.slice ao l.length c) T4 W → Calls Tryz.prog 53 #[.pointer (some ⟨b, 0, none⟩), .string ⟨#[59]⟩] W fun e w' => e = .returned (.tuple #[]) ∧ PoR w0 b (.slice ao l.length c) T5 W w') := rput_h (s := ⟨#[59]⟩) (by simp) hT5 hl5
  have HS : Hid (RSt w0 b (.slice ao l.length c) t W) := hS
  obtain ⟨g0, o0, hka, hcell⟩ := hr.nk.addr (by omega)
  have HX : Hid (∀ W, Below w0.heap.size w0 W → W.cell? ⟨g0, o0, none⟩ = some (.int .i64 (kidN x 0 : Nat))) := fun W hW => hcell W hW 0 (by omega)
  have hc1 := hr.nk.ks.1
  have hc2 := hr.nk.ks.2.1
  rw [hl] at hc1
  unfold nda
  rw [hk, hl, hka]
  clear hr hlen hS har hk hT1 hl1 hT2 hl2 hT3 hl3 hT4 hl4 hT5 hl5 hcell hka hl hnm
  generalize kidN x 0 = q0 at *
  generalize x.nm = xn at *
  generalize x.v = xv at *
  generalize x.kc = xc at *
  generalize x.ka = xa at *
  generalize x.fr = xf at *
  generalize x.en = xe at *
  generalize l.length = ln at *
  have hvb : (xv == 1) = false := by simpa using hv0
  have HB0 : Hid (BsR w0 b (.slice ao ln c) t W #[.int .i64 21, .string xn, .int .i64 xv, .slice (some ⟨g0, o0, none⟩) 1 xc, .int .i64 xf, .int .i64 xe] (W.alloc (.cells #[.int .i64 21, .string xn, .int .i64 xv, .slice (some ⟨g0, o0, none⟩) 1 xc, .int .i64 xf, .int .i64 xe] 53))) := BsR.start HS.out _
  have r00 : (W.alloc (.cells #[.int .i64 21, .string xn, .int .i64 xv, .slice (some ⟨g0, o0, none⟩) 1 xc, .int .i64 xf, .int .i64 xe] 53)).cell? ⟨g0, o0, none⟩ = some (.int .i64 q0) := HX.out _ HB0.out.st.bl
  go_enter Tryz.func52, Tryz.ntmps52
  go_wp2_with fail
  refine (HC1.out _ HB0.out.st).mono ?_
  rintro e w1 ⟨rfl, hE⟩
  have HB1 : Hid (BsR w0 b (.slice ao ln c) T1 W #[.int .i64 21, .string xn, .int .i64 xv, .slice (some ⟨g0, o0, none⟩) 1 xc, .int .i64 xf, .int .i64 xe] w1) := HB0.out.put hE
  clear hE
  obtain ⟨d10, d11, d12, d13, d14, d15⟩ := box6 HB1.out.bx
  have r10 := HX.out w1 HB1.out.st.bl
  go_wp2_with fail
  refine (HC2.out _ HB1.out.st).mono ?_
  rintro e w2 ⟨rfl, hE⟩
  have HB2 : Hid (BsR w0 b (.slice ao ln c) T2 W #[.int .i64 21, .string xn, .int .i64 xv, .slice (some ⟨g0, o0, none⟩) 1 xc, .int .i64 xf, .int .i64 xe] w2) := HB1.out.put hE
  clear hE
  obtain ⟨d20, d21, d22, d23, d24, d25⟩ := box6 HB2.out.bx
  have r20 := HX.out w2 HB2.out.st.bl
  go_wp2_with fail
  refine (HC3.out _ HB2.out.st).mono ?_
  rintro e w3 ⟨rfl, hE⟩
  have HB3 : Hid (BsR w0 b (.slice ao ln c) T3 W #[.int .i64 21, .string xn, .int .i64 xv, .slice (some ⟨g0, o0, none⟩) 1 xc, .int .i64 xf, .int .i64 xe] w3) := HB2.out.put hE
  clear hE
  obtain ⟨d30, d31, d32, d33, d34, d35⟩ := box6 HB3.out.bx
  have r30 := HX.out w3 HB3.out.st.bl
  go_wp2_with fail
  refine (HC4.out _ HB3.out.st).mono ?_
  rintro e w4 ⟨rfl, hE⟩
  have HB4 : Hid (BsR w0 b (.slice ao ln c) T4 W #[.int .i64 21, .string xn, .int .i64 xv, .slice (some ⟨g0, o0, none⟩) 1 xc, .int .i64 xf, .int .i64 xe] w4) := HB3.out.put hE
  clear hE
  obtain ⟨d40, d41, d42, d43, d44, d45⟩ := box6 HB4.out.bx
  have r40 := HX.out w4 HB4.out.st.bl
  go_wp2_with fail
  refine (HC5.out _ HB4.out.st).mono ?_
  rintro e w5 ⟨rfl, hE⟩
  have HB5 : Hid (BsR w0 b (.slice ao ln c) T5 W #[.int .i64 21, .string xn, .int .i64 xv, .slice (some ⟨g0, o0, none⟩) 1 xc, .int .i64 xf, .int .i64 xe] w5) := HB4.out.put hE
  clear hE
  have HE : Hid (PoR w0 b (.slice ao ln c) T5 W w5) := HB5.out.pos
  clear HB5
  go_wp2
  go_end0
  exact ⟨rfl, HE.out⟩
set_option maxRecDepth 100000 in
set_option maxHeartbeats 4000000 in
theorem rf_21b1 (w0 : World) (b : Nat) (ao : Option Addr) (c : Nat) (l : List Nd) (nt : Nat → Tks) (K : Nat) (x : Nd) (hk : x.k = 21) (hr : NdR w0 b ao c l nt K x) (hnm : x.nm.data.toList ≠ []) (hl : x.ks.length = 2) (hv1 : x.v = 1) : PrR w0 b (.slice ao l.length c) l nt 52 x (prtK l x 21) := by
  intro t W hS hlen
  have har : arB 21 x.ks.length = true := by have := hr.nk.ar; rw [hk] at this; exact this
  have hE0 : run t (psT nt l (prtK l x 21)) = run (run (run (run (run (run (run (run t [[108, 101, 116]]) [[109, 117, 116]]) [x.nm.data.toList]) [[58]]) (nt (kidN x 0))) [[61]]) (nt (kidN x 1))) [[59]] := by
    have e2 := list2 (fun y hy => (hr.nk.hin y hy).1) hl
    simp only [prtK, psT, psT_app, Pt.tk, run_app, List.append_nil, hv1, mutS_1]
    rw [if_neg (by omega), hl, e2]
    simp only [psT, Pt.tk, seqT, Int.toNat_natCast, List.append_nil, run_app, Nat.reduceSub, List.take_succ_cons, List.take_zero, List.drop_succ_cons, List.drop_zero]
  rw [hE0] at hlen ⊢
  clear hE0
  obtain ⟨T1, hT1⟩ : ∃ T, run t [[108, 101, 116]] = T := ⟨_, rfl⟩
  rw [hT1] at hlen ⊢
  obtain ⟨T2, hT2⟩ : ∃ T, run T1 [[109, 117, 116]] = T := ⟨_, rfl⟩
  rw [hT2] at hlen ⊢
  obtain ⟨T3, hT3⟩ : ∃ T, run T2 [x.nm.data.toList] = T := ⟨_, rfl⟩
  rw [hT3] at hlen ⊢
  obtain ⟨T4, hT4⟩ : ∃ T, run T3 [[58]] = T := ⟨_, rfl⟩
  rw [hT4] at hlen ⊢
  obtain ⟨T5, hT5⟩ : ∃ T, run T4 (nt (kidN x 0)) = T := ⟨_, rfl⟩
  rw [hT5] at hlen ⊢
  obtain ⟨T6, hT6⟩ : ∃ T, run T5 [[61]] = T := ⟨_, rfl⟩
  rw [hT6] at hlen ⊢
  obtain ⟨T7, hT7⟩ : ∃ T, run T6 (nt (kidN x 1)) = T := ⟨_, rfl⟩
  rw [hT7] at hlen ⊢
  obtain ⟨T8, hT8⟩ : ∃ T, run T7 [[59]] = T := ⟨_, rfl⟩
  rw [hT8] at hlen ⊢
  have hl8 : T8.length ≤ 140737488355328 := hlen
  have hl7 : T7.length ≤ 140737488355328 := Nat.le_trans (run_le _ _) (by rw [hT8]; exact hl8)
  have hl6 : T6.length ≤ 140737488355328 := Nat.le_trans (run_le _ _) (by rw [hT7]; exact hl7)
  have hl5 : T5.length ≤ 140737488355328 := Nat.le_trans (run_le _ _) (by rw [hT6]; exact hl6)
  have hl4 : T4.length ≤ 140737488355328 := Nat.le_trans (run_le _ _) (by rw [hT5]; exact hl5)
  have hl3 : T3.length ≤ 140737488355328 := Nat.le_trans (run_le _ _) (by rw [hT4]; exact hl4)
  have hl2 : T2.length ≤ 140737488355328 := Nat.le_trans (run_le _ _) (by rw [hT3]; exact hl3)
  have hl1 : T1.length ≤ 140737488355328 := Nat.le_trans (run_le _ _) (by rw [hT2]; exact hl2)
  have HC1 : Hid (∀ W, RSt w0 b (.slice ao l.length c) t W → Calls Tryz.prog 53 #[.pointer (some ⟨b, 0, none⟩), .string ⟨#[108, 101, 116]⟩] W fun e w' => e = .returned (.tuple #[]) ∧ PoR w0 b (.slice ao l.length c) T1 W w') := rput_h (s := ⟨#[108, 101, 116]⟩) (by simp) hT1 hl1
  have HC2 : Hid (∀ W, RSt w0 b (.slice ao l.length c) T1 W → Calls Tryz.prog 53 #[.pointer (some ⟨b, 0, none⟩), .string ⟨#[109, 117, 116]⟩] W fun e w' => e = .returned (.tuple #[]) ∧ PoR w0 b (.slice ao l.length c) T2 W w') := rput_h (s := ⟨#[109, 117, 116]⟩) (by simp) hT2 hl2
  have HC3 : Hid (∀ W, RSt w0 b (.slice ao l.length c) T2 W → Calls Tryz.prog 53 #[.pointer (some ⟨b, 0, none⟩), .string x.nm] W fun e w' => e = .returned (.tuple #[]) ∧ PoR w0 b (.slice ao l.length c) T3 W w') := rput_h (s := x.nm) hnm hT3 hl3
  have HC4 : Hid (∀ W, RSt w0 b (.slice ao l.length c) T3 W → Calls Tryz.prog 53 #[.pointer (some ⟨b, 0, none⟩), .string ⟨#[58]⟩] W fun e w' => e = .returned (.tuple #[]) ∧ PoR w0 b (.slice ao l.length c) T4 W w') := rput_h (s := ⟨#[58]⟩) (by simp) hT4 hl4
  have HC5 : Hid (∀ W, RSt w0 b (.slice ao l.length c) T4 W → Calls Tryz.prog 29 #[.pointer (some ⟨b, 0, none⟩), .int .i64 (kidN x 0 : Nat)] W fun e w' => e = .returned (.tuple #[]) ∧ PoR w0 b (.slice ao l.length c) T5 W w') := rnode_h (hr.kid 0 (by omega)) hT5 hl5
  have HC6 : Hid (∀ W, RSt w0 b (.slice ao l.length c) T5 W → Calls Tryz.prog 53 #[.pointer (some ⟨b, 0, none⟩), .string ⟨#[61]⟩] W fun e w' => e = .returned (.tuple #[]) ∧ PoR w0 b (.slice ao l.length c) T6 W w') := rput_h (s := ⟨#[61]⟩) (by simp) hT6 hl6
  have HC7 : Hid (∀ W, RSt w0 b (.slice ao l.length c) T6 W → Calls Tryz.prog 29 #[.pointer (some ⟨b, 0, none⟩), .int .i64 (kidN x 1 : Nat)] W fun e w' => e = .returned (.tuple #[]) ∧ PoR w0 b (.slice ao l.length c) T7 W w') := rnode_h (hr.kid 1 (by omega)) hT7 hl7
  have HC8 : Hid (∀ W, RSt w0 b (.slice ao l.length c) T7 W → Calls Tryz.prog 53 #[.pointer (some ⟨b, 0, none⟩), .string ⟨#[59]⟩] W fun e w' => e = .returned (.tuple #[]) ∧ PoR w0 b (.slice ao l.length c) T8 W w') := rput_h (s := ⟨#[59]⟩) (by simp) hT8 hl8
  have HS : Hid (RSt w0 b (.slice ao l.length c) t W) := hS
  obtain ⟨g0, o0, hka, hcell⟩ := hr.nk.addr (by omega)
  have HX : Hid (∀ W, Below w0.heap.size w0 W → W.cell? ⟨g0, o0, none⟩ = some (.int .i64 (kidN x 0 : Nat)) ∧ W.cell? ⟨g0, o0 + 1, none⟩ = some (.int .i64 (kidN x 1 : Nat))) := fun W hW => ⟨hcell W hW 0 (by omega), hcell W hW 1 (by omega)⟩
  have hc1 := hr.nk.ks.1
  have hc2 := hr.nk.ks.2.1
  rw [hl] at hc1
  unfold nda
  rw [hk, hl, hka]
  clear hr hlen hS har hk hT1 hl1 hT2 hl2 hT3 hl3 hT4 hl4 hT5 hl5 hT6 hl6 hT7 hl7 hT8 hl8 hcell hka hl hnm
  generalize kidN x 0 = q0 at *
  generalize kidN x 1 = q1 at *
  generalize x.nm = xn at *
  generalize x.v = xv at *
  generalize x.kc = xc at *
  generalize x.ka = xa at *
  generalize x.fr = xf at *
  generalize x.en = xe at *
  generalize l.length = ln at *
  subst hv1
  have HB0 : Hid (BsR w0 b (.slice ao ln c) t W #[.int .i64 21, .string xn, .int .i64 1, .slice (some ⟨g0, o0, none⟩) 2 xc, .int .i64 xf, .int .i64 xe] (W.alloc (.cells #[.int .i64 21, .string xn, .int .i64 1, .slice (some ⟨g0, o0, none⟩) 2 xc, .int .i64 xf, .int .i64 xe] 53))) := BsR.start HS.out _
  have r00 : (W.alloc (.cells #[.int .i64 21, .string xn, .int .i64 1, .slice (some ⟨g0, o0, none⟩) 2 xc, .int .i64 xf, .int .i64 xe] 53)).cell? ⟨g0, o0, none⟩ = some (.int .i64 q0) := (HX.out _ HB0.out.st.bl).1
  have r01 : (W.alloc (.cells #[.int .i64 21, .string xn, .int .i64 1, .slice (some ⟨g0, o0, none⟩) 2 xc, .int .i64 xf, .int .i64 xe] 53)).cell? ⟨g0, o0 + 1, none⟩ = some (.int .i64 q1) := (HX.out _ HB0.out.st.bl).2
  go_enter Tryz.func52, Tryz.ntmps52
  go_wp2_with fail
  refine (HC1.out _ HB0.out.st).mono ?_
  rintro e w1 ⟨rfl, hE⟩
  have HB1 : Hid (BsR w0 b (.slice ao ln c) T1 W #[.int .i64 21, .string xn, .int .i64 1, .slice (some ⟨g0, o0, none⟩) 2 xc, .int .i64 xf, .int .i64 xe] w1) := HB0.out.put hE
  clear hE
  obtain ⟨d10, d11, d12, d13, d14, d15⟩ := box6 HB1.out.bx
  obtain ⟨r10, r11⟩ := HX.out w1 HB1.out.st.bl
  go_wp2_with fail
  refine (HC2.out _ HB1.out.st).mono ?_
  rintro e w2 ⟨rfl, hE⟩
  have HB2 : Hid (BsR w0 b (.slice ao ln c) T2 W #[.int .i64 21, .string xn, .int .i64 1, .slice (some ⟨g0, o0, none⟩) 2 xc, .int .i64 xf, .int .i64 xe] w2) := HB1.out.put hE
  clear hE
  obtain ⟨d20, d21, d22, d23, d24, d25⟩ := box6 HB2.out.bx
  obtain ⟨r20, r21⟩ := HX.out w2 HB2.out.st.bl
  go_wp2_with fail
  refine (HC3.out _ HB2.out.st).mono ?_
  rintro e w3 ⟨rfl, hE⟩
  have HB3 : Hid (BsR w0 b (.slice ao ln c) T3 W #[.int .i64 21, .string xn, .int .i64 1, .slice (some ⟨g0, o0, none⟩) 2 xc, .int .i64 xf, .int .i64 xe] w3) := HB2.out.put hE
  clear hE
  obtain ⟨d30, d31, d32, d33, d34, d35⟩ := box6 HB3.out.bx
  obtain ⟨r30, r31⟩ := HX.out w3 HB3.out.st.bl
  go_wp2_with fail
  refine (HC4.out _ HB3.out.st).mono ?_
  rintro e w4 ⟨rfl, hE⟩
  have HB4 : Hid (BsR w0 b (.slice ao ln c) T4 W #[.int .i64 21, .string xn, .int .i64 1, .slice (some ⟨g0, o0, none⟩) 2 xc, .int .i64 xf, .int .i64 xe] w4) := HB3.out.put hE
  clear hE
  obtain ⟨d40, d41, d42, d43, d44, d45⟩ := box6 HB4.out.bx
  obtain ⟨r40, r41⟩ := HX.out w4 HB4.out.st.bl
  go_wp2_with fail
  refine (HC5.out _ HB4.out.st).mono ?_
  rintro e w5 ⟨rfl, hE⟩
  have HB5 : Hid (BsR w0 b (.slice ao ln c) T5 W #[.int .i64 21, .string xn, .int .i64 1, .slice (some ⟨g0, o0, none⟩) 2 xc, .int .i64 xf, .int .i64 xe] w5) := HB4.out.put hE
  clear hE
  obtain ⟨d50, d51, d52, d53, d54, d55⟩ := box6 HB5.out.bx
  obtain ⟨r50, r51⟩ := HX.out w5 HB5.out.st.bl
  go_wp2_with fail
  refine (HC6.out _ HB5.out.st).mono ?_
  rintro e w6 ⟨rfl, hE⟩
  have HB6 : Hid (BsR w0 b (.slice ao ln c) T6 W #[.int .i64 21, .string xn, .int .i64 1, .slice (some ⟨g0, o0, none⟩) 2 xc, .int .i64 xf, .int .i64 xe] w6) := HB5.out.put hE
  clear hE
  obtain ⟨d60, d61, d62, d63, d64, d65⟩ := box6 HB6.out.bx
  obtain ⟨r60, r61⟩ := HX.out w6 HB6.out.st.bl
  go_wp2_with fail
  refine (HC7.out _ HB6.out.st).mono ?_
  rintro e w7 ⟨rfl, hE⟩
  have HB7 : Hid (BsR w0 b (.slice ao ln c) T7 W #[.int .i64 21, .string xn, .int .i64 1, .slice (some ⟨g0, o0, none⟩) 2 xc, .int .i64 xf, .int .i64 xe] w7) := HB6.out.put hE
  clear hE
  obtain ⟨d70, d71, d72, d73, d74, d75⟩ := box6 HB7.out.bx
  obtain ⟨r70, r71⟩ := HX.out w7 HB7.out.st.bl
  go_wp2_with fail
  refine (HC8.out _ HB7.out.st).mono ?_
  rintro e w8 ⟨rfl, hE⟩
  have HB8 : Hid (BsR w0 b (.slice ao ln c) T8 W #[.int .i64 21, .string xn, .int .i64 1, .slice (some ⟨g0, o0, none⟩) 2 xc, .int .i64 xf, .int .i64 xe] w8) := HB7.out.put hE
  clear hE
  have HE : Hid (PoR w0 b (.slice ao ln c) T8 W w8) := HB8.out.pos
  clear HB8
  go_wp2
  go_end0
  exact ⟨rfl, HE.out⟩
set_option maxRecDepth 100000 in
set_option maxHeartbeats 4000000 in
theorem rf_21b0 (w0 : World) (b : Nat) (ao : Option Addr) (c : Nat) (l : List Nd) (nt : Nat → Tks) (K : Nat) (x : Nd) (hk : x.k = 21) (hr : NdR w0 b ao c l nt K x) (hnm : x.nm.data.toList ≠ []) (hl : x.ks.length = 2) (hv0 : ¬ x.v = 1) : PrR w0 b (.slice ao l.length c) l nt 52 x (prtK l x 21) := by
  intro t W hS hlen
  have har : arB 21 x.ks.length = true := by have := hr.nk.ar; rw [hk] at this; exact this
  have hE0 : run t (psT nt l (prtK l x 21)) = run (run (run (run (run (run (run t [[108, 101, 116]]) [x.nm.data.toList]) [[58]]) (nt (kidN x 0))) [[61]]) (nt (kidN x 1))) [[59]] := by
    have e2 := list2 (fun y hy => (hr.nk.hin y hy).1) hl
    simp only [prtK, psT, psT_app, Pt.tk, run_app, List.append_nil, mutS_0 hv0, run_e]
    rw [if_neg (by omega), hl, e2]
    simp only [psT, Pt.tk, seqT, Int.toNat_natCast, List.append_nil, run_app, Nat.reduceSub, List.take_succ_cons, List.take_zero, List.drop_succ_cons, List.drop_zero]
  rw [hE0] at hlen ⊢
  clear hE0
  obtain ⟨T1, hT1⟩ : ∃ T, run t [[108, 101, 116]] = T := ⟨_, rfl⟩
  rw [hT1] at hlen ⊢
  obtain ⟨T2, hT2⟩ : ∃ T, run T1 [x.nm.data.toList] = T := ⟨_, rfl⟩
  rw [hT2] at hlen ⊢
  obtain ⟨T3, hT3⟩ : ∃ T, run T2 [[58]] = T := ⟨_, rfl⟩
  rw [hT3] at hlen ⊢
  obtain ⟨T4, hT4⟩ : ∃ T, run T3 (nt (kidN x 0)) = T := ⟨_, rfl⟩
  rw [hT4] at hlen ⊢
  obtain ⟨T5, hT5⟩ : ∃ T, run T4 [[61]] = T := ⟨_, rfl⟩
  rw [hT5] at hlen ⊢
  obtain ⟨T6, hT6⟩ : ∃ T, run T5 (nt (kidN x 1)) = T := ⟨_, rfl⟩
  rw [hT6] at hlen ⊢
  obtain ⟨T7, hT7⟩ : ∃ T, run T6 [[59]] = T := ⟨_, rfl⟩
  rw [hT7] at hlen ⊢
  have hl7 : T7.length ≤ 140737488355328 := hlen
  have hl6 : T6.length ≤ 140737488355328 := Nat.le_trans (run_le _ _) (by rw [hT7]; exact hl7)
  have hl5 : T5.length ≤ 140737488355328 := Nat.le_trans (run_le _ _) (by rw [hT6]; exact hl6)
  have hl4 : T4.length ≤ 140737488355328 := Nat.le_trans (run_le _ _) (by rw [hT5]; exact hl5)
  have hl3 : T3.length ≤ 140737488355328 := Nat.le_trans (run_le _ _) (by rw [hT4]; exact hl4)
  have hl2 : T2.length ≤ 140737488355328 := Nat.le_trans (run_le _ _) (by rw [hT3]; exact hl3)
  have hl1 : T1.length ≤ 140737488355328 := Nat.le_trans (run_le _ _) (by rw [hT2]; exact hl2)
  have HC1 : Hid (∀ W, RSt w0 b (.slice ao l.length c) t W → Calls Tryz.prog 53 #[.pointer (some ⟨b, 0, none⟩), .string ⟨#[108, 101, 116]⟩] W fun e w' => e = .returned (.tuple #[]) ∧ PoR w0 b (.slice ao l.length c) T1 W w') := rput_h (s := ⟨#[108, 101, 116]⟩) (by simp) hT1 hl1
  have HC2 : Hid (∀ W, RSt w0 b (.slice ao l.length c) T1 W → Calls Tryz.prog 53 #[.pointer (some ⟨b, 0, none⟩), .string x.nm] W fun e w' => e = .returned (.tuple #[]) ∧ PoR w0 b (.slice ao l.length c) T2 W w') := rput_h (s := x.nm) hnm hT2 hl2
  have HC3 : Hid (∀ W, RSt w0 b (.slice ao l.length c) T2 W → Calls Tryz.prog 53 #[.pointer (some ⟨b, 0, none⟩), .string ⟨#[58]⟩] W fun e w' => e = .returned (.tuple #[]) ∧ PoR w0 b (.slice ao l.length c) T3 W w') := rput_h (s := ⟨#[58]⟩) (by simp) hT3 hl3
  have HC4 : Hid (∀ W, RSt w0 b (.slice ao l.length c) T3 W → Calls Tryz.prog 29 #[.pointer (some ⟨b, 0, none⟩), .int .i64 (kidN x 0 : Nat)] W fun e w' => e = .returned (.tuple #[]) ∧ PoR w0 b (.slice ao l.length c) T4 W w') := rnode_h (hr.kid 0 (by omega)) hT4 hl4
  have HC5 : Hid (∀ W, RSt w0 b (.slice ao l.length c) T4 W → Calls Tryz.prog 53 #[.pointer (some ⟨b, 0, none⟩), .string ⟨#[61]⟩] W fun e w' => e = .returned (.tuple #[]) ∧ PoR w0 b (.slice ao l.length c) T5 W w') := rput_h (s := ⟨#[61]⟩) (by simp) hT5 hl5
  have HC6 : Hid (∀ W, RSt w0 b (.slice ao l.length c) T5 W → Calls Tryz.prog 29 #[.pointer (some ⟨b, 0, none⟩), .int .i64 (kidN x 1 : Nat)] W fun e w' => e = .returned (.tuple #[]) ∧ PoR w0 b (.slice ao l.length c) T6 W w') := rnode_h (hr.kid 1 (by omega)) hT6 hl6
  have HC7 : Hid (∀ W, RSt w0 b (.slice ao l.length c) T6 W → Calls Tryz.prog 53 #[.pointer (some ⟨b, 0, none⟩), .string ⟨#[59]⟩] W fun e w' => e = .returned (.tuple #[]) ∧ PoR w0 b (.slice ao l.length c) T7 W w') := rput_h (s := ⟨#[59]⟩) (by simp) hT7 hl7
  have HS : Hid (RSt w0 b (.slice ao l.length c) t W) := hS
  obtain ⟨g0, o0, hka, hcell⟩ := hr.nk.addr (by omega)
  have HX : Hid (∀ W, Below w0.heap.size w0 W → W.cell? ⟨g0, o0, none⟩ = some (.int .i64 (kidN x 0 : Nat)) ∧ W.cell? ⟨g0, o0 + 1, none⟩ = some (.int .i64 (kidN x 1 : Nat))) := fun W hW => ⟨hcell W hW 0 (by omega), hcell W hW 1 (by omega)⟩
  have hc1 := hr.nk.ks.1
  have hc2 := hr.nk.ks.2.1
  rw [hl] at hc1
  unfold nda
  rw [hk, hl, hka]
  clear hr hlen hS har hk hT1 hl1 hT2 hl2 hT3 hl3 hT4 hl4 hT5 hl5 hT6 hl6 hT7 hl7 hcell hka hl hnm
  generalize kidN x 0 = q0 at *
  generalize kidN x 1 = q1 at *
  generalize x.nm = xn at *
  generalize x.v = xv at *
  generalize x.kc = xc at *
  generalize x.ka = xa at *
  generalize x.fr = xf at *
  generalize x.en = xe at *
  generalize l.length = ln at *
  have hvb : (xv == 1) = false := by simpa using hv0
  have HB0 : Hid (BsR w0 b (.slice ao ln c) t W #[.int .i64 21, .string xn, .int .i64 xv, .slice (some ⟨g0, o0, none⟩) 2 xc, .int .i64 xf, .int .i64 xe] (W.alloc (.cells #[.int .i64 21, .string xn, .int .i64 xv, .slice (some ⟨g0, o0, none⟩) 2 xc, .int .i64 xf, .int .i64 xe] 53))) := BsR.start HS.out _
  have r00 : (W.alloc (.cells #[.int .i64 21, .string xn, .int .i64 xv, .slice (some ⟨g0, o0, none⟩) 2 xc, .int .i64 xf, .int .i64 xe] 53)).cell? ⟨g0, o0, none⟩ = some (.int .i64 q0) := (HX.out _ HB0.out.st.bl).1
  have r01 : (W.alloc (.cells #[.int .i64 21, .string xn, .int .i64 xv, .slice (some ⟨g0, o0, none⟩) 2 xc, .int .i64 xf, .int .i64 xe] 53)).cell? ⟨g0, o0 + 1, none⟩ = some (.int .i64 q1) := (HX.out _ HB0.out.st.bl).2
  go_enter Tryz.func52, Tryz.ntmps52
  go_wp2_with fail
  refine (HC1.out _ HB0.out.st).mono ?_
  rintro e w1 ⟨rfl, hE⟩
  have HB1 : Hid (BsR w0 b (.slice ao ln c) T1 W #[.int .i64 21, .string xn, .int .i64 xv, .slice (some ⟨g0, o0, none⟩) 2 xc, .int .i64 xf, .int .i64 xe] w1) := HB0.out.put hE
  clear hE
  obtain ⟨d10, d11, d12, d13, d14, d15⟩ := box6 HB1.out.bx
  obtain ⟨r10, r11⟩ := HX.out w1 HB1.out.st.bl
  go_wp2_with fail
  refine (HC2.out _ HB1.out.st).mono ?_
  rintro e w2 ⟨rfl, hE⟩
  have HB2 : Hid (BsR w0 b (.slice ao ln c) T2 W #[.int .i64 21, .string xn, .int .i64 xv, .slice (some ⟨g0, o0, none⟩) 2 xc, .int .i64 xf, .int .i64 xe] w2) := HB1.out.put hE
  clear hE
  obtain ⟨d20, d21, d22, d23, d24, d25⟩ := box6 HB2.out.bx
  obtain ⟨r20, r21⟩ := HX.out w2 HB2.out.st.bl
  go_wp2_with fail
  refine (HC3.out _ HB2.out.st).mono ?_
  rintro e w3 ⟨rfl, hE⟩
  have HB3 : Hid (BsR w0 b (.slice ao ln c) T3 W #[.int .i64 21, .string xn, .int .i64 xv, .slice (some ⟨g0, o0, none⟩) 2 xc, .int .i64 xf, .int .i64 xe] w3) := HB2.out.put hE
  clear hE
  obtain ⟨d30, d31, d32, d33, d34, d35⟩ := box6 HB3.out.bx
  obtain ⟨r30, r31⟩ := HX.out w3 HB3.out.st.bl
  go_wp2_with fail
  refine (HC4.out _ HB3.out.st).mono ?_
  rintro e w4 ⟨rfl, hE⟩
  have HB4 : Hid (BsR w0 b (.slice ao ln c) T4 W #[.int .i64 21, .string xn, .int .i64 xv, .slice (some ⟨g0, o0, none⟩) 2 xc, .int .i64 xf, .int .i64 xe] w4) := HB3.out.put hE
  clear hE
  obtain ⟨d40, d41, d42, d43, d44, d45⟩ := box6 HB4.out.bx
  obtain ⟨r40, r41⟩ := HX.out w4 HB4.out.st.bl
  go_wp2_with fail
  refine (HC5.out _ HB4.out.st).mono ?_
  rintro e w5 ⟨rfl, hE⟩
  have HB5 : Hid (BsR w0 b (.slice ao ln c) T5 W #[.int .i64 21, .string xn, .int .i64 xv, .slice (some ⟨g0, o0, none⟩) 2 xc, .int .i64 xf, .int .i64 xe] w5) := HB4.out.put hE
  clear hE
  obtain ⟨d50, d51, d52, d53, d54, d55⟩ := box6 HB5.out.bx
  obtain ⟨r50, r51⟩ := HX.out w5 HB5.out.st.bl
  go_wp2_with fail
  refine (HC6.out _ HB5.out.st).mono ?_
  rintro e w6 ⟨rfl, hE⟩
  have HB6 : Hid (BsR w0 b (.slice ao ln c) T6 W #[.int .i64 21, .string xn, .int .i64 xv, .slice (some ⟨g0, o0, none⟩) 2 xc, .int .i64 xf, .int .i64 xe] w6) := HB5.out.put hE
  clear hE
  obtain ⟨d60, d61, d62, d63, d64, d65⟩ := box6 HB6.out.bx
  obtain ⟨r60, r61⟩ := HX.out w6 HB6.out.st.bl
  go_wp2_with fail
  refine (HC7.out _ HB6.out.st).mono ?_
  rintro e w7 ⟨rfl, hE⟩
  have HB7 : Hid (BsR w0 b (.slice ao ln c) T7 W #[.int .i64 21, .string xn, .int .i64 xv, .slice (some ⟨g0, o0, none⟩) 2 xc, .int .i64 xf, .int .i64 xe] w7) := HB6.out.put hE
  clear hE
  have HE : Hid (PoR w0 b (.slice ao ln c) T7 W w7) := HB7.out.pos
  clear HB7
  go_wp2
  go_end0
  exact ⟨rfl, HE.out⟩
end
end Go.Proofs.YtkkmeogehapjoaaGreatDoor
