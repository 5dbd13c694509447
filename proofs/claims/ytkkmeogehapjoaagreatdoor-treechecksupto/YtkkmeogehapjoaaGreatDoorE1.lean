/- The document: types put. The document: a crate put. The document: a block put. -/
import Derived.Test.YtkkmeogehapjoaaGreatDoorDD
import Derived.Test.YtkkmeogehapjoaaGreatDoorD4
import Derived.Test.YtkkmeogehapjoaaGreatDoorR1
namespace Go.Proofs.YtkkmeogehapjoaaGreatDoor
section
open Go.RowKit Go.Shelf
set_option maxRecDepth 100000 in
set_option maxHeartbeats 4000000 in
theorem rf_10 (w0 : World) (b : Nat) (ao : Option Addr) (c : Nat) (l : List Nd) (nt : Nat → Tks) (K : Nat) (x : Nd) (hk : x.k = 10) (hr : NdR w0 b ao c l nt K x) : PrR w0 b (.slice ao l.length c) l nt 50 x (prtK l x 10) := by
  intro t W hS hlen
  have har : arB 10 x.ks.length = true := by have := hr.nk.ar; rw [hk] at this; exact this
  have hl : x.ks.length = 0 := by simpa [arB] using har
  have hE0 : run t (psT nt l (prtK l x 10)) = run t [[105, 54, 52]] := by
    simp only [prtK, psT, Pt.tk, List.append_nil]
  rw [hE0] at hlen ⊢
  clear hE0
  obtain ⟨T1, hT1⟩ : ∃ T, run t [[105, 54, 52]] = T := ⟨_, rfl⟩
  rw [hT1] at hlen ⊢
  have hl1 : T1.length ≤ 140737488355328 := hlen
  have HC1 : Hid (∀ W, RSt w0 b (.slice ao l.length c) t W → Calls Tryz.prog 53 #[.pointer (some ⟨b, 0, none⟩), .string ⟨#[105, 54, 52]⟩] W fun e w' => e = .returned (.tuple #[]) ∧ PoR w0 b (.slice ao l.length c) T1 W w') := rput_h (s := ⟨#[105, 54, 52]⟩) (by simp) hT1 hl1
  have HS : Hid (RSt w0 b (.slice ao l.length c) t W) := hS
  have hc1 := hr.nk.ks.1
  have hc2 := hr.nk.ks.2.1
  rw [hl] at hc1
  unfold nda
  rw [hk, hl]
  clear hr hlen hS har hk hT1 hl1 hl
  generalize x.nm = xn at *
  generalize x.v = xv at *
  generalize x.kc = xc at *
  generalize x.ka = xa at *
  generalize x.fr = xf at *
  generalize x.en = xe at *
  generalize l.length = ln at *
  have HB0 : Hid (BsR w0 b (.slice ao ln c) t W #[.int .i64 10, .string xn, .int .i64 xv, .slice xa 0 xc, .int .i64 xf, .int .i64 xe] (W.alloc (.cells #[.int .i64 10, .string xn, .int .i64 xv, .slice xa 0 xc, .int .i64 xf, .int .i64 xe] 53))) := BsR.start HS.out _
  go_enter Tryz.func50, Tryz.ntmps50
  go_wp2_with fail
  refine (HC1.out _ HB0.out.st).mono ?_
  rintro e w1 ⟨rfl, hE⟩
  have HB1 : Hid (BsR w0 b (.slice ao ln c) T1 W #[.int .i64 10, .string xn, .int .i64 xv, .slice xa 0 xc, .int .i64 xf, .int .i64 xe] w1) := HB0.out.put hE
  clear hE
  have HE : Hid (PoR w0 b (.slice ao ln c) T1 W w1) := HB1.out.pos
  clear HB1
  go_wp2
  go_end0
  exact ⟨rfl, HE.out⟩
set_option maxRecDepth 100000 in
set_option maxHeartbeats 4000000 in
theorem rf_11 (w0 : World) (b : Nat) (ao : Option Addr) (c : Nat) (l : List Nd) (nt : Nat → Tks) (K : Nat) (x : Nd) (hk : x.k = 11) (hr : NdR w0 b ao c l nt K x) : PrR w0 b (.slice ao l.length c) l nt 50 x (prtK l x 11) := by
  intro t W hS hlen
  have har : arB 11 x.ks.length = true := by have := hr.nk.ar; rw [hk] at this; exact this
  have hl : x.ks.length = 0 := by simpa [arB] using har
  have hE0 : run t (psT nt l (prtK l x 11)) = run t [[98, 111, 111, 108]] := by
    simp only [prtK, psT, Pt.tk, List.append_nil]
  rw [hE0] at hlen ⊢
  clear hE0
  obtain ⟨T1, hT1⟩ : ∃ T, run t [[98, 111, 111, 108]] = T := ⟨_, rfl⟩
  rw [hT1] at hlen ⊢
  have hl1 : T1.length ≤ 140737488355328 := hlen
  have HC1 : Hid (∀ W, RSt w0 b (.slice ao l.length c) t W → Calls Tryz.prog 53 #[.pointer (some ⟨b, 0, none⟩), .string ⟨#[98, 111, 111, 108]⟩] W fun e w' => e = .returned (.tuple #[]) ∧ PoR w0 b (.slice ao l.length c) T1 W w') := rput_h (s := ⟨#[98, 111, 111, 108]⟩) (by simp) hT1 hl1
  have HS : Hid (RSt w0 b (.slice ao l.length c) t W) := hS
  have hc1 := hr.nk.ks.1
  have hc2 := hr.nk.ks.2.1
  rw [hl] at hc1
  unfold nda
  rw [hk, hl]
  clear hr hlen hS har hk hT1 hl1 hl
  generalize x.nm = xn at *
  generalize x.v = xv at *
  generalize x.kc = xc at *
  generalize x.ka = xa at *
  generalize x.fr = xf at *
  generalize x.en = xe at *
  generalize l.length = ln at *
  have HB0 : Hid (BsR w0 b (.slice ao ln c) t W #[.int .i64 11, .string xn, .int .i64 xv, .slice xa 0 xc, .int .i64 xf, .int .i64 xe] (W.alloc (.cells #[.int .i64 11, .string xn, .int .i64 xv, .slice xa 0 xc, .int .i64 xf, .int .i64 xe] 53))) := BsR.start HS.out _
  go_enter Tryz.func50, Tryz.ntmps50
  go_wp2_with fail
  refine (HC1.out _ HB0.out.st).mono ?_
  rintro e w1 ⟨rfl, hE⟩
  have HB1 : Hid (BsR w0 b (.slice ao ln c) T1 W #[.int .i64 11, .string xn, .int .i64 xv, .slice xa 0 xc, .int .i64 xf, .int .i64 xe] w1) := HB0.out.put hE
  clear hE
  have HE : Hid (PoR w0 b (.slice ao ln c) T1 W w1) := HB1.out.pos
  clear HB1
  go_wp2
  go_end0
  exact ⟨rfl, HE.out⟩
set_option maxRecDepth 100000 in
set_option maxHeartbeats 4000000 in
theorem rf_12 (w0 : World) (b : Nat) (ao : Option Addr) (c : Nat) (l : List Nd) (nt : Nat → Tks) (K : Nat) (x : Nd) (hk : x.k = 12) (hr : NdR w0 b ao c l nt K x) : PrR w0 b (.slice ao l.length c) l nt 50 x (prtK l x 12) := by
  intro t W hS hlen
  have har : arB 12 x.ks.length = true := by have := hr.nk.ar; rw [hk] at this; exact this
  have hl : x.ks.length = 0 := by simpa [arB] using har
  have hE0 : run t (psT nt l (prtK l x 12)) = run (run t [[40]]) [[41]] := by
    simp only [prtK, psT, Pt.tk, run_app, List.append_nil]
  rw [hE0] at hlen ⊢
  clear hE0
  obtain ⟨T1, hT1⟩ : ∃ T, run t [[40]] = T := ⟨_, rfl⟩
  rw [hT1] at hlen ⊢
  obtain ⟨T2, hT2⟩ : ∃ T, run T1 [[41]] = T := ⟨_, rfl⟩
  rw [hT2] at hlen ⊢
  have hl2 : T2.length ≤ 140737488355328 := hlen
  have hl1 : T1.length ≤ 140737488355328 := Nat.le_trans (run_le _ _) (by rw [hT2]; exact hl2)
  have HC1 : Hid (∀ W, RSt w0 b (.slice ao l.length c) t W → Calls Tryz.prog 53 #[.pointer (some ⟨b, 0, none⟩), .string ⟨#[40]⟩] W fun e w' => e = .returned (.tuple #[]) ∧ PoR w0 b (.slice ao l.length c) T1 W w') := rput_h (s := ⟨#[40]⟩) (by simp) hT1 hl1
  have HC2 : Hid (∀ W, RSt w0 b (.slice ao l.length c) T1 W → Calls Tryz.prog 53 #[.pointer (some ⟨b, 0, none⟩), .string ⟨#[41]⟩] W fun e w' => e = .returned (.tuple #[]) ∧ PoR w0 b (.slice ao l.length c) T2 W w') := rput_h (s := ⟨#[41]⟩) (by simp) hT2 hl2
  have HS : Hid (RSt w0 b (.slice ao l.length c) t W) := hS
  have hc1 := hr.nk.ks.1
  have hc2 := hr.nk.ks.2.1
  rw [hl] at hc1
  unfold nda
  rw [hk, hl]
  clear hr hlen hS har hk hT1 hl1 hT2 hl2 hl
  generalize x.nm = xn at *
  generalize x.v = xv at *
  generalize x.kc = xc at *
  generalize x.ka = xa at *
  generalize x.fr = xf at *
  generalize x.en = xe at *
  generalize l.length = ln at *
  have HB0 : Hid (BsR w0 b (.slice ao ln c) t W #[.int .i64 12, .string xn, .int .i64 xv, .slice xa 0 xc, .int .i64 xf, .int .i64 xe] (W.alloc (.cells #[.int .i64 12, .string xn, .int .i64 xv, .slice xa 0 xc, .int .i64 xf, .int .i64 xe] 53))) := BsR.start HS.out _
  go_enter Tryz.func50, Tryz.ntmps50
  go_wp2_with fail
  refine (HC1.out _ HB0.out.st).mono ?_
  rintro e w1 ⟨rfl, hE⟩
  have HB1 : Hid (BsR w0 b (.slice ao ln c) T1 W #[.int .i64 12, .string xn, .int .i64 xv, .slice xa 0 xc, .int .i64 xf, .int .i64 xe] w1) := HB0.out.put hE
  clear hE
  obtain ⟨d10, d11, d12, d13, d14, d15⟩ := box6 HB1.out.bx
  go_wp2_with fail
  refine (HC2.out _ HB1.out.st).mono ?_
  rintro e w2 ⟨rfl, hE⟩
  have HB2 : Hid (BsR w0 b (.slice ao ln c) T2 W #[.int .i64 12, .string xn, .int .i64 xv, .slice xa 0 xc, .int .i64 xf, .int .i64 xe] w2) := HB1.out.put hE
  clear hE
  have HE : Hid (PoR w0 b (.slice ao ln c) T2 W w2) := HB2.out.pos
  clear HB2
  go_wp2
  go_end0
  exact ⟨rfl, HE.out⟩
set_option maxRecDepth 100000 in
set_option maxHeartbeats 4000000 in
theorem rf_13 (w0 : World) (b : Nat) (ao : Option Addr) (c : Nat) (l : List Nd) (nt : Nat → Tks) (K : Nat) (x : Nd) (hk : x.k = 13) (hr : NdR w0 b ao c l nt K x) (hnm : x.nm.data.toList ≠ []) : PrR w0 b (.slice ao l.length c) l nt 50 x (prtK l x 13) := by
  intro t W hS hlen
  have har : arB 13 x.ks.length = true := by have := hr.nk.ar; rw [hk] at this; exact this
  have hl : x.ks.length = 0 := by simpa [arB] using har
  have hE0 : run t (psT nt l (prtK l x 13)) = run t [x.nm.data.toList] := by
    simp only [prtK, psT, Pt.tk, List.append_nil]
  rw [hE0] at hlen ⊢
  clear hE0
  obtain ⟨T1, hT1⟩ : ∃ T, run t [x.nm.data.toList] = T := ⟨_, rfl⟩
  rw [hT1] at hlen ⊢
  have hl1 : T1.length ≤ 140737488355328 := hlen
  have HC1 : Hid (∀ W, RSt w0 b (.slice ao l.length c) t W → Calls Tryz.prog 53 #[.pointer (some ⟨b, 0, none⟩), .string x.nm] W fun e w' => e = .returned (.tuple #[]) ∧ PoR w0 b (.slice ao l.length c) T1 W w') := rput_h (s := x.nm) hnm hT1 hl1
  have HS : Hid (RSt w0 b (.slice ao l.length c) t W) := hS
  have hc1 := hr.nk.ks.1
  have hc2 := hr.nk.ks.2.1
  rw [hl] at hc1
  unfold nda
  rw [hk, hl]
  clear hr hlen hS har hk hT1 hl1 hl hnm
  generalize x.nm = xn at *
  generalize x.v = xv at *
  generalize x.kc = xc at *
  generalize x.ka = xa at *
  generalize x.fr = xf at *
  generalize x.en = xe at *
  generalize l.length = ln at *
  have HB0 : Hid (BsR w0 b (.slice ao ln c) t W #[.int .i64 13, .string xn, .int .i64 xv, .slice xa 0 xc, .int .i64 xf, .int .i64 xe] (W.alloc (.cells #[.int .i64 13, .string xn, .int .i64 xv, .slice xa 0 xc, .int .i64 xf, .int .i64 xe] 53))) := BsR.start HS.out _
  go_enter Tryz.func50, Tryz.ntmps50
  go_wp2_with fail
  refine (HC1.out _ HB0.out.st).mono ?_
  rintro e w1 ⟨rfl, hE⟩
  have HB1 : Hid (BsR w0 b (.slice ao ln c) T1 W #[.int .i64 13, .string xn, .int .i64 xv, .slice xa 0 xc, .int .i64 xf, .int .i64 xe] w1) := HB0.out.put hE
  clear hE
  have HE : Hid (PoR w0 b (.slice ao ln c) T1 W w1) := HB1.out.pos
  clear HB1
  go_wp2
  go_end0
  exact ⟨rfl, HE.out⟩
set_option maxRecDepth 100000 in
set_option maxHeartbeats 4000000 in
theorem rf_14 (w0 : World) (b : Nat) (ao : Option Addr) (c : Nat) (l : List Nd) (nt : Nat → Tks) (K : Nat) (x : Nd) (hk : x.k = 14) (hr : NdR w0 b ao c l nt K x) : PrR w0 b (.slice ao l.length c) l nt 50 x (prtK l x 14) := by
  intro t W hS hlen
  have har : arB 14 x.ks.length = true := by have := hr.nk.ar; rw [hk] at this; exact this
  have hl : x.ks.length = 1 := by simpa [arB] using har
  have hE0 : run t (psT nt l (prtK l x 14)) = run (run t [[38]]) (nt (kidN x 0)) := by
    simp only [prtK, psT, Pt.tk, run_app, List.append_nil]
  rw [hE0] at hlen ⊢
  clear hE0
  obtain ⟨T1, hT1⟩ : ∃ T, run t [[38]] = T := ⟨_, rfl⟩
  rw [hT1] at hlen ⊢
  obtain ⟨T2, hT2⟩ : ∃ T, run T1 (nt (kidN x 0)) = T := ⟨_, rfl⟩
  rw [hT2] at hlen ⊢
  have hl2 : T2.length ≤ 140737488355328 := hlen
  have hl1 : T1.length ≤ 140737488355328 := Nat.le_trans (run_le _ _) (by rw [hT2]; exact hl2)
  have HC1 : Hid (∀ W, RSt w0 b (.slice ao l.length c) t W → Calls Tryz.prog 53 #[.pointer (some ⟨b, 0, none⟩), .string ⟨#[38]⟩] W fun e w' => e = .returned (.tuple #[]) ∧ PoR w0 b (.slice ao l.length c) T1 W w') := rput_h (s := ⟨#[38]⟩) (by simp) hT1 hl1
  have HC2 : Hid (∀ W, RSt w0 b (.slice ao l.length c) T1 W → Calls Tryz.prog 29 #[.pointer (some ⟨b, 0, none⟩), .int .i64 (kidN x 0 : Nat)] W fun e w' => e = .returned (.tuple #[]) ∧ PoR w0 b (.slice ao l.length c) T2 W w') := rnode_h (hr.kid 0 (by omega)) hT2 hl2
  have HS : Hid (RSt w0 b (.slice ao l.length c) t W) := hS
  obtain ⟨g0, o0, hka, hcell⟩ := hr.nk.addr (by omega)
  have HX : Hid (∀ W, Below w0.heap.size w0 W → W.cell? ⟨g0, o0, none⟩ = some (.int .i64 (kidN x 0 : Nat))) := fun W hW => hcell W hW 0 (by omega)
  have hc1 := hr.nk.ks.1
  have hc2 := hr.nk.ks.2.1
  rw [hl] at hc1
  unfold nda
  rw [hk, hl, hka]
  clear hr hlen hS har hk hT1 hl1 hT2 hl2 hcell hka hl
  generalize kidN x 0 = q0 at *
  generalize x.nm = xn at *
  generalize x.v = xv at *
  generalize x.kc = xc at *
  generalize x.ka = xa at *
  generalize x.fr = xf at *
  generalize x.en = xe at *
  generalize l.length = ln at *
  have HB0 : Hid (BsR w0 b (.slice ao ln c) t W #[.int .i64 14, .string xn, .int .i64 xv, .slice (some ⟨g0, o0, none⟩) 1 xc, .int .i64 xf, .int .i64 xe] (W.alloc (.cells #[.int .i64 14, .string xn, .int .i64 xv, .slice (some ⟨g0, o0, none⟩) 1 xc, .int .i64 xf, .int .i64 xe] 53))) := BsR.start HS.out _
  have r00 : (W.alloc (.cells #[.int .i64 14, .string xn, .int .i64 xv, .slice (some ⟨g0, o0, none⟩) 1 xc, .int .i64 xf, .int .i64 xe] 53)).cell? ⟨g0, o0, none⟩ = some (.int .i64 q0) := HX.out _ HB0.out.st.bl
  go_enter Tryz.func50, Tryz.ntmps50
  go_wp2_with fail
  refine (HC1.out _ HB0.out.st).mono ?_
  rintro e w1 ⟨rfl, hE⟩
  have HB1 : Hid (BsR w0 b (.slice ao ln c) T1 W #[.int .i64 14, .string xn, .int .i64 xv, .slice (some ⟨g0, o0, none⟩) 1 xc, .int .i64 xf, .int .i64 xe] w1) := HB0.out.put hE
  clear hE
  obtain ⟨d10, d11, d12, d13, d14, d15⟩ := box6 HB1.out.bx
  have r10 := HX.out w1 HB1.out.st.bl
  go_wp2_with fail
  refine (HC2.out _ HB1.out.st).mono ?_
  rintro e w2 ⟨rfl, hE⟩
  have HB2 : Hid (BsR w0 b (.slice ao ln c) T2 W #[.int .i64 14, .string xn, .int .i64 xv, .slice (some ⟨g0, o0, none⟩) 1 xc, .int .i64 xf, .int .i64 xe] w2) := HB1.out.put hE
  clear hE
  have HE : Hid (PoR w0 b (.slice ao ln c) T2 W w2) := HB2.out.pos
  clear HB2
  go_wp2
  go_end0
  exact ⟨rfl, HE.out⟩
set_option maxRecDepth 100000 in
set_option maxHeartbeats 4000000 in
theorem rf_15 (w0 : World) (b : Nat) (ao : Option Addr) (c : Nat) (l : List Nd) (nt : Nat → Tks) (K : Nat) (x : Nd) (hk : x.k = 15) (hr : NdR w0 b ao c l nt K x) : PrR w0 b (.slice ao l.length c) l nt 50 x (prtK l x 15) := by
  intro t W hS hlen
  have har : arB 15 x.ks.length = true := by have := hr.nk.ar; rw [hk] at this; exact this
  have hl : x.ks.length = 1 := by simpa [arB] using har
  have hE0 : run t (psT nt l (prtK l x 15)) = run (run (run t [[38]]) [[109, 117, 116]]) (nt (kidN x 0)) := by
    simp only [prtK, psT, Pt.tk, run_app, List.append_nil]
  rw [hE0] at hlen ⊢
  clear hE0
  obtain ⟨T1, hT1⟩ : ∃ T, run t [[38]] = T := ⟨_, rfl⟩
  rw [hT1] at hlen ⊢
  obtain ⟨T2, hT2⟩ : ∃ T, run T1 [[109, 117, 116]] = T := ⟨_, rfl⟩
  rw [hT2] at hlen ⊢
  obtain ⟨T3, hT3⟩ : ∃ T, run T2 (nt (kidN x 0)) = T := ⟨_, rfl⟩
  rw [hT3] at hlen ⊢
  have hl3 : T3.length ≤ 140737488355328 := hlen
  have hl2 : T2.length ≤ 140737488355328 := Nat.le_trans (run_le _ _) (by rw [hT3]; exact hl3)
  have hl1 : T1.length ≤ 140737488355328 := Nat.le_trans (run_le _ _) (by rw [hT2]; exact hl2)
  have HC1 : Hid (∀ W, RSt w0 b (.slice ao l.length c) t W → Calls Tryz.prog 53 #[.pointer (some ⟨b, 0, none⟩), .string ⟨#[38]⟩] W fun e w' => e = .returned (.tuple #[]) ∧ PoR w0 b (.slice ao l.length c) T1 W w') := rput_h (s := ⟨#[38]⟩) (by simp) hT1 hl1
  have HC2 : Hid (∀ W, RSt w0 b (.slice ao l.length c) T1 W → Calls Tryz.prog 53 #[.pointer (some ⟨b, 0, none⟩), .string ⟨#[109, 117, 116]⟩] W fun e w' => e = .returned (.tuple #[]) ∧ PoR w0 b (.slice ao l.length c) T2 W w') := rput_h (s := ⟨#[109, 117, 116]⟩) (by simp) hT2 hl2
  have HC3 : Hid (∀ W, RSt w0 b (.slice ao l.length c) T2 W → Calls Tryz.prog 29 #[.pointer (some ⟨b, 0, none⟩), .int .i64 (kidN x 0 : Nat)] W fun e w' => e = .returned (.tuple #[]) ∧ PoR w0 b (.slice ao l.length c) T3 W w') := rnode_h (hr.kid 0 (by omega)) hT3 hl3
  have HS : Hid (RSt w0 b (.slice ao l.length c) t W) := hS
  obtain ⟨g0, o0, hka, hcell⟩ := hr.nk.addr (by omega)
  have HX : Hid (∀ W, Below w0.heap.size w0 W → W.cell? ⟨g0, o0, none⟩ = some (.int .i64 (kidN x 0 : Nat))) := fun W hW => hcell W hW 0 (by omega)
  have hc1 := hr.nk.ks.1
  have hc2 := hr.nk.ks.2.1
  rw [hl] at hc1
  unfold nda
  rw [hk, hl, hka]
  clear hr hlen hS har hk hT1 hl1 hT2 hl2 hT3 hl3 hcell hka hl
  generalize kidN x 0 = q0 at *
  generalize x.nm = xn at *
  generalize x.v = xv at *
  generalize x.kc = xc at *
  generalize x.ka = xa at *
  generalize x.fr = xf at *
  generalize x.en = xe at *
  generalize l.length = ln at *
  have HB0 : Hid (BsR w0 b (.slice ao ln c) t W #[.int .i64 15, .string xn, .int .i64 xv, .slice (some ⟨g0, o0, none⟩) 1 xc, .int .i64 xf, .int .i64 xe] (W.alloc (.cells #[.int .i64 15, .string xn, .int .i64 xv, .slice (some ⟨g0, o0, none⟩) 1 xc, .int .i64 xf, .int .i64 xe] 53))) := BsR.start HS.out _
  have r00 : (W.alloc (.cells #[.int .i64 15, .string xn, .int .i64 xv, .slice (some ⟨g0, o0, none⟩) 1 xc, .int .i64 xf, .int .i64 xe] 53)).cell? ⟨g0, o0, none⟩ = some (.int .i64 q0) := HX.out _ HB0.out.st.bl
  go_enter Tryz.func50, Tryz.ntmps50
  go_wp2_with fail
  refine (HC1.out _ HB0.out.st).mono ?_
  rintro e w1 ⟨rfl, hE⟩
  have HB1 : Hid (BsR w0 b (.slice ao ln c) T1 W #[.int .i64 15, .string xn, .int .i64 xv, .slice (some ⟨g0, o0, none⟩) 1 xc, .int .i64 xf, .int .i64 xe] w1) := HB0.out.put hE
  clear hE
  obtain ⟨d10, d11, d12, d13, d14, d15⟩ := box6 HB1.out.bx
  have r10 := HX.out w1 HB1.out.st.bl
  go_wp2_with fail
  refine (HC2.out _ HB1.out.st).mono ?_
  rintro e w2 ⟨rfl, hE⟩
  have HB2 : Hid (BsR w0 b (.slice ao ln c) T2 W #[.int .i64 15, .string xn, .int .i64 xv, .slice (some ⟨g0, o0, none⟩) 1 xc, .int .i64 xf, .int .i64 xe] w2) := HB1.out.put hE
  clear hE
  obtain ⟨d20, d21, d22, d23, d24, d25⟩ := box6 HB2.out.bx
  have r20 := HX.out w2 HB2.out.st.bl
  go_wp2_with fail
  refine (HC3.out _ HB2.out.st).mono ?_
  rintro e w3 ⟨rfl, hE⟩
  have HB3 : Hid (BsR w0 b (.slice ao ln c) T3 W #[.int .i64 15, .string xn, .int .i64 xv, .slice (some ⟨g0, o0, none⟩) 1 xc, .int .i64 xf, .int .i64 xe] w3) := HB2.out.put hE
  clear hE
  have HE : Hid (PoR w0 b (.slice ao ln c) T3 W w3) := HB3.out.pos
  clear HB3
  go_wp2
  go_end0
  exact ⟨rfl, HE.out⟩
set_option maxRecDepth 100000 in
set_option maxHeartbeats 4000000 in
theorem rf_16 (w0 : World) (b : Nat) (ao : Option Addr) (c : Nat) (l : List Nd) (nt : Nat → Tks) (K : Nat) (x : Nd) (hk : x.k = 16) (hr : NdR w0 b ao c l nt K x) : PrR w0 b (.slice ao l.length c) l nt 50 x (prtK l x 16) := by
  intro t W hS hlen
  have har : arB 16 x.ks.length = true := by have := hr.nk.ar; rw [hk] at this; exact this
  have hl : x.ks.length = 1 := by simpa [arB] using har
  have hE0 : run t (psT nt l (prtK l x 16)) = run (run (run (run t [[66, 111, 120]]) [[60]]) (nt (kidN x 0))) [[62]] := by
    simp only [prtK, psT, Pt.tk, run_app, List.append_nil]
  rw [hE0] at hlen ⊢
  clear hE0
  obtain ⟨T1, hT1⟩ : ∃ T, run t [[66, 111, 120]] = T := ⟨_, rfl⟩
  rw [hT1] at hlen ⊢
  obtain ⟨T2, hT2⟩ : ∃ T, run T1 [[60]] = T := ⟨_, rfl⟩
  rw [hT2] at hlen ⊢
  obtain ⟨T3, hT3⟩ : ∃ T, run T2 (nt (kidN x 0)) = T := ⟨_, rfl⟩
  rw [hT3] at hlen ⊢
  obtain ⟨T4, hT4⟩ : ∃ T, run T3 [[62]] = T := ⟨_, rfl⟩
  rw [hT4] at hlen ⊢
  have hl4 : T4.length ≤ 140737488355328 := hlen
  have hl3 : T3.length ≤ 140737488355328 := Nat.le_trans (run_le _ _) (by rw [hT4]; exact hl4)
  have hl2 : T2.length ≤ 140737488355328 := Nat.le_trans (run_le _ _) (by rw [hT3]; exact hl3)
  have hl1 : T1.length ≤ 140737488355328 := Nat.le_trans (run_le _ _) (by rw [hT2]; exact hl2)
  have HC1 : Hid (∀ W, RSt w0 b (.slice ao l.length c) t W → Calls Tryz.prog 53 #[.pointer (some ⟨b, 0, none⟩), .string ⟨#[66, 111, 120]⟩] W fun e w' => e = .returned (.tuple #[]) ∧ PoR w0 b (.slice ao l.length c) T1 W w') := rput_h (s := ⟨#[66, 111, 120]⟩) (by simp) hT1 hl1
  have HC2 : Hid (∀ W, RSt w0 b (.slice ao l.length c) T1 W → Calls Tryz.prog 53 #[.pointer (some ⟨b, 0, none⟩), .string ⟨#[60]⟩] W fun e w' => e = .returned (.tuple #[]) ∧ PoR w0 b (.slice ao l.length c) T2 W w') := rput_h (s := ⟨#[60]⟩) (by simp) hT2 hl2
  have HC3 : Hid (∀ W, RSt w0 b (.slice ao l.length c) T2 W → Calls Tryz.prog 29 #[.pointer (some ⟨b, 0, none⟩), .int .i64 (kidN x 0 : Nat)] W fun e w' => e = .returned (.tuple #[]) ∧ PoR w0 b (.slice ao l.length c) T3 W w') := rnode_h (hr.kid 0 (by omega)) hT3 hl3
  have HC4 : Hid (∀ W, RSt w0 b (.slice ao l.length c) T3 W → Calls Tryz.prog 53 #[.pointer (some ⟨b, 0, none⟩), .string ⟨#[62]⟩] W fun e w' => e = .returned (.tuple #[]) ∧ PoR w0 b (.slice ao l.length c) T4 W w') := rput_h (s := ⟨#[62]⟩) (by simp) hT4 hl4
  have HS : Hid (RSt w0 b (.slice ao l.length c) t W) := hS
  obtain ⟨g0, o0, hka, hcell⟩ := hr.nk.addr (by omega)
  have HX : Hid (∀ W, Below w0.heap.size w0 W → W.cell? ⟨g0, o0, none⟩ = some (.int .i64 (kidN x 0 : Nat))) := fun W hW => hcell W hW 0 (by omega)
  have hc1 := hr.nk.ks.1
  have hc2 := hr.nk.ks.2.1
  rw [hl] at hc1
  unfold nda
  rw [hk, hl, hka]
  clear hr hlen hS har hk hT1 hl1 hT2 hl2 hT3 hl3 hT4 hl4 hcell hka hl
  generalize kidN x 0 = q0 at *
  generalize x.nm = xn at *
  generalize x.v = xv at *
  generalize x.kc = xc at *
  generalize x.ka = xa at *
  generalize x.fr = xf at *
  generalize x.en = xe at *
  generalize l.length = ln at *
  have HB0 : Hid (BsR w0 b (.slice ao ln c) t W #[.int .i64 16, .string xn, .int .i64 xv, .slice (some ⟨g0, o0, none⟩) 1 xc, .int .i64 xf, .int .i64 xe] (W.alloc (.cells #[.int .i64 16, .string xn, .int .i64 xv, .slice (some ⟨g0, o0, none⟩) 1 xc, .int .i64 xf, .int .i64 xe] 53))) := BsR.start HS.out _
  have r00 : (W.alloc (.cells #[.int .i64 16, .string xn, .int .i64 xv, .slice (some ⟨g0, o0, none⟩) 1 xc, .int .i64 xf, .int .i64 xe] 53)).cell? ⟨g0, o0, none⟩ = some (.int .i64 q0) := HX.out _ HB0.out.st.bl
  go_enter Tryz.func50, Tryz.ntmps50
  go_wp2_with fail
  refine (HC1.out _ HB0.out.st).mono ?_
  rintro e w1 ⟨rfl, hE⟩
  have HB1 : Hid (BsR w0 b (.slice ao ln c) T1 W #[.int .i64 16, .string xn, .int .i64 xv, .slice (some ⟨g0, o0, none⟩) 1 xc, .int .i64 xf, .int .i64 xe] w1) := HB0.out.put hE
  clear hE
  obtain ⟨d10, d11, d12, d13, d14, d15⟩ := box6 HB1.out.bx
  have r10 := HX.out w1 HB1.out.st.bl
  go_wp2_with fail
  refine (HC2.out _ HB1.out.st).mono ?_
  rintro e w2 ⟨rfl, hE⟩
  have HB2 : Hid (BsR w0 b (.slice ao ln c) T2 W #[.int .i64 16, .string xn, .int .i64 xv, .slice (some ⟨g0, o0, none⟩) 1 xc, .int .i64 xf, .int .i64 xe] w2) := HB1.out.put hE
  clear hE
  obtain ⟨d20, d21, d22, d23, d24, d25⟩ := box6 HB2.out.bx
  have r20 := HX.out w2 HB2.out.st.bl
  go_wp2_with fail
  refine (HC3.out _ HB2.out.st).mono ?_
  rintro e w3 ⟨rfl, hE⟩
  have HB3 : Hid (BsR w0 b (.slice ao ln c) T3 W #[.int .i64 16, .string xn, .int .i64 xv, .slice (some ⟨g0, o0, none⟩) 1 xc, .int .i64 xf, .int .i64 xe] w3) := HB2.out.put hE
  clear hE
  obtain ⟨d30, d31, d32, d33, d34, d35⟩ := box6 HB3.out.bx
  have r30 := HX.out w3 HB3.out.st.bl
  go_wp2_with fail
  refine (HC4.out _ HB3.out.st).mono ?_
  rintro e w4 ⟨rfl, hE⟩
  have HB4 : Hid (BsR w0 b (.slice ao ln c) T4 W #[.int .i64 16, .string xn, .int .i64 xv, .slice (some ⟨g0, o0, none⟩) 1 xc, .int .i64 xf, .int .i64 xe] w4) := HB3.out.put hE
  clear hE
  have HE : Hid (PoR w0 b (.slice ao ln c) T4 W w4) := HB4.out.pos
  clear HB4
  go_wp2
  go_end0
  exact ⟨rfl, HE.out⟩
end
section
open Go.RowKit Go.Shelf
set_option maxRecDepth 100000 in
set_option maxHeartbeats 4000000 in
theorem rf_1 (w0 : World) (b : Nat) (ao : Option Addr) (c : Nat) (l : List Nd) (nt : Nat → Tks) (K : Nat) (x : Nd) (hk : x.k = 1) (hr : NdR w0 b ao c l nt K x) : PrR w0 b (.slice ao l.length c) l nt 49 x (prtK l x 1) := by
  intro t W hS hlen
  have hE0 : run t (psT nt l (prtK l x 1)) = run t (seqT nt x.ks) := by
    simp only [prtK, psT, Pt.tk, List.append_nil]
  rw [hE0] at hlen ⊢
  clear hE0
  obtain ⟨T, hT⟩ : ∃ T, run t (seqT nt x.ks) = T := ⟨_, rfl⟩
  rw [hT] at hlen ⊢
  have HT : Hid (T.length ≤ 140737488355328) := hlen
  have HI : Hid (IsA w0 x.ka x.kc x.ks) := hr.nk.ks
  have HN : Hid (∀ y ∈ x.ks, 0 ≤ y ∧ NodeR w0 b (.slice ao l.length c) nt y.toNat) := hr.all
  have HS : Hid (RSt w0 b (.slice ao l.length c) t W ∧ run t (seqT nt (x.ks.drop 0)) = T) := ⟨hS, hT⟩
  have hc1 := hr.nk.ks.1
  have hc2 := hr.nk.ks.2.1
  have c3 := cells3'
  unfold nda
  rw [hk]
  clear hr hlen hS hk hT
  generalize x.ks = ks at *
  obtain ⟨m, hm⟩ : ∃ m, m = ks.length := ⟨_, rfl⟩
  have HM : Hid (m = ks.length) := hm
  rw [← hm] at hc1 ⊢
  clear hm
  generalize x.nm = xn at *
  generalize x.v = xv at *
  generalize x.kc = xc at *
  generalize x.ka = xa at *
  generalize x.fr = xf at *
  generalize x.en = xe at *
  generalize l.length = ln at *
  have HB0 : Hid (BsR w0 b (.slice ao ln c) t W #[.int .i64 1, .string xn, .int .i64 xv, .slice xa m xc, .int .i64 xf, .int .i64 xe] (W.alloc (.cells #[.int .i64 1, .string xn, .int .i64 xv, .slice xa m xc, .int .i64 xf, .int .i64 xe] 53))) := BsR.start HS.out.1 _
  go_enter Tryz.func49, Tryz.ntmps49
  go_wp2
  go_loopw [36] (fun i wx => ∃ (j : Nat) (t' : List UInt8), j ≤ m ∧ i = .int .i64 j ∧ BsR w0 b (.slice ao ln c) t' W #[.int .i64 1, .string xn, .int .i64 xv, .slice xa m xc, .int .i64 xf, .int .i64 xe] wx ∧ run t' (seqT nt (ks.drop j)) = T) (fun i _ => m - (intOf i).toNat)
  case atStart => exact ⟨0, t, Nat.zero_le _, rfl, HB0.out, HS.out.2⟩
  case round =>
    obtain ⟨j, t', hj, rfl, hB, hR⟩ := hrel
    clear HS HB0
    by_cases hlt : j < m
    · obtain ⟨y, hy⟩ : ∃ y, ks[j]? = some y := ⟨_, List.getElem?_eq_getElem (by have := HM.out; omega)⟩
      obtain ⟨hy0, hyN⟩ := HN.out y (List.mem_of_getElem? hy)
      obtain ⟨q, rfl⟩ : ∃ q : Nat, y = q := ⟨y.toNat, by omega⟩
      rw [Int.toNat_natCast] at hyN
      obtain ⟨gk, ok, rfl, hce⟩ := (HI.out.below hB.st.bl).2.2 (by have := HM.out; omega)
      have a0 := hce j _ hy
      rw [drop_at hy] at hR
      simp only [seqT, Int.toNat_natCast] at hR
      rw [run_app] at hR
      have hjI : (j : Int) < (m : Int) := by omega
      clear hce hy hy0
      obtain ⟨T1, hT1⟩ : ∃ T1, run t' (nt q) = T1 := ⟨_, rfl⟩
      rw [hT1] at hR
      have l1 : T1.length ≤ 140737488355328 := Nat.le_trans (run_le _ _) (by rw [hR]; exact HT.out)
      have H1 : Hid (Calls Tryz.prog 29 #[.pointer (some ⟨b, 0, none⟩), .int .i64 (q : Nat)] wr fun e w' => e = .returned (.tuple #[]) ∧ PoR w0 b (.slice ao ln c) T1 wr w') := by
        have z := hyN t' wr hB.st (by rw [hT1]; exact l1)
        rw [hT1] at z
        exact z
      have HR : Hid (run T1 (seqT nt (ks.drop (j + 1))) = T ∧ BsR w0 b (.slice ao ln c) t' W #[.int .i64 1, .string xn, .int .i64 xv, .slice (some ⟨gk, ok, none⟩) m xc, .int .i64 xf, .int .i64 xe] wr) := ⟨hR, hB⟩
      clear hR hT1 l1 hyN hB
      go_wp2_with fail
      refine H1.out.mono ?_
      rintro e w1 ⟨rfl, hE⟩
      have HE : Hid (PoR w0 b (.slice ao ln c) T1 wr w1) := hE
      clear hE a0
      go_wp2
      exact ⟨⟨j + 1, T1, by omega, by go_num, HR.out.2.put HE.out, HR.out.1⟩, by simp [intOf]; omega⟩
    · obtain rfl : j = m := by omega
      have hd : ks.drop j = [] := List.drop_eq_nil_of_le (by have := HM.out; omega)
      rw [hd] at hR
      have hR' : t' = T := hR
      subst hR'
      have HE : Hid (PoR w0 b (.slice ao ln c) t' W wr) := hB.pos
      clear hR hB hd HT
      go_wp2
      go_end0
      exact ⟨rfl, HE.out⟩
end
section
open Go.RowKit Go.Shelf
set_option maxRecDepth 100000 in
set_option maxHeartbeats 4000000 in
theorem rn_20 (w0 : World) (b : Nat) (ao : Option Addr) (c : Nat) (l : List Nd) (nt : Nat → Tks) (K : Nat) (x : Nd) (hk : x.k = 20) (hr : NdR w0 b ao c l nt K x) (k : Nat) (hx : l[k]? = some x) (t : List UInt8) (W : World) (hS : RSt w0 b (.slice ao l.length c) t W) (hlen : (run t (psT nt l (prtK l x 20))).length ≤ 140737488355328) : Calls Tryz.prog 29 #[.pointer (some ⟨b, 0, none⟩), .int .i64 (k : Nat)] W fun e w' => e = .returned (.tuple #[]) ∧ PoR w0 b (.slice ao l.length c) (run t (psT nt l (prtK l x 20))) W w' := by
  have hE0 : run t (psT nt l (prtK l x 20)) = run (run (run t [[123]]) (seqT nt x.ks)) [[125]] := by
    simp only [prtK, psT, Pt.tk, run_app, List.append_nil]
  rw [hE0] at hlen ⊢
  clear hE0
  obtain ⟨T1, hT1⟩ : ∃ T, run t [[123]] = T := ⟨_, rfl⟩
  rw [hT1] at hlen ⊢
  obtain ⟨T, hT⟩ : ∃ T, run T1 (seqT nt x.ks) = T := ⟨_, rfl⟩
  rw [hT] at hlen ⊢
  obtain ⟨T3, hT3⟩ : ∃ T3, run T [[125]] = T3 := ⟨_, rfl⟩
  rw [hT3] at hlen ⊢
  have hl2 : T.length ≤ 140737488355328 := Nat.le_trans (run_le _ _) (by rw [hT3]; exact hlen)
  have hl1 : T1.length ≤ 140737488355328 := Nat.le_trans (run_le _ _) (by rw [hT]; exact hl2)
  have HC1 : Hid (∀ W, RSt w0 b (.slice ao l.length c) t W → Calls Tryz.prog 53 #[.pointer (some ⟨b, 0, none⟩), .string ⟨#[123]⟩] W fun e w' => e = .returned (.tuple #[]) ∧ PoR w0 b (.slice ao l.length c) T1 W w') := rput_h (s := ⟨#[123]⟩) (by simp) hT1 hl1
  have HC3 : Hid (∀ W, RSt w0 b (.slice ao l.length c) T W → Calls Tryz.prog 53 #[.pointer (some ⟨b, 0, none⟩), .string ⟨#[125]⟩] W fun e w' => e = .returned (.tuple #[]) ∧ PoR w0 b (.slice ao l.length c) T3 W w') := rput_h (s := ⟨#[125]⟩) (by simp) hT3 hlen
  have HT : Hid (T.length ≤ 140737488355328) := hl2
  have HI : Hid (IsA w0 x.ka x.kc x.ks) := hr.nk.ks
  have HN : Hid (∀ y ∈ x.ks, 0 ≤ y ∧ NodeR w0 b (.slice ao l.length c) nt y.toNat) := hr.all
  have HS0 : Hid (RSt w0 b (.slice ao l.length c) t W) := hS
  have HS : Hid (run T1 (seqT nt (x.ks.drop 0)) = T) := hT
  have hc1 := hr.nk.ks.1
  have hc2 := hr.nk.ks.2.1
  have c3 := cells3'
  obtain ⟨gn, on, hao, hn1, hn2, hkn, a0, a1, a2, a3, a4, a5⟩ := hr.cells k hx W hS.bl
  rw [hk] at a0
  subst hao
  have hc0 := hS.c0
  have hkI : (k : Int) < (l.length : Int) := by omega
  have c53 := cells53
  clear hr hlen hS hk hT hT1 hT3 hl1 hl2 hx
  generalize x.ks = ks at *
  obtain ⟨m, hm⟩ : ∃ m, m = ks.length := ⟨_, rfl⟩
  have HM : Hid (m = ks.length) := hm
  rw [← hm] at hc1 a3
  clear hm
  generalize x.nm = xn at *
  generalize x.v = xv at *
  generalize x.kc = xc at *
  generalize x.ka = xa at *
  generalize x.fr = xf at *
  generalize x.en = xe at *
  generalize l.length = ln at *
  have HB0' : Hid (BsR w0 b (.slice (some ⟨gn, on, none⟩) ln c) t W #[.int .i64 20, .string xn, .int .i64 xv, .slice xa m xc, .int .i64 xf, .int .i64 xe] (W.alloc (.cells #[.int .i64 20, .string xn, .int .i64 xv, .slice xa m xc, .int .i64 xf, .int .i64 xe] 53))) := BsR.start HS0.out _
  go_enter Tryz.func29, Tryz.ntmps29
  go_wp2_with fail
  refine (type39 _ _).mono ?_
  rintro e wz ⟨rfl, hw⟩
  subst wz
  go_wp2_with fail
  refine (stmt51 _ _).mono ?_
  rintro e wz ⟨rfl, hw⟩
  subst wz
  go_wp2_with fail
  refine (HC1.out _ HB0'.out.st).mono ?_
  rintro e w1 ⟨rfl, hE⟩
  have HB0 : Hid (BsR w0 b (.slice (some ⟨gn, on, none⟩) ln c) T1 W #[.int .i64 20, .string xn, .int .i64 xv, .slice xa m xc, .int .i64 xf, .int .i64 xe] w1) := HB0'.out.put hE
  obtain ⟨d10, d11, d12, d13, d14, d15⟩ := box6 HB0.out.bx
  clear hE HB0' HS0 HC1 a0 a1 a2 a3 a4 a5 hc0
  go_wp2
  clear d10 d11 d12 d13 d14 d15
  go_loopw [48] (fun i wx => ∃ (j : Nat) (t' : List UInt8), j ≤ m ∧ i = .int .i64 j ∧ BsR w0 b (.slice (some ⟨gn, on, none⟩) ln c) t' W #[.int .i64 20, .string xn, .int .i64 xv, .slice xa m xc, .int .i64 xf, .int .i64 xe] wx ∧ run t' (seqT nt (ks.drop j)) = T) (fun i _ => m - (intOf i).toNat)
  case atStart => exact ⟨0, T1, Nat.zero_le _, rfl, HB0.out, HS.out⟩
  case round =>
    obtain ⟨j, t', hj, rfl, hB, hR⟩ := hrel
    clear HS HB0
    by_cases hlt : j < m
    · obtain ⟨y, hy⟩ : ∃ y, ks[j]? = some y := ⟨_, List.getElem?_eq_getElem (by have := HM.out; omega)⟩
      obtain ⟨hy0, hyN⟩ := HN.out y (List.mem_of_getElem? hy)
      obtain ⟨q, rfl⟩ : ∃ q : Nat, y = q := ⟨y.toNat, by omega⟩
      rw [Int.toNat_natCast] at hyN
      obtain ⟨gk, ok, rfl, hce⟩ := (HI.out.below hB.st.bl).2.2 (by have := HM.out; omega)
      have a0 := hce j _ hy
      rw [drop_at hy] at hR
      simp only [seqT, Int.toNat_natCast] at hR
      rw [run_app] at hR
      have hjI : (j : Int) < (m : Int) := by omega
      clear hce hy hy0
      obtain ⟨T1, hT1⟩ : ∃ T1, run t' (nt q) = T1 := ⟨_, rfl⟩
      rw [hT1] at hR
      have l1 : T1.length ≤ 140737488355328 := Nat.le_trans (run_le _ _) (by rw [hR]; exact HT.out)
      have H1 : Hid (Calls Tryz.prog 29 #[.pointer (some ⟨b, 0, none⟩), .int .i64 (q : Nat)] wr fun e w' => e = .returned (.tuple #[]) ∧ PoR w0 b (.slice (some ⟨gn, on, none⟩) ln c) T1 wr w') := by
        have z := hyN t' wr hB.st (by rw [hT1]; exact l1)
        rw [hT1] at z
        exact z
      have HR : Hid (run T1 (seqT nt (ks.drop (j + 1))) = T ∧ BsR w0 b (.slice (some ⟨gn, on, none⟩) ln c) t' W #[.int .i64 20, .string xn, .int .i64 xv, .slice (some ⟨gk, ok, none⟩) m xc, .int .i64 xf, .int .i64 xe] wr) := ⟨hR, hB⟩
      clear hR hT1 l1 hyN hB
      go_wp2_with fail
      refine H1.out.mono ?_
      rintro e w1 ⟨rfl, hE⟩
      have HE : Hid (PoR w0 b (.slice (some ⟨gn, on, none⟩) ln c) T1 wr w1) := hE
      clear hE a0
      go_wp2
      exact ⟨⟨j + 1, T1, by omega, by go_num, HR.out.2.put HE.out, HR.out.1⟩, by simp [intOf]; omega⟩
    · obtain rfl : j = m := by omega
      have hd : ks.drop j = [] := List.drop_eq_nil_of_le (by have := HM.out; omega)
      rw [hd] at hR
      have hR' : t' = T := hR
      subst hR'
      have HBt : Hid (BsR w0 b (.slice (some ⟨gn, on, none⟩) ln c) t' W #[.int .i64 20, .string xn, .int .i64 xv, .slice xa j xc, .int .i64 xf, .int .i64 xe] wr) := hB
      clear hR hB hd HT
      go_wp2_with fail
      refine (HC3.out _ HBt.out.st).mono ?_
      rintro e w2 ⟨rfl, hE⟩
      have HE : Hid (PoR w0 b (.slice (some ⟨gn, on, none⟩) ln c) T3 W w2) := (HBt.out.put hE).pos
      clear hE HBt
      go_wp2
      go_end0
      exact ⟨rfl, HE.out⟩
end
end Go.Proofs.YtkkmeogehapjoaaGreatDoor
