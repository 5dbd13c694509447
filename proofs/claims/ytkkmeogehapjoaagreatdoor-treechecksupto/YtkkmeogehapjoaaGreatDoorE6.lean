/- The document: choices put. The document: numbers put; picks put. The document: a pick put. -/
import Derived.Test.YtkkmeogehapjoaaGreatDoorDD
import Derived.Test.YtkkmeogehapjoaaGreatDoorD4
import Derived.Test.YtkkmeogehapjoaaGreatDoorNY
namespace Go.Proofs.YtkkmeogehapjoaaGreatDoor
section
open Go.RowKit Go.Shelf
set_option maxRecDepth 100000 in
set_option maxHeartbeats 4000000 in
theorem rf_45a (w0 : World) (b : Nat) (ao : Option Addr) (c : Nat) (l : List Nd) (nt : Nat → Tks) (K : Nat) (x : Nd) (hk : x.k = 45) (hr : NdR w0 b ao c l nt K x) (hl : x.ks.length = 2) : PrR w0 b (.slice ao l.length c) l nt 58 x (prtK l x 45) := by
  intro t W hS hlen
  have har : arB 45 x.ks.length = true := by have := hr.nk.ar; rw [hk] at this; exact this
  have hE0 : run t (psT nt l (prtK l x 45)) = run (run (run t [[105, 102]]) (brT nt l 17762910994432 (kidN x 0))) (nt (kidN x 1)) := by
    simp only [prtK, psT_app, psT, Pt.tk, run_app, List.append_nil]
    rw [if_pos hl]
    simp only [psT, run_nil]
  rw [hE0] at hlen ⊢
  clear hE0
  obtain ⟨T1, hT1⟩ : ∃ T, run t [[105, 102]] = T := ⟨_, rfl⟩
  rw [hT1] at hlen ⊢
  obtain ⟨T2, hT2⟩ : ∃ T, run T1 (brT nt l 17762910994432 (kidN x 0)) = T := ⟨_, rfl⟩
  rw [hT2] at hlen ⊢
  obtain ⟨T3, hT3⟩ : ∃ T, run T2 (nt (kidN x 1)) = T := ⟨_, rfl⟩
  rw [hT3] at hlen ⊢
  have hl3 : T3.length ≤ 140737488355328 := hlen
  have hl2 : T2.length ≤ 140737488355328 := Nat.le_trans (run_le _ _) (by rw [hT3]; exact hl3)
  have hl1 : T1.length ≤ 140737488355328 := Nat.le_trans (run_le _ _) (by rw [hT2]; exact hl2)
  have HC1 : Hid (∀ W, RSt w0 b (.slice ao l.length c) t W → Calls Tryz.prog 53 #[.pointer (some ⟨b, 0, none⟩), .string ⟨#[105, 102]⟩] W fun e w' => e = .returned (.tuple #[]) ∧ PoR w0 b (.slice ao l.length c) T1 W w') := rput_h (s := ⟨#[105, 102]⟩) (by simp) hT1 hl1
  have HC2 : Hid (∀ W, RSt w0 b (.slice ao l.length c) T1 W → Calls Tryz.prog 56 #[.pointer (some ⟨b, 0, none⟩), .int .i64 (kidN x 0 : Nat), .bool false] W fun e w' => e = .returned (.tuple #[]) ∧ PoR w0 b (.slice ao l.length c) T2 W w') := roper_ah hr.hl (hr.kl 0 (by omega)) (hr.kid 0 (by omega)) hT2 hl2
  have HC3 : Hid (∀ W, RSt w0 b (.slice ao l.length c) T2 W → Calls Tryz.prog 29 #[.pointer (some ⟨b, 0, none⟩), .int .i64 (kidN x 1 : Nat)] W fun e w' => e = .returned (.tuple #[]) ∧ PoR w0 b (.slice ao l.length c) T3 W w') := rnode_h (hr.kid 1 (by omega)) hT3 hl3
  have HS : Hid (RSt w0 b (.slice ao l.length c) t W) := hS
  obtain ⟨g0, o0, hka, hcell⟩ := hr.nk.addr (by omega)
  have HX : Hid (∀ W, Below w0.heap.size w0 W → W.cell? ⟨g0, o0, none⟩ = some (.int .i64 (kidN x 0 : Nat)) ∧ W.cell? ⟨g0, o0 + 1, none⟩ = some (.int .i64 (kidN x 1 : Nat))) := fun W hW => ⟨hcell W hW 0 (by omega), hcell W hW 1 (by omega)⟩
  have hc1 := hr.nk.ks.1
  have hc2 := hr.nk.ks.2.1
  rw [hl] at hc1
  unfold nda
  rw [hk, hl, hka]
  clear hr hlen hS har hk hT1 hl1 hT2 hl2 hT3 hl3 hcell hka hl
  generalize kidN x 0 = q0 at *
  generalize kidN x 1 = q1 at *
  generalize x.nm = xn at *
  generalize x.v = xv at *
  generalize x.kc = xc at *
  generalize x.ka = xa at *
  generalize x.fr = xf at *
  generalize x.en = xe at *
  generalize l.length = ln at *
  have HB0 : Hid (BsR w0 b (.slice ao ln c) t W #[.int .i64 45, .string xn, .int .i64 xv, .slice (some ⟨g0, o0, none⟩) 2 xc, .int .i64 xf, .int .i64 xe] (W.alloc (.cells #[.int .i64 45, .string xn, .int .i64 xv, .slice (some ⟨g0, o0, none⟩) 2 xc, .int .i64 xf, .int .i64 xe] 53))) := BsR.start HS.out _
  have r00 : (W.alloc (.cells #[.int .i64 45, .string xn, .int .i64 xv, .slice (some ⟨g0, o0, none⟩) 2 xc, .int .i64 xf, .int .i64 xe] 53)).cell? ⟨g0, o0, none⟩ = some (.int .i64 q0) := (HX.out _ HB0.out.st.bl).1
  have r01 : (W.alloc (.cells #[.int .i64 45, .string xn, .int .i64 xv, .slice (some ⟨g0, o0, none⟩) 2 xc, .int .i64 xf, .int .i64 xe] 53)).cell? ⟨g0, o0 + 1, none⟩ = some (.int .i64 q1) := (HX.out _ HB0.out.st.bl).2
  go_enter Tryz.func58, Tryz.ntmps58
  go_wp2_with fail
  refine (HC1.out _ HB0.out.st).mono ?_
  rintro e w1 ⟨rfl, hE⟩
  have HB1 : Hid (BsR w0 b (.slice ao ln c) T1 W #[.int .i64 45, .string xn, .int .i64 xv, .slice (some ⟨g0, o0, none⟩) 2 xc, .int .i64 xf, .int .i64 xe] w1) := HB0.out.put hE
  clear hE
  obtain ⟨d10, d11, d12, d13, d14, d15⟩ := box6 HB1.out.bx
  obtain ⟨r10, r11⟩ := HX.out w1 HB1.out.st.bl
  go_wp2_with fail
  refine (HC2.out _ HB1.out.st).mono ?_
  rintro e w2 ⟨rfl, hE⟩
  have HB2 : Hid (BsR w0 b (.slice ao ln c) T2 W #[.int .i64 45, .string xn, .int .i64 xv, .slice (some ⟨g0, o0, none⟩) 2 xc, .int .i64 xf, .int .i64 xe] w2) := HB1.out.put hE
  clear hE
  obtain ⟨d20, d21, d22, d23, d24, d25⟩ := box6 HB2.out.bx
  obtain ⟨r20, r21⟩ := HX.out w2 HB2.out.st.bl
  go_wp2_with fail
  refine (HC3.out _ HB2.out.st).mono ?_
  rintro e w3 ⟨rfl, hE⟩
  have HB3 : Hid (BsR w0 b (.slice ao ln c) T3 W #[.int .i64 45, .string xn, .int .i64 xv, .slice (some ⟨g0, o0, none⟩) 2 xc, .int .i64 xf, .int .i64 xe] w3) := HB2.out.put hE
  clear hE
  obtain ⟨d30, d31, d32, d33, d34, d35⟩ := box6 HB3.out.bx
  have HE : Hid (PoR w0 b (.slice ao ln c) T3 W w3) := HB3.out.pos
  clear HB3
  go_wp2
  go_end0
  exact ⟨rfl, HE.out⟩
set_option maxRecDepth 100000 in
set_option maxHeartbeats 4000000 in
theorem rf_45b (w0 : World) (b : Nat) (ao : Option Addr) (c : Nat) (l : List Nd) (nt : Nat → Tks) (K : Nat) (x : Nd) (hk : x.k = 45) (hr : NdR w0 b ao c l nt K x) (hl : x.ks.length = 3) : PrR w0 b (.slice ao l.length c) l nt 58 x (prtK l x 45) := by
  intro t W hS hlen
  have har : arB 45 x.ks.length = true := by have := hr.nk.ar; rw [hk] at this; exact this
  have hE0 : run t (psT nt l (prtK l x 45)) = run (run (run (run (run t [[105, 102]]) (brT nt l 17762910994432 (kidN x 0))) (nt (kidN x 1))) [[101, 108, 115, 101]]) (nt (kidN x 2)) := by
    simp only [prtK, psT_app, psT, Pt.tk, run_app, List.append_nil]
    rw [if_neg (by omega)]
    simp only [psT, Pt.tk, run_app, List.append_nil]
  rw [hE0] at hlen ⊢
  clear hE0
  obtain ⟨T1, hT1⟩ : ∃ T, run t [[105, 102]] = T := ⟨_, rfl⟩
  rw [hT1] at hlen ⊢
  obtain ⟨T2, hT2⟩ : ∃ T, run T1 (brT nt l 17762910994432 (kidN x 0)) = T := ⟨_, rfl⟩
  rw [hT2] at hlen ⊢
  obtain ⟨T3, hT3⟩ : ∃ T, run T2 (nt (kidN x 1)) = T := ⟨_, rfl⟩
  rw [hT3] at hlen ⊢
  obtain ⟨T4, hT4⟩ : ∃ T, run T3 [[101, 108, 115, 101]] = T := ⟨_, rfl⟩
  rw [hT4] at hlen ⊢
  obtain ⟨T5, hT5⟩ : ∃ T, run T4 (nt (kidN x 2)) = T := ⟨_, rfl⟩
  rw [hT5] at hlen ⊢
  have hl5 : T5.length ≤ 140737488355328 := hlen
  have hl4 : T4.length ≤ 140737488355328 := Nat.le_trans (run_le _ _) (by rw [hT5]; exact hl5)
  have hl3 : T3.length ≤ 140737488355328 := Nat.le_trans (run_le _ _) (by rw [hT4]; exact hl4)
  have hl2 : T2.length ≤ 140737488355328 := Nat.le_trans (run_le _ _) (by rw [hT3]; exact hl3)
  have hl1 : T1.length ≤ 140737488355328 := Nat.le_trans (run_le _ _) (by rw [hT2]; exact hl2)
  have HC1 : Hid (∀ W, RSt w0 b (.slice ao l.length c) t W → Calls Tryz.prog 53 #[.pointer (some ⟨b, 0, none⟩), .string ⟨#[105, 102]⟩] W fun e w' => e = .returned (.tuple #[]) ∧ PoR w0 b (.slice ao l.length c) T1 W w') := rput_h (s := ⟨#[105, 102]⟩) (by simp) hT1 hl1
  have HC2 : Hid (∀ W, RSt w0 b (.slice ao l.length c) T1 W → Calls Tryz.prog 56 #[.pointer (some ⟨b, 0, none⟩), .int .i64 (kidN x 0 : Nat), .bool false] W fun e w' => e = .returned (.tuple #[]) ∧ PoR w0 b (.slice ao l.length c) T2 W w') := roper_ah hr.hl (hr.kl 0 (by omega)) (hr.kid 0 (by omega)) hT2 hl2
  have HC3 : Hid (∀ W, RSt w0 b (.slice ao l.length c) T2 W → Calls Tryz.prog 29 #[.pointer (some ⟨b, 0, none⟩), .int .i64 (kidN x 1 : Nat)] W fun e w' => e = .returned (.tuple #[]) ∧ PoR w0 b (.slice ao l.length c) T3 W w') := rnode_h (hr.kid 1 (by omega)) hT3 hl3
  have HC4 : Hid (∀ W, RSt w0 b (.slice ao l.length c) T3 W → Calls Tryz.prog 53 #[.pointer (some ⟨b, 0, none⟩), .string ⟨#[101, 108, 115, 101]⟩] W fun e w' => e = .returned (.tuple #[]) ∧ PoR w0 b (.slice ao l.length c) T4 W w') := rput_h (s := ⟨#[101, 108, 115, 101]⟩) (by simp) hT4 hl4
  have HC5 : Hid (∀ W, RSt w0 b (.slice ao l.length c) T4 W → Calls Tryz.prog 29 #[.pointer (some ⟨b, 0, none⟩), .int .i64 (kidN x 2 : Nat)] W fun e w' => e = .returned (.tuple #[]) ∧ PoR w0 b (.slice ao l.length c) T5 W w') := rnode_h (hr.kid 2 (by omega)) hT5 hl5
  have HS : Hid (RSt w0 b (.slice ao l.length c) t W) := hS
  obtain ⟨g0, o0, hka, hcell⟩ := hr.nk.addr (by omega)
  have HX : Hid (∀ W, Below w0.heap.size w0 W → W.cell? ⟨g0, o0, none⟩ = some (.int .i64 (kidN x 0 : Nat)) ∧ W.cell? ⟨g0, o0 + 1, none⟩ = some (.int .i64 (kidN x 1 : Nat)) ∧ W.cell? ⟨g0, o0 + 2, none⟩ = some (.int .i64 (kidN x 2 : Nat))) := fun W hW => ⟨hcell W hW 0 (by omega), hcell W hW 1 (by omega), hcell W hW 2 (by omega)⟩
  have hc1 := hr.nk.ks.1
  have hc2 := hr.nk.ks.2.1
  rw [hl] at hc1
  unfold nda
  rw [hk, hl, hka]
  clear hr hlen hS har hk hT1 hl1 hT2 hl2 hT3 hl3 hT4 hl4 hT5 hl5 hcell hka hl
  generalize kidN x 0 = q0 at *
  generalize kidN x 1 = q1 at *
  generalize kidN x 2 = q2 at *
  generalize x.nm = xn at *
  generalize x.v = xv at *
  generalize x.kc = xc at *
  generalize x.ka = xa at *
  generalize x.fr = xf at *
  generalize x.en = xe at *
  generalize l.length = ln at *
  have HB0 : Hid (BsR w0 b (.slice ao ln c) t W #[.int .i64 45, .string xn, .int .i64 xv, .slice (some ⟨g0, o0, none⟩) 3 xc, .int .i64 xf, .int .i64 xe] (W.alloc (.cells #[.int .i64 45, .string xn, .int .i64 xv, .slice (some ⟨g0, o0, none⟩) 3 xc, .int .i64 xf, .int .i64 xe] 53))) := BsR.start HS.out _
  have r00 : (W.alloc (.cells #[.int .i64 45, .string xn, .int .i64 xv, .slice (some ⟨g0, o0, none⟩) 3 xc, .int .i64 xf, .int .i64 xe] 53)).cell? ⟨g0, o0, none⟩ = some (.int .i64 q0) := (HX.out _ HB0.out.st.bl).1
  have r01 : (W.alloc (.cells #[.int .i64 45, .string xn, .int .i64 xv, .slice (some ⟨g0, o0, none⟩) 3 xc, .int .i64 xf, .int .i64 xe] 53)).cell? ⟨g0, o0 + 1, none⟩ = some (.int .i64 q1) := (HX.out _ HB0.out.st.bl).2.1
  have r02 : (W.alloc (.cells #[.int .i64 45, .string xn, .int .i64 xv, .slice (some ⟨g0, o0, none⟩) 3 xc, .int .i64 xf, .int .i64 xe] 53)).cell? ⟨g0, o0 + 2, none⟩ = some (.int .i64 q2) := (HX.out _ HB0.out.st.bl).2.2
  go_enter Tryz.func58, Tryz.ntmps58
  go_wp2_with fail
  refine (HC1.out _ HB0.out.st).mono ?_
  rintro e w1 ⟨rfl, hE⟩
  have HB1 : Hid (BsR w0 b (.slice ao ln c) T1 W #[.int .i64 45, .string xn, .int .i64 xv, .slice (some ⟨g0, o0, none⟩) 3 xc, .int .i64 xf, .int .i64 xe] w1) := HB0.out.put hE
  clear hE
  obtain ⟨d10, d11, d12, d13, d14, d15⟩ := box6 HB1.out.bx
  obtain ⟨r10, r11, r12⟩ := HX.out w1 HB1.out.st.bl
  go_wp2_with fail
  refine (HC2.out _ HB1.out.st).mono ?_
  rintro e w2 ⟨rfl, hE⟩
  have HB2 : Hid (BsR w0 b (.slice ao ln c) T2 W #[.int .i64 45, .string xn, .int .i64 xv, .slice (some ⟨g0, o0, none⟩) 3 xc, .int .i64 xf, .int .i64 xe] w2) := HB1.out.put hE
  clear hE
  obtain ⟨d20, d21, d22, d23, d24, d25⟩ := box6 HB2.out.bx
  obtain ⟨r20, r21, r22⟩ := HX.out w2 HB2.out.st.bl
  go_wp2_with fail
  refine (HC3.out _ HB2.out.st).mono ?_
  rintro e w3 ⟨rfl, hE⟩
  have HB3 : Hid (BsR w0 b (.slice ao ln c) T3 W #[.int .i64 45, .string xn, .int .i64 xv, .slice (some ⟨g0, o0, none⟩) 3 xc, .int .i64 xf, .int .i64 xe] w3) := HB2.out.put hE
  clear hE
  obtain ⟨d30, d31, d32, d33, d34, d35⟩ := box6 HB3.out.bx
  obtain ⟨r30, r31, r32⟩ := HX.out w3 HB3.out.st.bl
  go_wp2_with fail
  refine (HC4.out _ HB3.out.st).mono ?_
  rintro e w4 ⟨rfl, hE⟩
  have HB4 : Hid (BsR w0 b (.slice ao ln c) T4 W #[.int .i64 45, .string xn, .int .i64 xv, .slice (some ⟨g0, o0, none⟩) 3 xc, .int .i64 xf, .int .i64 xe] w4) := HB3.out.put hE
  clear hE
  obtain ⟨d40, d41, d42, d43, d44, d45⟩ := box6 HB4.out.bx
  obtain ⟨r40, r41, r42⟩ := HX.out w4 HB4.out.st.bl
  go_wp2_with fail
  refine (HC5.out _ HB4.out.st).mono ?_
  rintro e w5 ⟨rfl, hE⟩
  have HB5 : Hid (BsR w0 b (.slice ao ln c) T5 W #[.int .i64 45, .string xn, .int .i64 xv, .slice (some ⟨g0, o0, none⟩) 3 xc, .int .i64 xf, .int .i64 xe] w5) := HB4.out.put hE
  clear hE
  have HE : Hid (PoR w0 b (.slice ao ln c) T5 W w5) := HB5.out.pos
  clear HB5
  go_wp2
  go_end0
  exact ⟨rfl, HE.out⟩
set_option maxRecDepth 100000 in
set_option maxHeartbeats 4000000 in
theorem rf_47 (w0 : World) (b : Nat) (ao : Option Addr) (c : Nat) (l : List Nd) (nt : Nat → Tks) (K : Nat) (x : Nd) (hk : x.k = 47) (hr : NdR w0 b ao c l nt K x) : PrR w0 b (.slice ao l.length c) l nt 58 x (prtK l x 47) := by
  intro t W hS hlen
  have har : arB 47 x.ks.length = true := by have := hr.nk.ar; rw [hk] at this; exact this
  have hl : x.ks.length = 2 := by simpa [arB] using har
  have hE0 : run t (psT nt l (prtK l x 47)) = run (run (run t (nt (kidN x 0))) [[61, 62]]) (nt (kidN x 1)) := by
    simp only [prtK, psT, Pt.tk, run_app, List.append_nil]
  rw [hE0] at hlen ⊢
  clear hE0
  obtain ⟨T1, hT1⟩ : ∃ T, run t (nt (kidN x 0)) = T := ⟨_, rfl⟩
  rw [hT1] at hlen ⊢
  obtain ⟨T2, hT2⟩ : ∃ T, run T1 [[61, 62]] = T := ⟨_, rfl⟩
  rw [hT2] at hlen ⊢
  obtain ⟨T3, hT3⟩ : ∃ T, run T2 (nt (kidN x 1)) = T := ⟨_, rfl⟩
  rw [hT3] at hlen ⊢
  have hl3 : T3.length ≤ 140737488355328 := hlen
  have hl2 : T2.length ≤ 140737488355328 := Nat.le_trans (run_le _ _) (by rw [hT3]; exact hl3)
  have hl1 : T1.length ≤ 140737488355328 := Nat.le_trans (run_le _ _) (by rw [hT2]; exact hl2)
  have HC1 : Hid (∀ W, RSt w0 b (.slice ao l.length c) t W → Calls Tryz.prog 29 #[.pointer (some ⟨b, 0, none⟩), .int .i64 (kidN x 0 : Nat)] W fun e w' => e = .returned (.tuple #[]) ∧ PoR w0 b (.slice ao l.length c) T1 W w') := rnode_h (hr.kid 0 (by omega)) hT1 hl1
  have HC2 : Hid (∀ W, RSt w0 b (.slice ao l.length c) T1 W → Calls Tryz.prog 53 #[.pointer (some ⟨b, 0, none⟩), .string ⟨#[61, 62]⟩] W fun e w' => e = .returned (.tuple #[]) ∧ PoR w0 b (.slice ao l.length c) T2 W w') := rput_h (s := ⟨#[61, 62]⟩) (by simp) hT2 hl2
  have HC3 : Hid (∀ W, RSt w0 b (.slice ao l.length c) T2 W → Calls Tryz.prog 29 #[.pointer (some ⟨b, 0, none⟩), .int .i64 (kidN x 1 : Nat)] W fun e w' => e = .returned (.tuple #[]) ∧ PoR w0 b (.slice ao l.length c) T3 W w') := rnode_h (hr.kid 1 (by omega)) hT3 hl3
  have HS : Hid (RSt w0 b (.slice ao l.length c) t W) := hS
  obtain ⟨g0, o0, hka, hcell⟩ := hr.nk.addr (by omega)
  have HX : Hid (∀ W, Below w0.heap.size w0 W → W.cell? ⟨g0, o0, none⟩ = some (.int .i64 (kidN x 0 : Nat)) ∧ W.cell? ⟨g0, o0 + 1, none⟩ = some (.int .i64 (kidN x 1 : Nat))) := fun W hW => ⟨hcell W hW 0 (by omega), hcell W hW 1 (by omega)⟩
  have hc1 := hr.nk.ks.1
  have hc2 := hr.nk.ks.2.1
  rw [hl] at hc1
  unfold nda
  rw [hk, hl, hka]
  clear hr hlen hS har hk hT1 hl1 hT2 hl2 hT3 hl3 hcell hka hl
  generalize kidN x 0 = q0 at *
  generalize kidN x 1 = q1 at *
  generalize x.nm = xn at *
  generalize x.v = xv at *
  generalize x.kc = xc at *
  generalize x.ka = xa at *
  generalize x.fr = xf at *
  generalize x.en = xe at *
  generalize l.length = ln at *
  have HB0 : Hid (BsR w0 b (.slice ao ln c) t W #[.int .i64 47, .string xn, .int .i64 xv, .slice (some ⟨g0, o0, none⟩) 2 xc, .int .i64 xf, .int .i64 xe] (W.alloc (.cells #[.int .i64 47, .string xn, .int .i64 xv, .slice (some ⟨g0, o0, none⟩) 2 xc, .int .i64 xf, .int .i64 xe] 53))) := BsR.start HS.out _
  have r00 : (W.alloc (.cells #[.int .i64 47, .string xn, .int .i64 xv, .slice (some ⟨g0, o0, none⟩) 2 xc, .int .i64 xf, .int .i64 xe] 53)).cell? ⟨g0, o0, none⟩ = some (.int .i64 q0) := (HX.out _ HB0.out.st.bl).1
  have r01 : (W.alloc (.cells #[.int .i64 47, .string xn, .int .i64 xv, .slice (some ⟨g0, o0, none⟩) 2 xc, .int .i64 xf, .int .i64 xe] 53)).cell? ⟨g0, o0 + 1, none⟩ = some (.int .i64 q1) := (HX.out _ HB0.out.st.bl).2
  go_enter Tryz.func58, Tryz.ntmps58
  go_wp2_with fail
  refine (HC1.out _ HB0.out.st).mono ?_
  rintro e w1 ⟨rfl, hE⟩
  have HB1 : Hid (BsR w0 b (.slice ao ln c) T1 W #[.int .i64 47, .string xn, .int .i64 xv, .slice (some ⟨g0, o0, none⟩) 2 xc, .int .i64 xf, .int .i64 xe] w1) := HB0.out.put hE
  clear hE
  obtain ⟨d10, d11, d12, d13, d14, d15⟩ := box6 HB1.out.bx
  obtain ⟨r10, r11⟩ := HX.out w1 HB1.out.st.bl
  go_wp2_with fail
  refine (HC2.out _ HB1.out.st).mono ?_
  rintro e w2 ⟨rfl, hE⟩
  have HB2 : Hid (BsR w0 b (.slice ao ln c) T2 W #[.int .i64 47, .string xn, .int .i64 xv, .slice (some ⟨g0, o0, none⟩) 2 xc, .int .i64 xf, .int .i64 xe] w2) := HB1.out.put hE
  clear hE
  obtain ⟨d20, d21, d22, d23, d24, d25⟩ := box6 HB2.out.bx
  obtain ⟨r20, r21⟩ := HX.out w2 HB2.out.st.bl
  go_wp2_with fail
  refine (HC3.out _ HB2.out.st).mono ?_
  rintro e w3 ⟨rfl, hE⟩
  have HB3 : Hid (BsR w0 b (.slice ao ln c) T3 W #[.int .i64 47, .string xn, .int .i64 xv, .slice (some ⟨g0, o0, none⟩) 2 xc, .int .i64 xf, .int .i64 xe] w3) := HB2.out.put hE
  clear hE
  have HE : Hid (PoR w0 b (.slice ao ln c) T3 W w3) := HB3.out.pos
  clear HB3
  go_wp2
  go_end0
  exact ⟨rfl, HE.out⟩
set_option maxRecDepth 100000 in
set_option maxHeartbeats 4000000 in
theorem rf_46a (w0 : World) (b : Nat) (ao : Option Addr) (c : Nat) (l : List Nd) (nt : Nat → Tks) (K : Nat) (x : Nd) (hk : x.k = 46) (hr : NdR w0 b ao c l nt K x) (h1 : x.kc = 1) : PrR w0 b (.slice ao l.length c) l nt 58 x (prtK l x 46) := by
  intro t W hS hlen
  have har : arB 46 x.ks.length = true := by have := hr.nk.ar; rw [hk] at this; exact this
  have hl : 1 ≤ x.ks.length := by simpa [arB] using har
  obtain ⟨g0, o0, hka, hcell⟩ := hr.nk.addr (by omega)
  obtain ⟨a9, ha9⟩ : ∃ a9, a9 = (if x.kc = 1 then some (⟨g0, o0, none⟩ : Addr) else some ⟨g0, o0 + 1, none⟩) := ⟨_, rfl⟩
  have hI2 : IsA w0 a9 (x.kc - 1) (x.ks.drop 1) := by
    obtain ⟨i1, i2, i3⟩ := hr.nk.ks
    refine ⟨by rw [List.length_drop]; omega, by omega, fun h0 => ?_⟩
    rw [List.length_drop] at h0
    obtain ⟨g, o, e1, e2⟩ := i3 (by omega)
    rw [hka] at e1
    cases e1
    refine ⟨g0, o0 + 1, by rw [ha9, if_neg (by omega)], fun j y hy => ?_⟩
    rw [List.getElem?_drop] at hy
    rw [Nat.add_assoc]
    exact e2 _ _ hy
  have hA2 : ∀ y ∈ x.ks.drop 1, 0 ≤ y ∧ NodeR w0 b (.slice ao l.length c) nt y.toNat := fun y hy => hr.all y (List.mem_of_mem_drop hy)
  have hE0 : run t (psT nt l (prtK l x 46)) = run (run (run (run (run t [[109, 97, 116, 99, 104]]) (brT nt l 17762910994432 (kidN x 0))) [[123]]) (comT nt 0 (x.ks.drop 1))) [[125]] := by
    simp only [prtK, psT, Pt.tk, run_app, List.append_nil]
  rw [hE0] at hlen ⊢
  clear hE0
  obtain ⟨T1, hT1⟩ : ∃ T, run t [[109, 97, 116, 99, 104]] = T := ⟨_, rfl⟩
  rw [hT1] at hlen ⊢
  obtain ⟨T2, hT2⟩ : ∃ T, run T1 (brT nt l 17762910994432 (kidN x 0)) = T := ⟨_, rfl⟩
  rw [hT2] at hlen ⊢
  obtain ⟨T3, hT3⟩ : ∃ T, run (run (run T2 [[123]]) (comT nt 0 (x.ks.drop 1))) [[125]] = T := ⟨_, rfl⟩
  rw [hT3] at hlen ⊢
  have hl3 : T3.length ≤ 140737488355328 := hlen
  have hl2 : T2.length ≤ 140737488355328 := Nat.le_trans (Nat.le_trans (run_le _ _) (Nat.le_trans (run_le _ _) (run_le _ _))) (by rw [hT3]; exact hl3)
  have hl1 : T1.length ≤ 140737488355328 := Nat.le_trans (run_le _ _) (by rw [hT2]; exact hl2)
  have HC1 : Hid (∀ W, RSt w0 b (.slice ao l.length c) t W → Calls Tryz.prog 53 #[.pointer (some ⟨b, 0, none⟩), .string ⟨#[109, 97, 116, 99, 104]⟩] W fun e w' => e = .returned (.tuple #[]) ∧ PoR w0 b (.slice ao l.length c) T1 W w') := rput_h (s := ⟨#[109, 97, 116, 99, 104]⟩) (by simp) hT1 hl1
  have HC2 : Hid (∀ W, RSt w0 b (.slice ao l.length c) T1 W → Calls Tryz.prog 56 #[.pointer (some ⟨b, 0, none⟩), .int .i64 (kidN x 0 : Nat), .bool false] W fun e w' => e = .returned (.tuple #[]) ∧ PoR w0 b (.slice ao l.length c) T2 W w') := roper_ah hr.hl (hr.kl 0 (by omega)) (hr.kid 0 (by omega)) hT2 hl2
  have HC3 : Hid (∀ W, RSt w0 b (.slice ao l.length c) T2 W → Calls Tryz.prog 80 #[.pointer (some ⟨b, 0, none⟩), .slice a9 (x.ks.drop 1).length (x.kc - 1)] W fun e w' => e = .returned (.tuple #[]) ∧ PoR w0 b (.slice ao l.length c) T3 W w') := rbrace80 w0 b _ nt (x.ks.drop 1) a9 (x.kc - 1) hI2 hA2 T2 T3 hT3 hl3
  have HS : Hid (RSt w0 b (.slice ao l.length c) t W) := hS
  have HX : Hid (∀ W, Below w0.heap.size w0 W → W.cell? ⟨g0, o0, none⟩ = some (.int .i64 (kidN x 0 : Nat))) := fun W hW => hcell W hW 0 (by omega)
  have hdl : (x.ks.drop 1).length = x.ks.length - 1 := List.length_drop
  rw [hdl] at HC3
  rw [if_pos h1] at ha9
  subst ha9
  have hc1 := hr.nk.ks.1
  have hc2 := hr.nk.ks.2.1
  unfold nda
  rw [hk, hka]
  clear hI2 hA2 hdl
  clear hr hlen hS har hk hT1 hl1 hT2 hl2 hT3 hl3 hcell hka
  generalize kidN x 0 = q0 at *
  generalize x.ks.length = xl at *
  generalize x.nm = xn at *
  generalize x.v = xv at *
  generalize x.kc = xc at *
  generalize x.ka = xa at *
  generalize x.fr = xf at *
  generalize x.en = xe at *
  subst h1
  obtain rfl : xl = 1 := by omega
  generalize l.length = ln at *
  have HB0 : Hid (BsR w0 b (.slice ao ln c) t W #[.int .i64 46, .string xn, .int .i64 xv, .slice (some ⟨g0, o0, none⟩) 1 1, .int .i64 xf, .int .i64 xe] (W.alloc (.cells #[.int .i64 46, .string xn, .int .i64 xv, .slice (some ⟨g0, o0, none⟩) 1 1, .int .i64 xf, .int .i64 xe] 53))) := BsR.start HS.out _
  have r00 : (W.alloc (.cells #[.int .i64 46, .string xn, .int .i64 xv, .slice (some ⟨g0, o0, none⟩) 1 1, .int .i64 xf, .int .i64 xe] 53)).cell? ⟨g0, o0, none⟩ = some (.int .i64 q0) := HX.out _ HB0.out.st.bl
  go_enter Tryz.func58, Tryz.ntmps58
  go_wp2_with fail
  refine (HC1.out _ HB0.out.st).mono ?_
  rintro e w1 ⟨rfl, hE⟩
  have HB1 : Hid (BsR w0 b (.slice ao ln c) T1 W #[.int .i64 46, .string xn, .int .i64 xv, .slice (some ⟨g0, o0, none⟩) 1 1, .int .i64 xf, .int .i64 xe] w1) := HB0.out.put hE
  clear hE
  obtain ⟨d10, d11, d12, d13, d14, d15⟩ := box6 HB1.out.bx
  have r10 := HX.out w1 HB1.out.st.bl
  go_wp2_with fail
  refine (HC2.out _ HB1.out.st).mono ?_
  rintro e w2 ⟨rfl, hE⟩
  have HB2 : Hid (BsR w0 b (.slice ao ln c) T2 W #[.int .i64 46, .string xn, .int .i64 xv, .slice (some ⟨g0, o0, none⟩) 1 1, .int .i64 xf, .int .i64 xe] w2) := HB1.out.put hE
  clear hE
  obtain ⟨d20, d21, d22, d23, d24, d25⟩ := box6 HB2.out.bx
  have r20 := HX.out w2 HB2.out.st.bl
  go_wp2_with fail
  refine (HC3.out _ HB2.out.st).mono ?_
  rintro e w3 ⟨rfl, hE⟩
  have HB3 : Hid (BsR w0 b (.slice ao ln c) T3 W #[.int .i64 46, .string xn, .int .i64 xv, .slice (some ⟨g0, o0, none⟩) 1 1, .int .i64 xf, .int .i64 xe] w3) := HB2.out.put hE
  clear hE
  have HE : Hid (PoR w0 b (.slice ao ln c) T3 W w3) := HB3.out.pos
  clear HB3
  go_wp2
  go_end0
  exact ⟨rfl, HE.out⟩
set_option maxRecDepth 100000 in
set_option maxHeartbeats 4000000 in
theorem rf_46b (w0 : World) (b : Nat) (ao : Option Addr) (c : Nat) (l : List Nd) (nt : Nat → Tks) (K : Nat) (x : Nd) (hk : x.k = 46) (hr : NdR w0 b ao c l nt K x) (h1 : ¬ x.kc = 1) : PrR w0 b (.slice ao l.length c) l nt 58 x (prtK l x 46) := by
  intro t W hS hlen
  have har : arB 46 x.ks.length = true := by have := hr.nk.ar; rw [hk] at this; exact this
  have hl : 1 ≤ x.ks.length := by simpa [arB] using har
  obtain ⟨g0, o0, hka, hcell⟩ := hr.nk.addr (by omega)
  obtain ⟨a9, ha9⟩ : ∃ a9, a9 = (if x.kc = 1 then some (⟨g0, o0, none⟩ : Addr) else some ⟨g0, o0 + 1, none⟩) := ⟨_, rfl⟩
  have hI2 : IsA w0 a9 (x.kc - 1) (x.ks.drop 1) := by
    obtain ⟨i1, i2, i3⟩ := hr.nk.ks
    refine ⟨by rw [List.length_drop]; omega, by omega, fun h0 => ?_⟩
    rw [List.length_drop] at h0
    obtain ⟨g, o, e1, e2⟩ := i3 (by omega)
    rw [hka] at e1
    cases e1
    refine ⟨g0, o0 + 1, by rw [ha9, if_neg (by omega)], fun j y hy => ?_⟩
    rw [List.getElem?_drop] at hy
    rw [Nat.add_assoc]
    exact e2 _ _ hy
  have hA2 : ∀ y ∈ x.ks.drop 1, 0 ≤ y ∧ NodeR w0 b (.slice ao l.length c) nt y.toNat := fun y hy => hr.all y (List.mem_of_mem_drop hy)
  have hE0 : run t (psT nt l (prtK l x 46)) = run (run (run (run (run t [[109, 97, 116, 99, 104]]) (brT nt l 17762910994432 (kidN x 0))) [[123]]) (comT nt 0 (x.ks.drop 1))) [[125]] := by
    simp only [prtK, psT, Pt.tk, run_app, List.append_nil]
  rw [hE0] at hlen ⊢
  clear hE0
  obtain ⟨T1, hT1⟩ : ∃ T, run t [[109, 97, 116, 99, 104]] = T := ⟨_, rfl⟩
  rw [hT1] at hlen ⊢
  obtain ⟨T2, hT2⟩ : ∃ T, run T1 (brT nt l 17762910994432 (kidN x 0)) = T := ⟨_, rfl⟩
  rw [hT2] at hlen ⊢
  obtain ⟨T3, hT3⟩ : ∃ T, run (run (run T2 [[123]]) (comT nt 0 (x.ks.drop 1))) [[125]] = T := ⟨_, rfl⟩
  rw [hT3] at hlen ⊢
  have hl3 : T3.length ≤ 140737488355328 := hlen
  have hl2 : T2.length ≤ 140737488355328 := Nat.le_trans (Nat.le_trans (run_le _ _) (Nat.le_trans (run_le _ _) (run_le _ _))) (by rw [hT3]; exact hl3)
  have hl1 : T1.length ≤ 140737488355328 := Nat.le_trans (run_le _ _) (by rw [hT2]; exact hl2)
  have HC1 : Hid (∀ W, RSt w0 b (.slice ao l.length c) t W → Calls Tryz.prog 53 #[.pointer (some ⟨b, 0, none⟩), .string ⟨#[109, 97, 116, 99, 104]⟩] W fun e w' => e = .returned (.tuple #[]) ∧ PoR w0 b (.slice ao l.length c) T1 W w') := rput_h (s := ⟨#[109, 97, 116, 99, 104]⟩) (by simp) hT1 hl1
  have HC2 : Hid (∀ W, RSt w0 b (.slice ao l.length c) T1 W → Calls Tryz.prog 56 #[.pointer (some ⟨b, 0, none⟩), .int .i64 (kidN x 0 : Nat), .bool false] W fun e w' => e = .returned (.tuple #[]) ∧ PoR w0 b (.slice ao l.length c) T2 W w') := roper_ah hr.hl (hr.kl 0 (by omega)) (hr.kid 0 (by omega)) hT2 hl2
  have HC3 : Hid (∀ W, RSt w0 b (.slice ao l.length c) T2 W → Calls Tryz.prog 80 #[.pointer (some ⟨b, 0, none⟩), .slice a9 (x.ks.drop 1).length (x.kc - 1)] W fun e w' => e = .returned (.tuple #[]) ∧ PoR w0 b (.slice ao l.length c) T3 W w') := rbrace80 w0 b _ nt (x.ks.drop 1) a9 (x.kc - 1) hI2 hA2 T2 T3 hT3 hl3
  have HS : Hid (RSt w0 b (.slice ao l.length c) t W) := hS
  have HX : Hid (∀ W, Below w0.heap.size w0 W → W.cell? ⟨g0, o0, none⟩ = some (.int .i64 (kidN x 0 : Nat))) := fun W hW => hcell W hW 0 (by omega)
  have hdl : (x.ks.drop 1).length = x.ks.length - 1 := List.length_drop
  rw [hdl] at HC3
  rw [if_neg h1] at ha9
  subst ha9
  have hc1 := hr.nk.ks.1
  have hc2 := hr.nk.ks.2.1
  unfold nda
  rw [hk, hka]
  clear hI2 hA2 hdl
  clear hr hlen hS har hk hT1 hl1 hT2 hl2 hT3 hl3 hcell hka
  generalize kidN x 0 = q0 at *
  generalize x.ks.length = xl at *
  generalize x.nm = xn at *
  generalize x.v = xv at *
  generalize x.kc = xc at *
  generalize x.ka = xa at *
  generalize x.fr = xf at *
  generalize x.en = xe at *
  have hl1 : (1 : Int) ≤ (xl : Int) := by omega
  have hl0 : (0 : Int) < (xl : Int) := by omega
  have hl2 : (xl : Int) ≤ (xc : Int) := by omega
  have hln : 0 < xl := by omega
  have hcc : ((xc : Int) == 1) = false := by simpa using (by omega : ¬ (xc : Int) = 1)
  have h1' : ¬ 1 = xc := by omega
  generalize l.length = ln at *
  have HB0 : Hid (BsR w0 b (.slice ao ln c) t W #[.int .i64 46, .string xn, .int .i64 xv, .slice (some ⟨g0, o0, none⟩) xl xc, .int .i64 xf, .int .i64 xe] (W.alloc (.cells #[.int .i64 46, .string xn, .int .i64 xv, .slice (some ⟨g0, o0, none⟩) xl xc, .int .i64 xf, .int .i64 xe] 53))) := BsR.start HS.out _
  have r00 : (W.alloc (.cells #[.int .i64 46, .string xn, .int .i64 xv, .slice (some ⟨g0, o0, none⟩) xl xc, .int .i64 xf, .int .i64 xe] 53)).cell? ⟨g0, o0, none⟩ = some (.int .i64 q0) := HX.out _ HB0.out.st.bl
  go_enter Tryz.func58, Tryz.ntmps58
  go_wp2_with fail
  refine (HC1.out _ HB0.out.st).mono ?_
  rintro e w1 ⟨rfl, hE⟩
  have HB1 : Hid (BsR w0 b (.slice ao ln c) T1 W #[.int .i64 46, .string xn, .int .i64 xv, .slice (some ⟨g0, o0, none⟩) xl xc, .int .i64 xf, .int .i64 xe] w1) := HB0.out.put hE
  clear hE
  obtain ⟨d10, d11, d12, d13, d14, d15⟩ := box6 HB1.out.bx
  have r10 := HX.out w1 HB1.out.st.bl
  go_wp2_with fail
  refine (HC2.out _ HB1.out.st).mono ?_
  rintro e w2 ⟨rfl, hE⟩
  have HB2 : Hid (BsR w0 b (.slice ao ln c) T2 W #[.int .i64 46, .string xn, .int .i64 xv, .slice (some ⟨g0, o0, none⟩) xl xc, .int .i64 xf, .int .i64 xe] w2) := HB1.out.put hE
  clear hE
  obtain ⟨d20, d21, d22, d23, d24, d25⟩ := box6 HB2.out.bx
  have r20 := HX.out w2 HB2.out.st.bl
  go_wp2_with fail
  refine (HC3.out _ HB2.out.st).mono ?_
  rintro e w3 ⟨rfl, hE⟩
  have HB3 : Hid (BsR w0 b (.slice ao ln c) T3 W #[.int .i64 46, .string xn, .int .i64 xv, .slice (some ⟨g0, o0, none⟩) xl xc, .int .i64 xf, .int .i64 xe] w3) := HB2.out.put hE
  clear hE
  have HE : Hid (PoR w0 b (.slice ao ln c) T3 W w3) := HB3.out.pos
  clear HB3
  go_wp2
  go_end0
  exact ⟨rfl, HE.out⟩
end
section
open Go.RowKit Go.Shelf
set_option maxRecDepth 100000 in
set_option maxHeartbeats 4000000 in
theorem rnum_pos (w0 : World) (b : Nat) (nd : Value) (t T : List UInt8) (v : Int) (hT0 : Tm w0) (h0 : ¬ v < 0) (h1 : v ≤ 9223372036854775807) (hT : run t [Lib.itoa v] = T) (hl : T.length ≤ 140737488355328) : Hid (∀ W, RSt w0 b nd t W → Calls Tryz.prog 54 #[.pointer (some ⟨b, 0, none⟩), .int .i64 v] W fun e w' => e = .returned (.tuple #[]) ∧ PoR w0 b nd T W w') := by
  intro W hS
  have HC : Hid (∀ W, RSt w0 b nd t W → Calls Tryz.prog 53 #[.pointer (some ⟨b, 0, none⟩), .string ⟨(Lib.itoa v).toArray⟩] W fun e w' => e = .returned (.tuple #[]) ∧ PoR w0 b nd T W w') := rput_h (s := ⟨(Lib.itoa v).toArray⟩) (itoa_ne v) hT hl
  have HF : Hid (∀ W, Below w0.heap.size w0 W → Calls Tryz.prog 81 #[.int .i64 v, .int .i64 10] W fun e w' => e = .returned (.string ⟨(Lib.itoa v).toArray⟩) ∧ Below W.heap.size W w') := fun W hW => fmt81 v (by omega) h1 W (hT0.below hW)
  have HS : Hid (RSt w0 b nd t W) := hS
  clear hT hl hS hT0
  generalize (Lib.itoa v).toArray = A at *
  go_enter Tryz.func54, Tryz.ntmps54
  go_wp2_with fail
  refine (HF.out _ HS.out.bl).mono ?_
  rintro e w1 ⟨rfl, hb⟩
  have HB : Hid (RSt w0 b nd t w1 ∧ KpR b W w1) := ⟨HS.out.later hb, .later hb⟩
  clear hb
  go_wp2_with fail
  refine (HC.out _ HB.out.1).mono ?_
  rintro e w2 ⟨rfl, hE⟩
  have HE : Hid (PoR w0 b nd T W w2) := ⟨hE.1, HB.out.2.trans hE.2⟩
  clear hE
  go_wp2
  go_end0
  exact ⟨rfl, HE.out⟩
set_option maxRecDepth 100000 in
set_option maxHeartbeats 4000000 in
theorem rnum_neg (w0 : World) (b : Nat) (nd : Value) (t T : List UInt8) (v : Int) (hT0 : Tm w0) (h0 : v < 0) (h1 : -9223372036854775808 < v) (hT : run (run t [[45]]) [Lib.itoa (-v)] = T) (hl : T.length ≤ 140737488355328) : Hid (∀ W, RSt w0 b nd t W → Calls Tryz.prog 54 #[.pointer (some ⟨b, 0, none⟩), .int .i64 v] W fun e w' => e = .returned (.tuple #[]) ∧ PoR w0 b nd T W w') := by
  intro W hS
  obtain ⟨T1, hT1⟩ : ∃ T1, run t [[45]] = T1 := ⟨_, rfl⟩
  rw [hT1] at hT
  have hl1 : T1.length ≤ 140737488355328 := Nat.le_trans (run_le _ _) (by rw [hT]; exact hl)
  have HC1 : Hid (∀ W, RSt w0 b nd t W → Calls Tryz.prog 53 #[.pointer (some ⟨b, 0, none⟩), .string ⟨#[45]⟩] W fun e w' => e = .returned (.tuple #[]) ∧ PoR w0 b nd T1 W w') := rput_h (s := ⟨#[45]⟩) (by simp) hT1 hl1
  have HC2 : Hid (∀ W, RSt w0 b nd T1 W → Calls Tryz.prog 53 #[.pointer (some ⟨b, 0, none⟩), .string ⟨(Lib.itoa (-v)).toArray⟩] W fun e w' => e = .returned (.tuple #[]) ∧ PoR w0 b nd T W w') := rput_h (s := ⟨(Lib.itoa (-v)).toArray⟩) (itoa_ne (-v)) hT hl
  have HF : Hid (∀ W, Below w0.heap.size w0 W → Calls Tryz.prog 81 #[.int .i64 (-v), .int .i64 10] W fun e w' => e = .returned (.string ⟨(Lib.itoa (-v)).toArray⟩) ∧ Below W.heap.size W w') := fun W hW => fmt81 (-v) (by omega) (by omega) W (hT0.below hW)
  have HS : Hid (RSt w0 b nd t W) := hS
  obtain ⟨u, hu⟩ : ∃ u, -v = u := ⟨_, rfl⟩
  have hw1 : IntKind.i64.wrap (-v) = u := by rw [← hu]; simp [IntKind.wrap, IntKind.bits, IntKind.signed]; omega
  rw [hu] at HC2 HF
  clear hT hl hS hT0 hT1 hl1
  generalize (Lib.itoa u).toArray = A at *
  go_enter Tryz.func54, Tryz.ntmps54
  go_wp2_with fail
  refine (HC1.out _ HS.out).mono ?_
  rintro e w1 ⟨rfl, hE⟩
  have HE1 : Hid (PoR w0 b nd T1 W w1) := hE
  clear hE
  go_wp2_with fail
  refine (HF.out _ HE1.out.1.bl).mono ?_
  rintro e w2 ⟨rfl, hb⟩
  have HB : Hid (RSt w0 b nd T1 w2 ∧ KpR b W w2) := ⟨HE1.out.1.later hb, HE1.out.2.trans (.later hb)⟩
  clear hb
  go_wp2_with fail
  refine (HC2.out _ HB.out.1).mono ?_
  rintro e w3 ⟨rfl, hE⟩
  have HE : Hid (PoR w0 b nd T W w3) := ⟨hE.1, HB.out.2.trans hE.2⟩
  clear hE
  go_wp2
  go_end0
  exact ⟨rfl, HE.out⟩
end
section
open Go.RowKit Go.Shelf
theorem ext_take (s : ByteArray) (i : Nat) : (s.extract 0 i).data.toList = s.data.toList.take i := toList_upto s i
set_option maxRecDepth 100000 in
set_option maxHeartbeats 4000000 in
theorem rpick0 (w0 : World) (b : Nat) (nd : Value) (t T : List UInt8) (K : Int) (xn : ByteArray) (xv xf xe : Int) (xa : Option Addr) (xc : Nat) (hs : xn.size ≤ 4294967280) (hp : pkB xn.data.toList = true) (hT : run (run (run t [(Lib.cut xn.data.toList [58, 58]).1]) [[58, 58]]) [(Lib.cut xn.data.toList [58, 58]).2.1] = T) (hl : T.length ≤ 140737488355328) : Hid (∀ W, RSt w0 b nd t W → Calls Tryz.prog 55 #[.pointer (some ⟨b, 0, none⟩), .agg #[.int .i64 K, .string xn, .int .i64 xv, .slice xa 0 xc, .int .i64 xf, .int .i64 xe]] W fun e w' => e = .returned (.tuple #[]) ∧ PoR w0 b nd T W w') := by
  intro W hS
  obtain ⟨i, hi, e1, e2, h58, hno, hne1, hne2⟩ := pick_facts hp
  rw [e1, e2] at hT
  have hsz : xn.size = xn.data.toList.length := Lib.size_eq xn
  have f1 : (xn.extract 0 i).data.toList = xn.data.toList.take i := ext_take xn i
  have f2 : (xn.extract (i + 2) xn.size).data.toList = xn.data.toList.drop (i + 2) := Lib.extract_to_end xn (i + 2)
  rw [← f1, ← f2] at hT
  rw [← f1] at hne1
  rw [← f2] at hne2
  obtain ⟨T1, hT1⟩ : ∃ T1, run t [(xn.extract 0 i).data.toList] = T1 := ⟨_, rfl⟩
  rw [hT1] at hT
  obtain ⟨T2, hT2⟩ : ∃ T2, run T1 [[58, 58]] = T2 := ⟨_, rfl⟩
  rw [hT2] at hT
  have hl2 : T2.length ≤ 140737488355328 := Nat.le_trans (run_le _ _) (by rw [hT]; exact hl)
  have hl1 : T1.length ≤ 140737488355328 := Nat.le_trans (run_le _ _) (by rw [hT2]; exact hl2)
  have HC1 : Hid (∀ W, RSt w0 b nd t W → Calls Tryz.prog 53 #[.pointer (some ⟨b, 0, none⟩), .string (xn.extract 0 i)] W fun e w' => e = .returned (.tuple #[]) ∧ PoR w0 b nd T1 W w') := rput_h hne1 hT1 hl1
  have HC2 : Hid (∀ W, RSt w0 b nd T1 W → Calls Tryz.prog 53 #[.pointer (some ⟨b, 0, none⟩), .string ⟨#[58, 58]⟩] W fun e w' => e = .returned (.tuple #[]) ∧ PoR w0 b nd T2 W w') := rput_h (s := ⟨#[58, 58]⟩) (by simp) hT2 hl2
  have HC3 : Hid (∀ W, RSt w0 b nd T2 W → Calls Tryz.prog 53 #[.pointer (some ⟨b, 0, none⟩), .string (xn.extract (i + 2) xn.size)] W fun e w' => e = .returned (.tuple #[]) ∧ PoR w0 b nd T W w') := rput_h hne2 hT hl
  have HNO : Hid (∀ j, j < i → ∃ c, xn.data.toList[j]? = some c ∧ c ≠ 58) := hno
  have H58 : Hid (xn.data.toList[i]? = some 58) := h58
  have HSZ : Hid (xn.size = xn.data.toList.length) := hsz
  have hi' : i + 2 ≤ xn.size := by omega
  have HB0 : Hid (BsR w0 b nd t W #[.int .i64 K, .string xn, .int .i64 xv, .slice xa 0 xc, .int .i64 xf, .int .i64 xe] (W.alloc (.cells #[.int .i64 K, .string xn, .int .i64 xv, .slice xa 0 xc, .int .i64 xf, .int .i64 xe] 53))) := BsR.start hS _
  clear hp e1 e2 hT f1 f2 hne1 hne2 hT1 hT2 hl1 hl2 hl hno h58 hsz hS hi
  go_enter Tryz.func55, Tryz.ntmps55
  go_wp2
  go_loop [4] (fun v => ∃ k : Nat, v = .int .i64 k ∧ k ≤ i) (fun v => i - (intOf v).toNat)
  case atStart => exact ⟨0, rfl, Nat.zero_le _⟩
  case round =>
    obtain ⟨k, rfl, hk⟩ := hrel
    have hkI : (k : Int) < (xn.size : Int) := by omega
    have hkn : k < xn.size := by omega
    by_cases hlt : k < i
    · obtain ⟨ch, hch, hne⟩ := HNO.out k hlt
      obtain ⟨q, hb⟩ : ∃ q, xn[k].toNat = q := ⟨_, rfl⟩
      have hq : q ≠ 58 := by
        rw [← hb, at_bt xn k hkn]
        have e : bt xn.data.toList k = ch.toNat := by simp [bt, List.getD, hch]
        rw [e]
        intro e2
        exact hne (UInt8.toNat_inj.1 e2)
      have hq1 : ((q : Int) == 58) = false := by simpa using (by omega : ¬ (q : Int) = 58)
      have hq2 : ((q : Int) != 58) = true := by simpa using (by omega : ¬ (q : Int) = 58)
      clear hch hne hq
      go_wp2
      exact ⟨⟨k + 1, by go_num, by omega⟩, by simp [intOf]; omega⟩
    · obtain rfl : k = i := by omega
      have hb : xn[k].toNat = 58 := by
        rw [at_bt xn k hkn]
        have := H58.out
        simp [bt, List.getD, this]
      have hk2 : (k : Int) + 2 ≤ (xn.size : Int) := by omega
      have hk3 : (0 : Int) ≤ (k : Int) + 2 := by omega
      have hk4 : (k : Int) ≤ (xn.size : Int) := by omega
      have hk5 : (0 : Int) ≤ (k : Int) := by omega
      go_wp2_with fail
      refine (HC1.out _ HB0.out.st).mono ?_
      rintro e w1 ⟨rfl, hE⟩
      have HB1 : Hid (BsR w0 b nd T1 W #[.int .i64 K, .string xn, .int .i64 xv, .slice xa 0 xc, .int .i64 xf, .int .i64 xe] w1) := HB0.out.put hE
      clear hE
      obtain ⟨d10, d11, d12, d13, d14, d15⟩ := box6 HB1.out.bx
      go_wp2_with fail
      refine (HC2.out _ HB1.out.st).mono ?_
      rintro e w2 ⟨rfl, hE⟩
      have HB2 : Hid (BsR w0 b nd T2 W #[.int .i64 K, .string xn, .int .i64 xv, .slice xa 0 xc, .int .i64 xf, .int .i64 xe] w2) := HB1.out.put hE
      clear hE d10 d11 d12 d13 d14 d15
      obtain ⟨d20, d21, d22, d23, d24, d25⟩ := box6 HB2.out.bx
      go_wp2_with fail
      refine (HC3.out _ HB2.out.st).mono ?_
      rintro e w3 ⟨rfl, hE⟩
      have HB3 : Hid (BsR w0 b nd T W #[.int .i64 K, .string xn, .int .i64 xv, .slice xa 0 xc, .int .i64 xf, .int .i64 xe] w3) := HB2.out.put hE
      clear hE d20 d21 d22 d23 d24 d25
      obtain ⟨d30, d31, d32, d33, d34, d35⟩ := box6 HB3.out.bx
      have HE : Hid (PoR w0 b nd T W w3) := HB3.out.pos
      go_wp2
      go_end0
      exact ⟨rfl, HE.out⟩
set_option maxRecDepth 100000 in
set_option maxHeartbeats 4000000 in
theorem rpick1 (w0 : World) (b : Nat) (nd : Value) (t T : List UInt8) (K : Int) (xn : ByteArray) (xv xf xe : Int) (g0 o0 xc q0 : Nat) (_hc1 : 1 ≤ xc) (_hc2 : xc ≤ 9223372036854775807) (nt : Nat → Tks) (hX : ∀ W, Below w0.heap.size w0 W → W.cell? ⟨g0, o0, none⟩ = some (.int .i64 (q0 : Nat))) (hN : NodeR w0 b nd nt q0) (hs : xn.size ≤ 4294967280) (hp : pkB xn.data.toList = true) (hT : run (run (run (run (run (run t [(Lib.cut xn.data.toList [58, 58]).1]) [[58, 58]]) [(Lib.cut xn.data.toList [58, 58]).2.1]) [[40]]) (nt q0)) [[41]] = T) (hl : T.length ≤ 140737488355328) : Hid (∀ W, RSt w0 b nd t W → Calls Tryz.prog 55 #[.pointer (some ⟨b, 0, none⟩), .agg #[.int .i64 K, .string xn, .int .i64 xv, .slice (some ⟨g0, o0, none⟩) 1 xc, .int .i64 xf, .int .i64 xe]] W fun e w' => e = .returned (.tuple #[]) ∧ PoR w0 b nd T W w') := by
  intro W hS
  obtain ⟨i, hi, e1, e2, h58, hno, hne1, hne2⟩ := pick_facts hp
  rw [e1, e2] at hT
  have hsz : xn.size = xn.data.toList.length := Lib.size_eq xn
  have f1 : (xn.extract 0 i).data.toList = xn.data.toList.take i := ext_take xn i
  have f2 : (xn.extract (i + 2) xn.size).data.toList = xn.data.toList.drop (i + 2) := Lib.extract_to_end xn (i + 2)
  rw [← f1, ← f2] at hT
  rw [← f1] at hne1
  rw [← f2] at hne2
  obtain ⟨T1, hT1⟩ : ∃ T1, run t [(xn.extract 0 i).data.toList] = T1 := ⟨_, rfl⟩
  rw [hT1] at hT
  obtain ⟨T2, hT2⟩ : ∃ T2, run T1 [[58, 58]] = T2 := ⟨_, rfl⟩
  rw [hT2] at hT
  obtain ⟨T3, hT3⟩ : ∃ T3, run T2 [(xn.extract (i + 2) xn.size).data.toList] = T3 := ⟨_, rfl⟩
  rw [hT3] at hT
  obtain ⟨T4, hT4⟩ : ∃ T4, run T3 [[40]] = T4 := ⟨_, rfl⟩
  rw [hT4] at hT
  obtain ⟨T5, hT5⟩ : ∃ T5, run T4 (nt q0) = T5 := ⟨_, rfl⟩
  rw [hT5] at hT
  have hl5 : T5.length ≤ 140737488355328 := Nat.le_trans (run_le _ _) (by rw [hT]; exact hl)
  have hl4 : T4.length ≤ 140737488355328 := Nat.le_trans (run_le _ _) (by rw [hT5]; exact hl5)
  have hl3 : T3.length ≤ 140737488355328 := Nat.le_trans (run_le _ _) (by rw [hT4]; exact hl4)
  have hl2 : T2.length ≤ 140737488355328 := Nat.le_trans (run_le _ _) (by rw [hT3]; exact hl3)
  have hl1 : T1.length ≤ 140737488355328 := Nat.le_trans (run_le _ _) (by rw [hT2]; exact hl2)
  have HC1 : Hid (∀ W, RSt w0 b nd t W → Calls Tryz.prog 53 #[.pointer (some ⟨b, 0, none⟩), .string (xn.extract 0 i)] W fun e w' => e = .returned (.tuple #[]) ∧ PoR w0 b nd T1 W w') := rput_h hne1 hT1 hl1
  have HC2 : Hid (∀ W, RSt w0 b nd T1 W → Calls Tryz.prog 53 #[.pointer (some ⟨b, 0, none⟩), .string ⟨#[58, 58]⟩] W fun e w' => e = .returned (.tuple #[]) ∧ PoR w0 b nd T2 W w') := rput_h (s := ⟨#[58, 58]⟩) (by simp) hT2 hl2
  have HC3 : Hid (∀ W, RSt w0 b nd T2 W → Calls Tryz.prog 53 #[.pointer (some ⟨b, 0, none⟩), .string (xn.extract (i + 2) xn.size)] W fun e w' => e = .returned (.tuple #[]) ∧ PoR w0 b nd T3 W w') := rput_h hne2 hT3 hl3
  have HC4 : Hid (∀ W, RSt w0 b nd T3 W → Calls Tryz.prog 53 #[.pointer (some ⟨b, 0, none⟩), .string ⟨#[40]⟩] W fun e w' => e = .returned (.tuple #[]) ∧ PoR w0 b nd T4 W w') := rput_h (s := ⟨#[40]⟩) (by simp) hT4 hl4
  have HC5 : Hid (∀ W, RSt w0 b nd T4 W → Calls Tryz.prog 29 #[.pointer (some ⟨b, 0, none⟩), .int .i64 (q0 : Nat)] W fun e w' => e = .returned (.tuple #[]) ∧ PoR w0 b nd T5 W w') := rnode_h hN hT5 hl5
  have HC6 : Hid (∀ W, RSt w0 b nd T5 W → Calls Tryz.prog 53 #[.pointer (some ⟨b, 0, none⟩), .string ⟨#[41]⟩] W fun e w' => e = .returned (.tuple #[]) ∧ PoR w0 b nd T W w') := rput_h (s := ⟨#[41]⟩) (by simp) hT hl
  have HX : Hid (∀ W, Below w0.heap.size w0 W → W.cell? ⟨g0, o0, none⟩ = some (.int .i64 (q0 : Nat))) := hX
  have HNO : Hid (∀ j, j < i → ∃ c, xn.data.toList[j]? = some c ∧ c ≠ 58) := hno
  have H58 : Hid (xn.data.toList[i]? = some 58) := h58
  have HSZ : Hid (xn.size = xn.data.toList.length) := hsz
  have hi' : i + 2 ≤ xn.size := by omega
  have HB0 : Hid (BsR w0 b nd t W #[.int .i64 K, .string xn, .int .i64 xv, .slice (some ⟨g0, o0, none⟩) 1 xc, .int .i64 xf, .int .i64 xe] (W.alloc (.cells #[.int .i64 K, .string xn, .int .i64 xv, .slice (some ⟨g0, o0, none⟩) 1 xc, .int .i64 xf, .int .i64 xe] 53))) := BsR.start hS _
  clear hT3 hT4 hT5 hl3 hl4 hl5 hX hN
  clear hp e1 e2 hT f1 f2 hne1 hne2 hT1 hT2 hl1 hl2 hl hno h58 hsz hS hi
  go_enter Tryz.func55, Tryz.ntmps55
  go_wp2
  go_loop [4] (fun v => ∃ k : Nat, v = .int .i64 k ∧ k ≤ i) (fun v => i - (intOf v).toNat)
  case atStart => exact ⟨0, rfl, Nat.zero_le _⟩
  case round =>
    obtain ⟨k, rfl, hk⟩ := hrel
    have hkI : (k : Int) < (xn.size : Int) := by omega
    have hkn : k < xn.size := by omega
    by_cases hlt : k < i
    · obtain ⟨ch, hch, hne⟩ := HNO.out k hlt
      obtain ⟨q, hb⟩ : ∃ q, xn[k].toNat = q := ⟨_, rfl⟩
      have hq : q ≠ 58 := by
        rw [← hb, at_bt xn k hkn]
        have e : bt xn.data.toList k = ch.toNat := by simp [bt, List.getD, hch]
        rw [e]
        intro e2
        exact hne (UInt8.toNat_inj.1 e2)
      have hq1 : ((q : Int) == 58) = false := by simpa using (by omega : ¬ (q : Int) = 58)
      have hq2 : ((q : Int) != 58) = true := by simpa using (by omega : ¬ (q : Int) = 58)
      clear hch hne hq
      go_wp2
      exact ⟨⟨k + 1, by go_num, by omega⟩, by simp [intOf]; omega⟩
    · obtain rfl : k = i := by omega
      have hb : xn[k].toNat = 58 := by
        rw [at_bt xn k hkn]
        have := H58.out
        simp [bt, List.getD, this]
      have hk2 : (k : Int) + 2 ≤ (xn.size : Int) := by omega
      have hk3 : (0 : Int) ≤ (k : Int) + 2 := by omega
      have hk4 : (k : Int) ≤ (xn.size : Int) := by omega
      have hk5 : (0 : Int) ≤ (k : Int) := by omega
      go_wp2_with fail
      refine (HC1.out _ HB0.out.st).mono ?_
      rintro e w1 ⟨rfl, hE⟩
      have HB1 : Hid (BsR w0 b nd T1 W #[.int .i64 K, .string xn, .int .i64 xv, .slice (some ⟨g0, o0, none⟩) 1 xc, .int .i64 xf, .int .i64 xe] w1) := HB0.out.put hE
      clear hE
      obtain ⟨d10, d11, d12, d13, d14, d15⟩ := box6 HB1.out.bx
      go_wp2_with fail
      refine (HC2.out _ HB1.out.st).mono ?_
      rintro e w2 ⟨rfl, hE⟩
      have HB2 : Hid (BsR w0 b nd T2 W #[.int .i64 K, .string xn, .int .i64 xv, .slice (some ⟨g0, o0, none⟩) 1 xc, .int .i64 xf, .int .i64 xe] w2) := HB1.out.put hE
      clear hE d10 d11 d12 d13 d14 d15
      obtain ⟨d20, d21, d22, d23, d24, d25⟩ := box6 HB2.out.bx
      go_wp2_with fail
      refine (HC3.out _ HB2.out.st).mono ?_
      rintro e w3 ⟨rfl, hE⟩
      have HB3 : Hid (BsR w0 b nd T3 W #[.int .i64 K, .string xn, .int .i64 xv, .slice (some ⟨g0, o0, none⟩) 1 xc, .int .i64 xf, .int .i64 xe] w3) := HB2.out.put hE
      clear hE d20 d21 d22 d23 d24 d25
      obtain ⟨d30, d31, d32, d33, d34, d35⟩ := box6 HB3.out.bx
      have r3 := HX.out w3 HB3.out.st.bl
      go_wp2_with fail
      refine (HC4.out _ HB3.out.st).mono ?_
      rintro e w4 ⟨rfl, hE⟩
      have HB4 : Hid (BsR w0 b nd T4 W #[.int .i64 K, .string xn, .int .i64 xv, .slice (some ⟨g0, o0, none⟩) 1 xc, .int .i64 xf, .int .i64 xe] w4) := HB3.out.put hE
      clear hE d30 d31 d32 d33 d34 d35 r3
      obtain ⟨d40, d41, d42, d43, d44, d45⟩ := box6 HB4.out.bx
      have r4 := HX.out w4 HB4.out.st.bl
      go_wp2_with fail
      refine (HC5.out _ HB4.out.st).mono ?_
      rintro e w5 ⟨rfl, hE⟩
      have HB5 : Hid (BsR w0 b nd T5 W #[.int .i64 K, .string xn, .int .i64 xv, .slice (some ⟨g0, o0, none⟩) 1 xc, .int .i64 xf, .int .i64 xe] w5) := HB4.out.put hE
      clear hE d40 d41 d42 d43 d44 d45 r4
      obtain ⟨d50, d51, d52, d53, d54, d55⟩ := box6 HB5.out.bx
      have r5 := HX.out w5 HB5.out.st.bl
      go_wp2_with fail
      refine (HC6.out _ HB5.out.st).mono ?_
      rintro e w6 ⟨rfl, hE⟩
      have HB6 : Hid (BsR w0 b nd T W #[.int .i64 K, .string xn, .int .i64 xv, .slice (some ⟨g0, o0, none⟩) 1 xc, .int .i64 xf, .int .i64 xe] w6) := HB5.out.put hE
      clear hE d50 d51 d52 d53 d54 d55 r5
      have HE : Hid (PoR w0 b nd T W w6) := HB6.out.pos
      clear HB6
      go_wp2
      go_end0
      exact ⟨rfl, HE.out⟩
end
end Go.Proofs.YtkkmeogehapjoaaGreatDoor
