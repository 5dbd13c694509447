/- Expressions put: one or two below. Statements put. -/
import Derived.Test.YtkkmeogehapjoaaGreatDoorNY
namespace Go.Proofs.YtkkmeogehapjoaaGreatDoor
section
open Go.RowKit Go.Shelf
set_option maxRecDepth 100000 in
set_option maxHeartbeats 4000000 in
theorem pr_38 (w0 : World) (b : Nat) (nd : Value) (l : List Nd) (nt : Nat → Tks) (K : Nat) (hP : Puts w0 b nd l nt K 3) (x : Nd) (hk : x.k = 38) (hn : NdK w0 K x) : PrF w0 b nd l nt 69 x (prtK l x 38) := by
  intro t W hS hlen
  have har : arB 38 x.ks.length = true := by have := hn.ar; rw [hk] at this; exact this
  have hl : x.ks.length = 2 := by simpa [arB] using har
  have hE0 : run t (psT nt l (prtK l x 38)) = run (t) (psT nt l [.op (kidN x 0), .s x.nm, .op (kidN x 1)]) := by
    rfl
  rw [hE0] at hlen ⊢
  clear hE0
  obtain ⟨T1, hT1⟩ : ∃ T, run t (psT nt l [.op (kidN x 0), .s x.nm, .op (kidN x 1)]) = T := ⟨_, rfl⟩
  rw [hT1] at hlen ⊢
  have hl1 : T1.length ≤ 140737488355328 := hlen
  have HC1 : Hid (∀ W g, g = W.heap.size → St w0 b nd t W → Calls Tryz.prog 26 #[.pointer (some ⟨b, 0, none⟩), .slice (some ⟨g, 0, none⟩) 3 3] (W.alloc (.cells #[.iface 90 (.int .i64 (kidN x 0 : Nat)), .iface 9 (.string x.nm), .iface 90 (.int .i64 (kidN x 1 : Nat))] 20)).drew fun e w' => e = .returned (.tuple #[]) ∧ PoS w0 b nd T1 W w') := put_hd hP [.op (kidN x 0), .s x.nm, .op (kidN x 1)] (by simp) (all_3 (⟨by simp [Pt.rk], hn.kid 0 (by omega)⟩) (⟨by simp [Pt.rk], trivial⟩) (⟨by simp [Pt.rk], hn.kid 1 (by omega)⟩)) 3 rfl _ rfl t T1 hT1 hl1
  have HS : Hid (St w0 b nd t W) := hS
  obtain ⟨g0, o0, hka, hcell⟩ := hn.addr (by omega)
  have HX : Hid (∀ W, Below w0.heap.size w0 W → W.cell? ⟨g0, o0, none⟩ = some (.int .i64 (kidN x 0 : Nat)) ∧ W.cell? ⟨g0, o0 + 1, none⟩ = some (.int .i64 (kidN x 1 : Nat))) := fun W hW => ⟨hcell W hW 0 (by omega), hcell W hW 1 (by omega)⟩
  have hc1 := hn.ks.1
  have hc2 := hn.ks.2.1
  rw [hl] at hc1
  unfold nda
  rw [hk, hl, hka]
  clear hP hlen hS hn har hk hT1 hl1 hcell hka hl
  generalize kidN x 0 = q0 at *
  generalize kidN x 1 = q1 at *
  generalize x.nm = xn at *
  generalize x.v = xv at *
  generalize x.kc = xc at *
  generalize x.ka = xa at *
  generalize x.fr = xf at *
  generalize x.en = xe at *
  clear x
  have HB0 : Hid (Bs w0 b nd t W #[.int .i64 38, .string xn, .int .i64 xv, .slice (some ⟨g0, o0, none⟩) 2 xc, .int .i64 xf, .int .i64 xe] (W.alloc (.cells #[.int .i64 38, .string xn, .int .i64 xv, .slice (some ⟨g0, o0, none⟩) 2 xc, .int .i64 xf, .int .i64 xe] 53))) := Bs.start HS.out _
  go_enter Tryz.func69, Tryz.ntmps69
  have r00 : (W.alloc (.cells #[.int .i64 38, .string xn, .int .i64 xv, .slice (some ⟨g0, o0, none⟩) 2 xc, .int .i64 xf, .int .i64 xe] 53)).cell? ⟨g0, o0, none⟩ = some (.int .i64 q0) := (HX.out _ HB0.out.st.bl).1
  have r01 : (W.alloc (.cells #[.int .i64 38, .string xn, .int .i64 xv, .slice (some ⟨g0, o0, none⟩) 2 xc, .int .i64 xf, .int .i64 xe] 53)).cell? ⟨g0, o0 + 1, none⟩ = some (.int .i64 q1) := (HX.out _ HB0.out.st.bl).2
  have HK0 : Hid (∀ T w', Bs w0 b nd T W #[.int .i64 38, .string xn, .int .i64 xv, .slice (some ⟨g0, o0, none⟩) 2 xc, .int .i64 xf, .int .i64 xe] w' → w'.cell? ⟨W.heap.size, 1, none⟩ = some (.string xn) ∧ w'.cell? ⟨W.heap.size, 3, none⟩ = some (.slice (some ⟨g0, o0, none⟩) 2 xc) ∧ w'.cell? ⟨g0, o0, none⟩ = some (.int .i64 q0) ∧ w'.cell? ⟨g0, o0 + 1, none⟩ = some (.int .i64 q1)) := fun T w' h => ⟨(box6 h.bx).2.1, (box6 h.bx).2.2.2.1, (HX.out _ h.st.bl).1, (HX.out _ h.st.bl).2⟩
  go_wp2
  go_region_held3 (fun w' => w'.cell? ⟨W.heap.size, 1, none⟩ = some (.string xn) ∧ w'.cell? ⟨W.heap.size, 3, none⟩ = some (.slice (some ⟨g0, o0, none⟩) 2 xc) ∧ w'.cell? ⟨g0, o0, none⟩ = some (.int .i64 q0) ∧ w'.cell? ⟨g0, o0 + 1, none⟩ = some (.int .i64 q1)) (first | exact HK0.out _ _ HB0.out | exact HK0.out _ _ (HB0.out.later ⟨rfl, rfl, rfl, Nat.le_refl _, fun _ _ => rfl⟩) | exact HK0.out _ _ ((HB0.out.later ((Below.refl _ _).alloc (Nat.le_refl _) _)).later ⟨rfl, rfl, rfl, Nat.le_refl _, fun _ _ => rfl⟩) | exact HK0.out _ _ HB1.out) (first | (go_at_call 26; refine (HC1.out _ _ (by first | rfl | simp) HB0.out.st).mono ?_; rintro e w1 ⟨rfl, hE⟩; have HB1 : Hid (Bs w0 b nd T1 W #[.int .i64 38, .string xn, .int .i64 xv, .slice (some ⟨g0, o0, none⟩) 2 xc, .int .i64 xf, .int .i64 xe] w1) := HB0.out.put hE; clear hE; obtain ⟨d10, d11, d12, d13, d14, d15⟩ := box6 HB1.out.bx; obtain ⟨r10, r11⟩ := HX.out w1 HB1.out.st.bl))
  have HE : Hid (PoS w0 b nd T1 W w1) := HB1.out.pos
  clear HB1 d10 d11 d12 d13 d14 d15 r10 r11
  go_wp2
  go_end0
  exact ⟨rfl, HE.out⟩
set_option maxRecDepth 100000 in
set_option maxHeartbeats 4000000 in
theorem pr_39 (w0 : World) (b : Nat) (nd : Value) (l : List Nd) (nt : Nat → Tks) (K : Nat) (hP : Puts w0 b nd l nt K 3) (x : Nd) (hk : x.k = 39) (hn : NdK w0 K x) : PrF w0 b nd l nt 69 x (prtK l x 39) := by
  intro t W hS hlen
  have har : arB 39 x.ks.length = true := by have := hn.ar; rw [hk] at this; exact this
  have hl : x.ks.length = 1 := by simpa [arB] using har
  obtain ⟨T, hT⟩ : ∃ T, run t (psT nt l (prtK l x 39)) = T := ⟨_, rfl⟩
  rw [hT] at hlen ⊢
  have HC : Hid (∀ W g, g = W.heap.size → St w0 b nd t W → Calls Tryz.prog 26 #[.pointer (some ⟨b, 0, none⟩), .slice (some ⟨g, 0, none⟩) 2 2] (W.alloc (.cells #[.iface 9 (.string ⟨#[45]⟩), .iface 90 (.int .i64 (kidN x 0 : Nat))] 20)) fun e w' => e = .returned (.tuple #[]) ∧ PoS w0 b nd T W w') := put_hc hP [.s ⟨#[45]⟩, .op (kidN x 0)] (by simp) (all_2 (⟨by simp [Pt.rk], trivial⟩) (⟨by simp [Pt.rk], hn.kid 0 (by omega)⟩)) 2 rfl _ rfl t T hT hlen
  have HS : Hid (St w0 b nd t W) := hS
  obtain ⟨g0, o0, hka, hcell⟩ := hn.addr (by omega)
  have r0 : ∀ o, (W.alloc o).cell? ⟨g0, o0, none⟩ = some (.int .i64 (kidN x 0 : Nat)) := fun o => hcell _ (hS.alloc o).bl 0 (by omega)
  have hc1 := hn.ks.1
  have hc2 := hn.ks.2.1
  rw [hl] at hc1
  unfold nda
  rw [hk, hl, hka]
  clear hP hlen hS hn har hT hk hcell hka hl
  generalize kidN x 0 = q0 at *
  generalize x.nm = xn at *
  generalize x.v = xv at *
  generalize x.kc = xc at *
  generalize x.ka = xa at *
  generalize x.fr = xf at *
  generalize x.en = xe at *
  clear x
  go_enter Tryz.func69, Tryz.ntmps69
  go_wp2_with fail
  refine (HC.out (W.alloc _) _ (by simp) (HS.out.alloc _)).mono ?_
  rintro e w' ⟨rfl, hE⟩
  have HE : Hid (PoS w0 b nd T W w') := hE.of_alloc
  clear hE
  go_wp2
  go_end0
  exact ⟨rfl, HE.out⟩
set_option maxRecDepth 100000 in
set_option maxHeartbeats 4000000 in
theorem pr_40 (w0 : World) (b : Nat) (nd : Value) (l : List Nd) (nt : Nat → Tks) (K : Nat) (hP : Puts w0 b nd l nt K 3) (x : Nd) (hk : x.k = 40) (hn : NdK w0 K x) : PrF w0 b nd l nt 69 x (prtK l x 40) := by
  intro t W hS hlen
  have har : arB 40 x.ks.length = true := by have := hn.ar; rw [hk] at this; exact this
  have hl : x.ks.length = 1 := by simpa [arB] using har
  obtain ⟨T, hT⟩ : ∃ T, run t (psT nt l (prtK l x 40)) = T := ⟨_, rfl⟩
  rw [hT] at hlen ⊢
  have HC : Hid (∀ W g, g = W.heap.size → St w0 b nd t W → Calls Tryz.prog 26 #[.pointer (some ⟨b, 0, none⟩), .slice (some ⟨g, 0, none⟩) 2 2] (W.alloc (.cells #[.iface 9 (.string ⟨#[33]⟩), .iface 90 (.int .i64 (kidN x 0 : Nat))] 20)) fun e w' => e = .returned (.tuple #[]) ∧ PoS w0 b nd T W w') := put_hc hP [.s ⟨#[33]⟩, .op (kidN x 0)] (by simp) (all_2 (⟨by simp [Pt.rk], trivial⟩) (⟨by simp [Pt.rk], hn.kid 0 (by omega)⟩)) 2 rfl _ rfl t T hT hlen
  have HS : Hid (St w0 b nd t W) := hS
  obtain ⟨g0, o0, hka, hcell⟩ := hn.addr (by omega)
  have r0 : ∀ o, (W.alloc o).cell? ⟨g0, o0, none⟩ = some (.int .i64 (kidN x 0 : Nat)) := fun o => hcell _ (hS.alloc o).bl 0 (by omega)
  have hc1 := hn.ks.1
  have hc2 := hn.ks.2.1
  rw [hl] at hc1
  unfold nda
  rw [hk, hl, hka]
  clear hP hlen hS hn har hT hk hcell hka hl
  generalize kidN x 0 = q0 at *
  generalize x.nm = xn at *
  generalize x.v = xv at *
  generalize x.kc = xc at *
  generalize x.ka = xa at *
  generalize x.fr = xf at *
  generalize x.en = xe at *
  clear x
  go_enter Tryz.func69, Tryz.ntmps69
  go_wp2_with fail
  refine (HC.out (W.alloc _) _ (by simp) (HS.out.alloc _)).mono ?_
  rintro e w' ⟨rfl, hE⟩
  have HE : Hid (PoS w0 b nd T W w') := hE.of_alloc
  clear hE
  go_wp2
  go_end0
  exact ⟨rfl, HE.out⟩
set_option maxRecDepth 100000 in
set_option maxHeartbeats 4000000 in
theorem pr_41 (w0 : World) (b : Nat) (nd : Value) (l : List Nd) (nt : Nat → Tks) (K : Nat) (hP : Puts w0 b nd l nt K 3) (x : Nd) (hk : x.k = 41) (hn : NdK w0 K x) : PrF w0 b nd l nt 69 x (prtK l x 41) := by
  intro t W hS hlen
  have har : arB 41 x.ks.length = true := by have := hn.ar; rw [hk] at this; exact this
  have hl : x.ks.length = 1 := by simpa [arB] using har
  have hE0 : run t (psT nt l (prtK l x 41)) = run (t) (psT nt l [.ow (kidN x 0), .s ⟨#[46]⟩, .s x.nm]) := by
    rfl
  rw [hE0] at hlen ⊢
  clear hE0
  obtain ⟨T1, hT1⟩ : ∃ T, run t (psT nt l [.ow (kidN x 0), .s ⟨#[46]⟩, .s x.nm]) = T := ⟨_, rfl⟩
  rw [hT1] at hlen ⊢
  have hl1 : T1.length ≤ 140737488355328 := hlen
  have HC1 : Hid (∀ W g, g = W.heap.size → St w0 b nd t W → Calls Tryz.prog 26 #[.pointer (some ⟨b, 0, none⟩), .slice (some ⟨g, 0, none⟩) 3 3] (W.alloc (.cells #[.iface 92 (.int .i64 (kidN x 0 : Nat)), .iface 9 (.string ⟨#[46]⟩), .iface 9 (.string x.nm)] 20)).drew fun e w' => e = .returned (.tuple #[]) ∧ PoS w0 b nd T1 W w') := put_hd hP [.ow (kidN x 0), .s ⟨#[46]⟩, .s x.nm] (by simp) (all_3 (⟨by simp [Pt.rk], hn.kid 0 (by omega)⟩) (⟨by simp [Pt.rk], trivial⟩) (⟨by simp [Pt.rk], trivial⟩)) 3 rfl _ rfl t T1 hT1 hl1
  have HS : Hid (St w0 b nd t W) := hS
  obtain ⟨g0, o0, hka, hcell⟩ := hn.addr (by omega)
  have HX : Hid (∀ W, Below w0.heap.size w0 W → W.cell? ⟨g0, o0, none⟩ = some (.int .i64 (kidN x 0 : Nat))) := fun W hW => hcell W hW 0 (by omega)
  have hc1 := hn.ks.1
  have hc2 := hn.ks.2.1
  rw [hl] at hc1
  unfold nda
  rw [hk, hl, hka]
  clear hP hlen hS hn har hk hT1 hl1 hcell hka hl
  generalize kidN x 0 = q0 at *
  generalize x.nm = xn at *
  generalize x.v = xv at *
  generalize x.kc = xc at *
  generalize x.ka = xa at *
  generalize x.fr = xf at *
  generalize x.en = xe at *
  clear x
  have HB0 : Hid (Bs w0 b nd t W #[.int .i64 41, .string xn, .int .i64 xv, .slice (some ⟨g0, o0, none⟩) 1 xc, .int .i64 xf, .int .i64 xe] (W.alloc (.cells #[.int .i64 41, .string xn, .int .i64 xv, .slice (some ⟨g0, o0, none⟩) 1 xc, .int .i64 xf, .int .i64 xe] 53))) := Bs.start HS.out _
  go_enter Tryz.func69, Tryz.ntmps69
  have r00 : (W.alloc (.cells #[.int .i64 41, .string xn, .int .i64 xv, .slice (some ⟨g0, o0, none⟩) 1 xc, .int .i64 xf, .int .i64 xe] 53)).cell? ⟨g0, o0, none⟩ = some (.int .i64 q0) := (HX.out _ HB0.out.st.bl)
  have HK0 : Hid (∀ T w', Bs w0 b nd T W #[.int .i64 41, .string xn, .int .i64 xv, .slice (some ⟨g0, o0, none⟩) 1 xc, .int .i64 xf, .int .i64 xe] w' → w'.cell? ⟨W.heap.size, 1, none⟩ = some (.string xn) ∧ w'.cell? ⟨W.heap.size, 3, none⟩ = some (.slice (some ⟨g0, o0, none⟩) 1 xc) ∧ w'.cell? ⟨g0, o0, none⟩ = some (.int .i64 q0)) := fun T w' h => ⟨(box6 h.bx).2.1, (box6 h.bx).2.2.2.1, HX.out _ h.st.bl⟩
  go_wp2
  go_region_held3 (fun w' => w'.cell? ⟨W.heap.size, 1, none⟩ = some (.string xn) ∧ w'.cell? ⟨W.heap.size, 3, none⟩ = some (.slice (some ⟨g0, o0, none⟩) 1 xc) ∧ w'.cell? ⟨g0, o0, none⟩ = some (.int .i64 q0)) (first | exact HK0.out _ _ HB0.out | exact HK0.out _ _ (HB0.out.later ⟨rfl, rfl, rfl, Nat.le_refl _, fun _ _ => rfl⟩) | exact HK0.out _ _ ((HB0.out.later ((Below.refl _ _).alloc (Nat.le_refl _) _)).later ⟨rfl, rfl, rfl, Nat.le_refl _, fun _ _ => rfl⟩) | exact HK0.out _ _ HB1.out) (first | (go_at_call 26; refine (HC1.out _ _ (by first | rfl | simp) HB0.out.st).mono ?_; rintro e w1 ⟨rfl, hE⟩; have HB1 : Hid (Bs w0 b nd T1 W #[.int .i64 41, .string xn, .int .i64 xv, .slice (some ⟨g0, o0, none⟩) 1 xc, .int .i64 xf, .int .i64 xe] w1) := HB0.out.put hE; clear hE; obtain ⟨d10, d11, d12, d13, d14, d15⟩ := box6 HB1.out.bx; have r10 := HX.out w1 HB1.out.st.bl))
  have HE : Hid (PoS w0 b nd T1 W w1) := HB1.out.pos
  clear HB1 d10 d11 d12 d13 d14 d15 r10
  go_wp2
  go_end0
  exact ⟨rfl, HE.out⟩
set_option maxRecDepth 100000 in
set_option maxHeartbeats 4000000 in
theorem pr_42 (w0 : World) (b : Nat) (nd : Value) (l : List Nd) (nt : Nat → Tks) (K : Nat) (hP : Puts w0 b nd l nt K 3) (x : Nd) (hk : x.k = 42) (hn : NdK w0 K x) : PrF w0 b nd l nt 69 x (prtK l x 42) := by
  intro t W hS hlen
  have har : arB 42 x.ks.length = true := by have := hn.ar; rw [hk] at this; exact this
  have hl : x.ks.length = 1 := by simpa [arB] using har
  obtain ⟨T, hT⟩ : ∃ T, run t (psT nt l (prtK l x 42)) = T := ⟨_, rfl⟩
  rw [hT] at hlen ⊢
  have HC : Hid (∀ W g, g = W.heap.size → St w0 b nd t W → Calls Tryz.prog 26 #[.pointer (some ⟨b, 0, none⟩), .slice (some ⟨g, 0, none⟩) 2 2] (W.alloc (.cells #[.iface 9 (.string ⟨#[42]⟩), .iface 90 (.int .i64 (kidN x 0 : Nat))] 20)) fun e w' => e = .returned (.tuple #[]) ∧ PoS w0 b nd T W w') := put_hc hP [.s ⟨#[42]⟩, .op (kidN x 0)] (by simp) (all_2 (⟨by simp [Pt.rk], trivial⟩) (⟨by simp [Pt.rk], hn.kid 0 (by omega)⟩)) 2 rfl _ rfl t T hT hlen
  have HS : Hid (St w0 b nd t W) := hS
  obtain ⟨g0, o0, hka, hcell⟩ := hn.addr (by omega)
  have r0 : ∀ o, (W.alloc o).cell? ⟨g0, o0, none⟩ = some (.int .i64 (kidN x 0 : Nat)) := fun o => hcell _ (hS.alloc o).bl 0 (by omega)
  have hc1 := hn.ks.1
  have hc2 := hn.ks.2.1
  rw [hl] at hc1
  unfold nda
  rw [hk, hl, hka]
  clear hP hlen hS hn har hT hk hcell hka hl
  generalize kidN x 0 = q0 at *
  generalize x.nm = xn at *
  generalize x.v = xv at *
  generalize x.kc = xc at *
  generalize x.ka = xa at *
  generalize x.fr = xf at *
  generalize x.en = xe at *
  clear x
  go_enter Tryz.func69, Tryz.ntmps69
  go_wp2_with fail
  refine (HC.out (W.alloc _) _ (by simp) (HS.out.alloc _)).mono ?_
  rintro e w' ⟨rfl, hE⟩
  have HE : Hid (PoS w0 b nd T W w') := hE.of_alloc
  clear hE
  go_wp2
  go_end0
  exact ⟨rfl, HE.out⟩
set_option maxRecDepth 100000 in
set_option maxHeartbeats 4000000 in
theorem pr_44 (w0 : World) (b : Nat) (nd : Value) (l : List Nd) (nt : Nat → Tks) (K : Nat) (hP : Puts w0 b nd l nt K 3) (x : Nd) (hk : x.k = 44) (hn : NdK w0 K x) : PrF w0 b nd l nt 69 x (prtK l x 44) := by
  intro t W hS hlen
  have har : arB 44 x.ks.length = true := by have := hn.ar; rw [hk] at this; exact this
  have hl : x.ks.length = 1 := by simpa [arB] using har
  obtain ⟨T, hT⟩ : ∃ T, run t (psT nt l (prtK l x 44)) = T := ⟨_, rfl⟩
  rw [hT] at hlen ⊢
  have HC : Hid (∀ W g, g = W.heap.size → St w0 b nd t W → Calls Tryz.prog 26 #[.pointer (some ⟨b, 0, none⟩), .slice (some ⟨g, 0, none⟩) 6 6] (W.alloc (.cells #[.iface 9 (.string ⟨#[66, 111, 120]⟩), .iface 9 (.string ⟨#[58, 58]⟩), .iface 9 (.string ⟨#[110, 101, 119]⟩), .iface 9 (.string ⟨#[40]⟩), .iface 3 (.int .i64 (kidN x 0 : Nat)), .iface 9 (.string ⟨#[41]⟩)] 20)) fun e w' => e = .returned (.tuple #[]) ∧ PoS w0 b nd T W w') := put_hc hP [.s ⟨#[66, 111, 120]⟩, .s ⟨#[58, 58]⟩, .s ⟨#[110, 101, 119]⟩, .s ⟨#[40]⟩, .n (kidN x 0), .s ⟨#[41]⟩] (by simp) (all_6 (⟨by simp [Pt.rk], trivial⟩) (⟨by simp [Pt.rk], trivial⟩) (⟨by simp [Pt.rk], trivial⟩) (⟨by simp [Pt.rk], trivial⟩) (⟨by simp [Pt.rk], hn.kid 0 (by omega)⟩) (⟨by simp [Pt.rk], trivial⟩)) 6 rfl _ rfl t T hT hlen
  have HS : Hid (St w0 b nd t W) := hS
  obtain ⟨g0, o0, hka, hcell⟩ := hn.addr (by omega)
  have r0 : ∀ o, (W.alloc o).cell? ⟨g0, o0, none⟩ = some (.int .i64 (kidN x 0 : Nat)) := fun o => hcell _ (hS.alloc o).bl 0 (by omega)
  have hc1 := hn.ks.1
  have hc2 := hn.ks.2.1
  rw [hl] at hc1
  unfold nda
  rw [hk, hl, hka]
  clear hP hlen hS hn har hT hk hcell hka hl
  generalize kidN x 0 = q0 at *
  generalize x.nm = xn at *
  generalize x.v = xv at *
  generalize x.kc = xc at *
  generalize x.ka = xa at *
  generalize x.fr = xf at *
  generalize x.en = xe at *
  clear x
  go_enter Tryz.func69, Tryz.ntmps69
  go_wp2_with fail
  refine (HC.out (W.alloc _) _ (by simp) (HS.out.alloc _)).mono ?_
  rintro e w' ⟨rfl, hE⟩
  have HE : Hid (PoS w0 b nd T W w') := hE.of_alloc
  clear hE
  go_wp2
  go_end0
  exact ⟨rfl, HE.out⟩
end
section
open Go.RowKit Go.Shelf
set_option maxRecDepth 100000 in
set_option maxHeartbeats 4000000 in
theorem pr_22 (w0 : World) (b : Nat) (nd : Value) (l : List Nd) (nt : Nat → Tks) (K : Nat) (hP : Puts w0 b nd l nt K 3) (x : Nd) (hk : x.k = 22) (hn : NdK w0 K x) : PrF w0 b nd l nt 70 x (prtK l x 22) := by
  intro t W hS hlen
  have har : arB 22 x.ks.length = true := by have := hn.ar; rw [hk] at this; exact this
  have hE0 : run t (psT nt l (prtK l x 22)) = run (run (t) (psT nt l [.ea x.ka x.kc x.ks])) (psT nt l [.s ⟨#[59]⟩]) := by
    rw [← run_app]
    simp only [← psT_app]
    rfl
  rw [hE0] at hlen ⊢
  clear hE0
  obtain ⟨T1, hT1⟩ : ∃ T, run t (psT nt l [.ea x.ka x.kc x.ks]) = T := ⟨_, rfl⟩
  rw [hT1] at hlen ⊢
  obtain ⟨T2, hT2⟩ : ∃ T, run T1 (psT nt l [.s ⟨#[59]⟩]) = T := ⟨_, rfl⟩
  rw [hT2] at hlen ⊢
  have hl2 : T2.length ≤ 140737488355328 := hlen
  have hl1 : T1.length ≤ 140737488355328 := Nat.le_trans (run_le _ _) (by rw [hT2]; exact hl2)
  have HC1 : Hid (∀ W g, g = W.heap.size → St w0 b nd t W → Calls Tryz.prog 26 #[.pointer (some ⟨b, 0, none⟩), .slice (some ⟨g, 0, none⟩) 1 1] (W.alloc (.cells #[.iface 87 (.slice x.ka x.ks.length x.kc)] 20)) fun e w' => e = .returned (.tuple #[]) ∧ PoS w0 b nd T1 W w') := put_hc hP [.ea x.ka x.kc x.ks] (by simp) (all_1 (⟨by simp [Pt.rk], hn.ks, hn.hin⟩)) 1 rfl _ rfl t T1 hT1 hl1
  have HC2 : Hid (∀ W g, g = W.heap.size → St w0 b nd T1 W → Calls Tryz.prog 26 #[.pointer (some ⟨b, 0, none⟩), .slice (some ⟨g, 0, none⟩) 1 1] (W.alloc (.cells #[.iface 9 (.string ⟨#[59]⟩)] 20)) fun e w' => e = .returned (.tuple #[]) ∧ PoS w0 b nd T2 W w') := put_hc hP [.s ⟨#[59]⟩] (by simp) (all_1 (⟨by simp [Pt.rk], trivial⟩)) 1 rfl _ rfl T1 T2 hT2 hl2
  have HS : Hid (St w0 b nd t W) := hS
  have hc1 := hn.ks.1
  have hc2 := hn.ks.2.1
  unfold nda
  rw [hk]
  clear hP hlen hS hn har hk hT1 hl1 hT2 hl2
  generalize x.ks.length = xl at *
  generalize x.nm = xn at *
  generalize x.v = xv at *
  generalize x.kc = xc at *
  generalize x.ka = xa at *
  generalize x.fr = xf at *
  generalize x.en = xe at *
  clear x
  have HB0 : Hid (Bs w0 b nd t W #[.int .i64 22, .string xn, .int .i64 xv, .slice xa xl xc, .int .i64 xf, .int .i64 xe] (W.alloc (.cells #[.int .i64 22, .string xn, .int .i64 xv, .slice xa xl xc, .int .i64 xf, .int .i64 xe] 53))) := Bs.start HS.out _
  go_enter Tryz.func70, Tryz.ntmps70
  go_wp2_with fail
  refine (HC1.out _ _ (by first | rfl | simp) HB0.out.st).mono ?_
  rintro e w1 ⟨rfl, hE⟩
  have HB1 : Hid (Bs w0 b nd T1 W #[.int .i64 22, .string xn, .int .i64 xv, .slice xa xl xc, .int .i64 xf, .int .i64 xe] w1) := HB0.out.put hE
  clear hE
  obtain ⟨d10, d11, d12, d13, d14, d15⟩ := box6 HB1.out.bx
  go_wp2_with fail
  refine (HC2.out _ _ (by first | rfl | simp) HB1.out.st).mono ?_
  rintro e w2 ⟨rfl, hE⟩
  have HB2 : Hid (Bs w0 b nd T2 W #[.int .i64 22, .string xn, .int .i64 xv, .slice xa xl xc, .int .i64 xf, .int .i64 xe] w2) := HB1.out.put hE
  clear hE
  have HE : Hid (PoS w0 b nd T2 W w2) := HB2.out.pos
  clear HB2
  go_wp2
  go_end0
  exact ⟨rfl, HE.out⟩
set_option maxRecDepth 100000 in
set_option maxHeartbeats 4000000 in
theorem pr_25 (w0 : World) (b : Nat) (nd : Value) (l : List Nd) (nt : Nat → Tks) (K : Nat) (hP : Puts w0 b nd l nt K 3) (x : Nd) (hk : x.k = 25) (hn : NdK w0 K x) : PrF w0 b nd l nt 70 x (prtK l x 25) := by
  intro t W hS hlen
  have har : arB 25 x.ks.length = true := by have := hn.ar; rw [hk] at this; exact this
  have hE0 : run t (psT nt l (prtK l x 25)) = run (run (run (t) (psT nt l [.s ⟨#[114, 101, 116, 117, 114, 110]⟩])) (psT nt l [.ea x.ka x.kc x.ks])) (psT nt l [.s ⟨#[59]⟩]) := by
    rw [← run_app, ← run_app]
    simp only [← psT_app]
    rfl
  rw [hE0] at hlen ⊢
  clear hE0
  obtain ⟨T1, hT1⟩ : ∃ T, run t (psT nt l [.s ⟨#[114, 101, 116, 117, 114, 110]⟩]) = T := ⟨_, rfl⟩
  rw [hT1] at hlen ⊢
  obtain ⟨T2, hT2⟩ : ∃ T, run T1 (psT nt l [.ea x.ka x.kc x.ks]) = T := ⟨_, rfl⟩
  rw [hT2] at hlen ⊢
  obtain ⟨T3, hT3⟩ : ∃ T, run T2 (psT nt l [.s ⟨#[59]⟩]) = T := ⟨_, rfl⟩
  rw [hT3] at hlen ⊢
  have hl3 : T3.length ≤ 140737488355328 := hlen
  have hl2 : T2.length ≤ 140737488355328 := Nat.le_trans (run_le _ _) (by rw [hT3]; exact hl3)
  have hl1 : T1.length ≤ 140737488355328 := Nat.le_trans (run_le _ _) (by rw [hT2]; exact hl2)
  have HC1 : Hid (∀ W g, g = W.heap.size → St w0 b nd t W → Calls Tryz.prog 26 #[.pointer (some ⟨b, 0, none⟩), .slice (some ⟨g, 0, none⟩) 1 1] (W.alloc (.cells #[.iface 9 (.string ⟨#[114, 101, 116, 117, 114, 110]⟩)] 20)) fun e w' => e = .returned (.tuple #[]) ∧ PoS w0 b nd T1 W w') := put_hc hP [.s ⟨#[114, 101, 116, 117, 114, 110]⟩] (by simp) (all_1 (⟨by simp [Pt.rk], trivial⟩)) 1 rfl _ rfl t T1 hT1 hl1
  have HC2 : Hid (∀ W g, g = W.heap.size → St w0 b nd T1 W → Calls Tryz.prog 26 #[.pointer (some ⟨b, 0, none⟩), .slice (some ⟨g, 0, none⟩) 1 1] (W.alloc (.cells #[.iface 87 (.slice x.ka x.ks.length x.kc)] 20)) fun e w' => e = .returned (.tuple #[]) ∧ PoS w0 b nd T2 W w') := put_hc hP [.ea x.ka x.kc x.ks] (by simp) (all_1 (⟨by simp [Pt.rk], hn.ks, hn.hin⟩)) 1 rfl _ rfl T1 T2 hT2 hl2
  have HC3 : Hid (∀ W g, g = W.heap.size → St w0 b nd T2 W → Calls Tryz.prog 26 #[.pointer (some ⟨b, 0, none⟩), .slice (some ⟨g, 0, none⟩) 1 1] (W.alloc (.cells #[.iface 9 (.string ⟨#[59]⟩)] 20)) fun e w' => e = .returned (.tuple #[]) ∧ PoS w0 b nd T3 W w') := put_hc hP [.s ⟨#[59]⟩] (by simp) (all_1 (⟨by simp [Pt.rk], trivial⟩)) 1 rfl _ rfl T2 T3 hT3 hl3
  have HS : Hid (St w0 b nd t W) := hS
  have hc1 := hn.ks.1
  have hc2 := hn.ks.2.1
  unfold nda
  rw [hk]
  clear hP hlen hS hn har hk hT1 hl1 hT2 hl2 hT3 hl3
  generalize x.ks.length = xl at *
  generalize x.nm = xn at *
  generalize x.v = xv at *
  generalize x.kc = xc at *
  generalize x.ka = xa at *
  generalize x.fr = xf at *
  generalize x.en = xe at *
  clear x
  have HB0 : Hid (Bs w0 b nd t W #[.int .i64 25, .string xn, .int .i64 xv, .slice xa xl xc, .int .i64 xf, .int .i64 xe] (W.alloc (.cells #[.int .i64 25, .string xn, .int .i64 xv, .slice xa xl xc, .int .i64 xf, .int .i64 xe] 53))) := Bs.start HS.out _
  go_enter Tryz.func70, Tryz.ntmps70
  go_wp2_with fail
  refine (HC1.out _ _ (by first | rfl | simp) HB0.out.st).mono ?_
  rintro e w1 ⟨rfl, hE⟩
  have HB1 : Hid (Bs w0 b nd T1 W #[.int .i64 25, .string xn, .int .i64 xv, .slice xa xl xc, .int .i64 xf, .int .i64 xe] w1) := HB0.out.put hE
  clear hE
  obtain ⟨d10, d11, d12, d13, d14, d15⟩ := box6 HB1.out.bx
  go_wp2_with fail
  refine (HC2.out _ _ (by first | rfl | simp) HB1.out.st).mono ?_
  rintro e w2 ⟨rfl, hE⟩
  have HB2 : Hid (Bs w0 b nd T2 W #[.int .i64 25, .string xn, .int .i64 xv, .slice xa xl xc, .int .i64 xf, .int .i64 xe] w2) := HB1.out.put hE
  clear hE
  obtain ⟨d20, d21, d22, d23, d24, d25⟩ := box6 HB2.out.bx
  go_wp2_with fail
  refine (HC3.out _ _ (by first | rfl | simp) HB2.out.st).mono ?_
  rintro e w3 ⟨rfl, hE⟩
  have HB3 : Hid (Bs w0 b nd T3 W #[.int .i64 25, .string xn, .int .i64 xv, .slice xa xl xc, .int .i64 xf, .int .i64 xe] w3) := HB2.out.put hE
  clear hE
  have HE : Hid (PoS w0 b nd T3 W w3) := HB3.out.pos
  clear HB3
  go_wp2
  go_end0
  exact ⟨rfl, HE.out⟩
set_option maxRecDepth 100000 in
set_option maxHeartbeats 4000000 in
theorem pr_26 (w0 : World) (b : Nat) (nd : Value) (l : List Nd) (nt : Nat → Tks) (K : Nat) (hP : Puts w0 b nd l nt K 3) (x : Nd) (hk : x.k = 26) (hn : NdK w0 K x) : PrF w0 b nd l nt 70 x (prtK l x 26) := by
  intro t W hS hlen
  have har : arB 26 x.ks.length = true := by have := hn.ar; rw [hk] at this; exact this
  have hl : x.ks.length = 0 := by simpa [arB] using har
  have hE0 : run t (psT nt l (prtK l x 26)) = run (run (t) (psT nt l [.s ⟨#[98, 114, 101, 97, 107]⟩])) (psT nt l [.s ⟨#[59]⟩]) := by
    rw [← run_app]
    simp only [← psT_app]
    rfl
  rw [hE0] at hlen ⊢
  clear hE0
  obtain ⟨T1, hT1⟩ : ∃ T, run t (psT nt l [.s ⟨#[98, 114, 101, 97, 107]⟩]) = T := ⟨_, rfl⟩
  rw [hT1] at hlen ⊢
  obtain ⟨T2, hT2⟩ : ∃ T, run T1 (psT nt l [.s ⟨#[59]⟩]) = T := ⟨_, rfl⟩
  rw [hT2] at hlen ⊢
  have hl2 : T2.length ≤ 140737488355328 := hlen
  have hl1 : T1.length ≤ 140737488355328 := Nat.le_trans (run_le _ _) (by rw [hT2]; exact hl2)
  have HC1 : Hid (∀ W g, g = W.heap.size → St w0 b nd t W → Calls Tryz.prog 26 #[.pointer (some ⟨b, 0, none⟩), .slice (some ⟨g, 0, none⟩) 1 1] (W.alloc (.cells #[.iface 9 (.string ⟨#[98, 114, 101, 97, 107]⟩)] 20)) fun e w' => e = .returned (.tuple #[]) ∧ PoS w0 b nd T1 W w') := put_hc hP [.s ⟨#[98, 114, 101, 97, 107]⟩] (by simp) (all_1 (⟨by simp [Pt.rk], trivial⟩)) 1 rfl _ rfl t T1 hT1 hl1
  have HC2 : Hid (∀ W g, g = W.heap.size → St w0 b nd T1 W → Calls Tryz.prog 26 #[.pointer (some ⟨b, 0, none⟩), .slice (some ⟨g, 0, none⟩) 1 1] (W.alloc (.cells #[.iface 9 (.string ⟨#[59]⟩)] 20)) fun e w' => e = .returned (.tuple #[]) ∧ PoS w0 b nd T2 W w') := put_hc hP [.s ⟨#[59]⟩] (by simp) (all_1 (⟨by simp [Pt.rk], trivial⟩)) 1 rfl _ rfl T1 T2 hT2 hl2
  have HS : Hid (St w0 b nd t W) := hS
  have hc1 := hn.ks.1
  have hc2 := hn.ks.2.1
  rw [hl] at hc1
  unfold nda
  rw [hk, hl]
  clear hP hlen hS hn har hk hT1 hl1 hT2 hl2 hl
  generalize x.nm = xn at *
  generalize x.v = xv at *
  generalize x.kc = xc at *
  generalize x.ka = xa at *
  generalize x.fr = xf at *
  generalize x.en = xe at *
  clear x
  have HB0 : Hid (Bs w0 b nd t W #[.int .i64 26, .string xn, .int .i64 xv, .slice xa 0 xc, .int .i64 xf, .int .i64 xe] (W.alloc (.cells #[.int .i64 26, .string xn, .int .i64 xv, .slice xa 0 xc, .int .i64 xf, .int .i64 xe] 53))) := Bs.start HS.out _
  go_enter Tryz.func70, Tryz.ntmps70
  go_wp2_with fail
  refine (HC1.out _ _ (by first | rfl | simp) HB0.out.st).mono ?_
  rintro e w1 ⟨rfl, hE⟩
  have HB1 : Hid (Bs w0 b nd T1 W #[.int .i64 26, .string xn, .int .i64 xv, .slice xa 0 xc, .int .i64 xf, .int .i64 xe] w1) := HB0.out.put hE
  clear hE
  obtain ⟨d10, d11, d12, d13, d14, d15⟩ := box6 HB1.out.bx
  go_wp2_with fail
  refine (HC2.out _ _ (by first | rfl | simp) HB1.out.st).mono ?_
  rintro e w2 ⟨rfl, hE⟩
  have HB2 : Hid (Bs w0 b nd T2 W #[.int .i64 26, .string xn, .int .i64 xv, .slice xa 0 xc, .int .i64 xf, .int .i64 xe] w2) := HB1.out.put hE
  clear hE
  have HE : Hid (PoS w0 b nd T2 W w2) := HB2.out.pos
  clear HB2
  go_wp2
  go_end0
  exact ⟨rfl, HE.out⟩
set_option maxRecDepth 100000 in
set_option maxHeartbeats 4000000 in
theorem pr_27 (w0 : World) (b : Nat) (nd : Value) (l : List Nd) (nt : Nat → Tks) (K : Nat) (hP : Puts w0 b nd l nt K 3) (x : Nd) (hk : x.k = 27) (hn : NdK w0 K x) : PrF w0 b nd l nt 70 x (prtK l x 27) := by
  intro t W hS hlen
  have har : arB 27 x.ks.length = true := by have := hn.ar; rw [hk] at this; exact this
  have hl : x.ks.length = 0 := by simpa [arB] using har
  have hE0 : run t (psT nt l (prtK l x 27)) = run (run (t) (psT nt l [.s ⟨#[99, 111, 110, 116, 105, 110, 117, 101]⟩])) (psT nt l [.s ⟨#[59]⟩]) := by
    rw [← run_app]
    simp only [← psT_app]
    rfl
  rw [hE0] at hlen ⊢
  clear hE0
  obtain ⟨T1, hT1⟩ : ∃ T, run t (psT nt l [.s ⟨#[99, 111, 110, 116, 105, 110, 117, 101]⟩]) = T := ⟨_, rfl⟩
  rw [hT1] at hlen ⊢
  obtain ⟨T2, hT2⟩ : ∃ T, run T1 (psT nt l [.s ⟨#[59]⟩]) = T := ⟨_, rfl⟩
  rw [hT2] at hlen ⊢
  have hl2 : T2.length ≤ 140737488355328 := hlen
  have hl1 : T1.length ≤ 140737488355328 := Nat.le_trans (run_le _ _) (by rw [hT2]; exact hl2)
  have HC1 : Hid (∀ W g, g = W.heap.size → St w0 b nd t W → Calls Tryz.prog 26 #[.pointer (some ⟨b, 0, none⟩), .slice (some ⟨g, 0, none⟩) 1 1] (W.alloc (.cells #[.iface 9 (.string ⟨#[99, 111, 110, 116, 105, 110, 117, 101]⟩)] 20)) fun e w' => e = .returned (.tuple #[]) ∧ PoS w0 b nd T1 W w') := put_hc hP [.s ⟨#[99, 111, 110, 116, 105, 110, 117, 101]⟩] (by simp) (all_1 (⟨by simp [Pt.rk], trivial⟩)) 1 rfl _ rfl t T1 hT1 hl1
  have HC2 : Hid (∀ W g, g = W.heap.size → St w0 b nd T1 W → Calls Tryz.prog 26 #[.pointer (some ⟨b, 0, none⟩), .slice (some ⟨g, 0, none⟩) 1 1] (W.alloc (.cells #[.iface 9 (.string ⟨#[59]⟩)] 20)) fun e w' => e = .returned (.tuple #[]) ∧ PoS w0 b nd T2 W w') := put_hc hP [.s ⟨#[59]⟩] (by simp) (all_1 (⟨by simp [Pt.rk], trivial⟩)) 1 rfl _ rfl T1 T2 hT2 hl2
  have HS : Hid (St w0 b nd t W) := hS
  have hc1 := hn.ks.1
  have hc2 := hn.ks.2.1
  rw [hl] at hc1
  unfold nda
  rw [hk, hl]
  clear hP hlen hS hn har hk hT1 hl1 hT2 hl2 hl
  generalize x.nm = xn at *
  generalize x.v = xv at *
  generalize x.kc = xc at *
  generalize x.ka = xa at *
  generalize x.fr = xf at *
  generalize x.en = xe at *
  clear x
  have HB0 : Hid (Bs w0 b nd t W #[.int .i64 27, .string xn, .int .i64 xv, .slice xa 0 xc, .int .i64 xf, .int .i64 xe] (W.alloc (.cells #[.int .i64 27, .string xn, .int .i64 xv, .slice xa 0 xc, .int .i64 xf, .int .i64 xe] 53))) := Bs.start HS.out _
  go_enter Tryz.func70, Tryz.ntmps70
  go_wp2_with fail
  refine (HC1.out _ _ (by first | rfl | simp) HB0.out.st).mono ?_
  rintro e w1 ⟨rfl, hE⟩
  have HB1 : Hid (Bs w0 b nd T1 W #[.int .i64 27, .string xn, .int .i64 xv, .slice xa 0 xc, .int .i64 xf, .int .i64 xe] w1) := HB0.out.put hE
  clear hE
  obtain ⟨d10, d11, d12, d13, d14, d15⟩ := box6 HB1.out.bx
  go_wp2_with fail
  refine (HC2.out _ _ (by first | rfl | simp) HB1.out.st).mono ?_
  rintro e w2 ⟨rfl, hE⟩
  have HB2 : Hid (Bs w0 b nd T2 W #[.int .i64 27, .string xn, .int .i64 xv, .slice xa 0 xc, .int .i64 xf, .int .i64 xe] w2) := HB1.out.put hE
  clear hE
  have HE : Hid (PoS w0 b nd T2 W w2) := HB2.out.pos
  clear HB2
  go_wp2
  go_end0
  exact ⟨rfl, HE.out⟩
set_option maxRecDepth 100000 in
set_option maxHeartbeats 4000000 in
theorem pr_23 (w0 : World) (b : Nat) (nd : Value) (l : List Nd) (nt : Nat → Tks) (K : Nat) (hP : Puts w0 b nd l nt K 3) (x : Nd) (hk : x.k = 23) (hn : NdK w0 K x) : PrF w0 b nd l nt 70 x (prtK l x 23) := by
  intro t W hS hlen
  have har : arB 23 x.ks.length = true := by have := hn.ar; rw [hk] at this; exact this
  have hl : x.ks.length = 2 := by simpa [arB] using har
  have hE0 : run t (psT nt l (prtK l x 23)) = run (run (t) (psT nt l [.op (kidN x 0), .s ⟨#[61]⟩, .op (kidN x 1)])) (psT nt l [.s ⟨#[59]⟩]) := by
    rw [← run_app]
    simp only [← psT_app]
    rfl
  rw [hE0] at hlen ⊢
  clear hE0
  obtain ⟨T1, hT1⟩ : ∃ T, run t (psT nt l [.op (kidN x 0), .s ⟨#[61]⟩, .op (kidN x 1)]) = T := ⟨_, rfl⟩
  rw [hT1] at hlen ⊢
  obtain ⟨T2, hT2⟩ : ∃ T, run T1 (psT nt l [.s ⟨#[59]⟩]) = T := ⟨_, rfl⟩
  rw [hT2] at hlen ⊢
  have hl2 : T2.length ≤ 140737488355328 := hlen
  have hl1 : T1.length ≤ 140737488355328 := Nat.le_trans (run_le _ _) (by rw [hT2]; exact hl2)
  have HC1 : Hid (∀ W g, g = W.heap.size → St w0 b nd t W → Calls Tryz.prog 26 #[.pointer (some ⟨b, 0, none⟩), .slice (some ⟨g, 0, none⟩) 3 3] (W.alloc (.cells #[.iface 90 (.int .i64 (kidN x 0 : Nat)), .iface 9 (.string ⟨#[61]⟩), .iface 90 (.int .i64 (kidN x 1 : Nat))] 20)).drew fun e w' => e = .returned (.tuple #[]) ∧ PoS w0 b nd T1 W w') := put_hd hP [.op (kidN x 0), .s ⟨#[61]⟩, .op (kidN x 1)] (by simp) (all_3 (⟨by simp [Pt.rk], hn.kid 0 (by omega)⟩) (⟨by simp [Pt.rk], trivial⟩) (⟨by simp [Pt.rk], hn.kid 1 (by omega)⟩)) 3 rfl _ rfl t T1 hT1 hl1
  have HC2 : Hid (∀ W g, g = W.heap.size → St w0 b nd T1 W → Calls Tryz.prog 26 #[.pointer (some ⟨b, 0, none⟩), .slice (some ⟨g, 0, none⟩) 1 1] (W.alloc (.cells #[.iface 9 (.string ⟨#[59]⟩)] 20)) fun e w' => e = .returned (.tuple #[]) ∧ PoS w0 b nd T2 W w') := put_hc hP [.s ⟨#[59]⟩] (by simp) (all_1 (⟨by simp [Pt.rk], trivial⟩)) 1 rfl _ rfl T1 T2 hT2 hl2
  have HS : Hid (St w0 b nd t W) := hS
  obtain ⟨g0, o0, hka, hcell⟩ := hn.addr (by omega)
  have HX : Hid (∀ W, Below w0.heap.size w0 W → W.cell? ⟨g0, o0, none⟩ = some (.int .i64 (kidN x 0 : Nat)) ∧ W.cell? ⟨g0, o0 + 1, none⟩ = some (.int .i64 (kidN x 1 : Nat))) := fun W hW => ⟨hcell W hW 0 (by omega), hcell W hW 1 (by omega)⟩
  have hc1 := hn.ks.1
  have hc2 := hn.ks.2.1
  rw [hl] at hc1
  unfold nda
  rw [hk, hl, hka]
  clear hP hlen hS hn har hk hT1 hl1 hT2 hl2 hcell hka hl
  generalize kidN x 0 = q0 at *
  generalize kidN x 1 = q1 at *
  generalize x.nm = xn at *
  generalize x.v = xv at *
  generalize x.kc = xc at *
  generalize x.ka = xa at *
  generalize x.fr = xf at *
  generalize x.en = xe at *
  clear x
  have HB0 : Hid (Bs w0 b nd t W #[.int .i64 23, .string xn, .int .i64 xv, .slice (some ⟨g0, o0, none⟩) 2 xc, .int .i64 xf, .int .i64 xe] (W.alloc (.cells #[.int .i64 23, .string xn, .int .i64 xv, .slice (some ⟨g0, o0, none⟩) 2 xc, .int .i64 xf, .int .i64 xe] 53))) := Bs.start HS.out _
  go_enter Tryz.func70, Tryz.ntmps70
  have r00 : (W.alloc (.cells #[.int .i64 23, .string xn, .int .i64 xv, .slice (some ⟨g0, o0, none⟩) 2 xc, .int .i64 xf, .int .i64 xe] 53)).cell? ⟨g0, o0, none⟩ = some (.int .i64 q0) := (HX.out _ HB0.out.st.bl).1
  have r01 : (W.alloc (.cells #[.int .i64 23, .string xn, .int .i64 xv, .slice (some ⟨g0, o0, none⟩) 2 xc, .int .i64 xf, .int .i64 xe] 53)).cell? ⟨g0, o0 + 1, none⟩ = some (.int .i64 q1) := (HX.out _ HB0.out.st.bl).2
  have HK0 : Hid (∀ T w', Bs w0 b nd T W #[.int .i64 23, .string xn, .int .i64 xv, .slice (some ⟨g0, o0, none⟩) 2 xc, .int .i64 xf, .int .i64 xe] w' → w'.cell? ⟨W.heap.size, 3, none⟩ = some (.slice (some ⟨g0, o0, none⟩) 2 xc) ∧ w'.cell? ⟨g0, o0, none⟩ = some (.int .i64 q0) ∧ w'.cell? ⟨g0, o0 + 1, none⟩ = some (.int .i64 q1)) := fun T w' h => ⟨(box6 h.bx).2.2.2.1, (HX.out _ h.st.bl).1, (HX.out _ h.st.bl).2⟩
  go_wp2
  go_region_held3 (fun w' => w'.cell? ⟨W.heap.size, 3, none⟩ = some (.slice (some ⟨g0, o0, none⟩) 2 xc) ∧ w'.cell? ⟨g0, o0, none⟩ = some (.int .i64 q0) ∧ w'.cell? ⟨g0, o0 + 1, none⟩ = some (.int .i64 q1)) (first | exact HK0.out _ _ HB0.out | exact HK0.out _ _ (HB0.out.later ⟨rfl, rfl, rfl, Nat.le_refl _, fun _ _ => rfl⟩) | exact HK0.out _ _ ((HB0.out.later ((Below.refl _ _).alloc (Nat.le_refl _) _)).later ⟨rfl, rfl, rfl, Nat.le_refl _, fun _ _ => rfl⟩) | exact HK0.out _ _ HB1.out) (first | (go_at_call 26; refine (HC1.out _ _ (by first | rfl | simp) HB0.out.st).mono ?_; rintro e w1 ⟨rfl, hE⟩; have HB1 : Hid (Bs w0 b nd T1 W #[.int .i64 23, .string xn, .int .i64 xv, .slice (some ⟨g0, o0, none⟩) 2 xc, .int .i64 xf, .int .i64 xe] w1) := HB0.out.put hE; clear hE; obtain ⟨d10, d11, d12, d13, d14, d15⟩ := box6 HB1.out.bx; obtain ⟨r10, r11⟩ := HX.out w1 HB1.out.st.bl))
  go_wp2_with fail
  refine (HC2.out _ _ (by first | rfl | simp) HB1.out.st).mono ?_
  rintro e w2 ⟨rfl, hE⟩
  have HB2 : Hid (Bs w0 b nd T2 W #[.int .i64 23, .string xn, .int .i64 xv, .slice (some ⟨g0, o0, none⟩) 2 xc, .int .i64 xf, .int .i64 xe] w2) := HB1.out.put hE
  clear hE
  have HE : Hid (PoS w0 b nd T2 W w2) := HB2.out.pos
  clear HB2
  go_wp2
  go_end0
  exact ⟨rfl, HE.out⟩
set_option maxRecDepth 100000 in
set_option maxHeartbeats 4000000 in
theorem pr_24 (w0 : World) (b : Nat) (nd : Value) (l : List Nd) (nt : Nat → Tks) (K : Nat) (hP : Puts w0 b nd l nt K 3) (x : Nd) (hk : x.k = 24) (hn : NdK w0 K x) : PrF w0 b nd l nt 70 x (prtK l x 24) := by
  intro t W hS hlen
  have har : arB 24 x.ks.length = true := by have := hn.ar; rw [hk] at this; exact this
  have hl : x.ks.length = 2 := by simpa [arB] using har
  have hE0 : run t (psT nt l (prtK l x 24)) = run (t) (psT nt l [.s ⟨#[119, 104, 105, 108, 101]⟩, .op (kidN x 0), .n (kidN x 1)]) := by
    rfl
  rw [hE0] at hlen ⊢
  clear hE0
  obtain ⟨T1, hT1⟩ : ∃ T, run t (psT nt l [.s ⟨#[119, 104, 105, 108, 101]⟩, .op (kidN x 0), .n (kidN x 1)]) = T := ⟨_, rfl⟩
  rw [hT1] at hlen ⊢
  have hl1 : T1.length ≤ 140737488355328 := hlen
  have HC1 : Hid (∀ W g, g = W.heap.size → St w0 b nd t W → Calls Tryz.prog 26 #[.pointer (some ⟨b, 0, none⟩), .slice (some ⟨g, 0, none⟩) 3 3] (W.alloc (.cells #[.iface 9 (.string ⟨#[119, 104, 105, 108, 101]⟩), .iface 90 (.int .i64 (kidN x 0 : Nat)), .iface 3 (.int .i64 (kidN x 1 : Nat))] 20)).drew fun e w' => e = .returned (.tuple #[]) ∧ PoS w0 b nd T1 W w') := put_hd hP [.s ⟨#[119, 104, 105, 108, 101]⟩, .op (kidN x 0), .n (kidN x 1)] (by simp) (all_3 (⟨by simp [Pt.rk], trivial⟩) (⟨by simp [Pt.rk], hn.kid 0 (by omega)⟩) (⟨by simp [Pt.rk], hn.kid 1 (by omega)⟩)) 3 rfl _ rfl t T1 hT1 hl1
  have HS : Hid (St w0 b nd t W) := hS
  obtain ⟨g0, o0, hka, hcell⟩ := hn.addr (by omega)
  have HX : Hid (∀ W, Below w0.heap.size w0 W → W.cell? ⟨g0, o0, none⟩ = some (.int .i64 (kidN x 0 : Nat)) ∧ W.cell? ⟨g0, o0 + 1, none⟩ = some (.int .i64 (kidN x 1 : Nat))) := fun W hW => ⟨hcell W hW 0 (by omega), hcell W hW 1 (by omega)⟩
  have hc1 := hn.ks.1
  have hc2 := hn.ks.2.1
  rw [hl] at hc1
  unfold nda
  rw [hk, hl, hka]
  clear hP hlen hS hn har hk hT1 hl1 hcell hka hl
  generalize kidN x 0 = q0 at *
  generalize kidN x 1 = q1 at *
  generalize x.nm = xn at *
  generalize x.v = xv at *
  generalize x.kc = xc at *
  generalize x.ka = xa at *
  generalize x.fr = xf at *
  generalize x.en = xe at *
  clear x
  have HB0 : Hid (Bs w0 b nd t W #[.int .i64 24, .string xn, .int .i64 xv, .slice (some ⟨g0, o0, none⟩) 2 xc, .int .i64 xf, .int .i64 xe] (W.alloc (.cells #[.int .i64 24, .string xn, .int .i64 xv, .slice (some ⟨g0, o0, none⟩) 2 xc, .int .i64 xf, .int .i64 xe] 53))) := Bs.start HS.out _
  go_enter Tryz.func70, Tryz.ntmps70
  have r00 : (W.alloc (.cells #[.int .i64 24, .string xn, .int .i64 xv, .slice (some ⟨g0, o0, none⟩) 2 xc, .int .i64 xf, .int .i64 xe] 53)).cell? ⟨g0, o0, none⟩ = some (.int .i64 q0) := (HX.out _ HB0.out.st.bl).1
  have r01 : (W.alloc (.cells #[.int .i64 24, .string xn, .int .i64 xv, .slice (some ⟨g0, o0, none⟩) 2 xc, .int .i64 xf, .int .i64 xe] 53)).cell? ⟨g0, o0 + 1, none⟩ = some (.int .i64 q1) := (HX.out _ HB0.out.st.bl).2
  have HK0 : Hid (∀ T w', Bs w0 b nd T W #[.int .i64 24, .string xn, .int .i64 xv, .slice (some ⟨g0, o0, none⟩) 2 xc, .int .i64 xf, .int .i64 xe] w' → w'.cell? ⟨W.heap.size, 3, none⟩ = some (.slice (some ⟨g0, o0, none⟩) 2 xc) ∧ w'.cell? ⟨g0, o0, none⟩ = some (.int .i64 q0) ∧ w'.cell? ⟨g0, o0 + 1, none⟩ = some (.int .i64 q1)) := fun T w' h => ⟨(box6 h.bx).2.2.2.1, (HX.out _ h.st.bl).1, (HX.out _ h.st.bl).2⟩
  go_wp2
  go_region_held3 (fun w' => w'.cell? ⟨W.heap.size, 3, none⟩ = some (.slice (some ⟨g0, o0, none⟩) 2 xc) ∧ w'.cell? ⟨g0, o0, none⟩ = some (.int .i64 q0) ∧ w'.cell? ⟨g0, o0 + 1, none⟩ = some (.int .i64 q1)) (first | exact HK0.out _ _ HB0.out | exact HK0.out _ _ (HB0.out.later ⟨rfl, rfl, rfl, Nat.le_refl _, fun _ _ => rfl⟩) | exact HK0.out _ _ ((HB0.out.later ((Below.refl _ _).alloc (Nat.le_refl _) _)).later ⟨rfl, rfl, rfl, Nat.le_refl _, fun _ _ => rfl⟩) | exact HK0.out _ _ HB1.out) (first | (go_at_call 26; refine (HC1.out _ _ (by first | rfl | simp) HB0.out.st).mono ?_; rintro e w1 ⟨rfl, hE⟩; have HB1 : Hid (Bs w0 b nd T1 W #[.int .i64 24, .string xn, .int .i64 xv, .slice (some ⟨g0, o0, none⟩) 2 xc, .int .i64 xf, .int .i64 xe] w1) := HB0.out.put hE; clear hE; obtain ⟨d10, d11, d12, d13, d14, d15⟩ := box6 HB1.out.bx; obtain ⟨r10, r11⟩ := HX.out w1 HB1.out.st.bl))
  have HE : Hid (PoS w0 b nd T1 W w1) := HB1.out.pos
  clear HB1 d10 d11 d12 d13 d14 d15 r10 r11
  go_wp2
  refine bodyPost_ret (results_none rfl _ _ _) rfl ?_
  exact ⟨rfl, HE.out⟩
end
end Go.Proofs.YtkkmeogehapjoaaGreatDoor
