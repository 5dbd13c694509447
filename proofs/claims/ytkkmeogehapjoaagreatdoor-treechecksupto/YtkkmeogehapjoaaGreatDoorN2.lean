/- Items put. Numbers and picks put. -/
import Derived.Test.YtkkmeogehapjoaaGreatDoorNY
namespace Go.Proofs.YtkkmeogehapjoaaGreatDoor
section
open Go.RowKit Go.Shelf
set_option maxRecDepth 100000 in
set_option maxHeartbeats 4000000 in
theorem pr_1 (w0 : World) (b : Nat) (nd : Value) (l : List Nd) (nt : Nat → Tks) (K : Nat) (hP : Puts w0 b nd l nt K 3) (x : Nd) (hk : x.k = 1) (hn : NdK w0 K x) : PrF w0 b nd l nt 73 x (prtK l x 1) := by
  intro t W hS hlen
  have har : arB 1 x.ks.length = true := by have := hn.ar; rw [hk] at this; exact this
  obtain ⟨T, hT⟩ : ∃ T, run t (psT nt l (prtK l x 1)) = T := ⟨_, rfl⟩
  rw [hT] at hlen ⊢
  have HC : Hid (∀ W g, g = W.heap.size → St w0 b nd t W → Calls Tryz.prog 26 #[.pointer (some ⟨b, 0, none⟩), .slice (some ⟨g, 0, none⟩) 1 1] (W.alloc (.cells #[.iface 87 (.slice x.ka x.ks.length x.kc)] 20)) fun e w' => e = .returned (.tuple #[]) ∧ PoS w0 b nd T W w') := put_hc hP [.ea x.ka x.kc x.ks] (by simp) (all_1 (⟨by simp [Pt.rk], hn.ks, hn.hin⟩)) 1 rfl _ rfl t T hT hlen
  have HS : Hid (St w0 b nd t W) := hS
  have hc1 := hn.ks.1
  have hc2 := hn.ks.2.1
  unfold nda
  rw [hk]
  clear hP hlen hS hn har hT hk
  generalize x.ks.length = xl at *
  generalize x.nm = xn at *
  generalize x.v = xv at *
  generalize x.kc = xc at *
  generalize x.ka = xa at *
  generalize x.fr = xf at *
  generalize x.en = xe at *
  clear x
  go_enter Tryz.func73, Tryz.ntmps73
  go_wp2_with fail
  refine (HC.out (W.alloc _) _ (by simp) (HS.out.alloc _)).mono ?_
  rintro e w' ⟨rfl, hE⟩
  have HE : Hid (PoS w0 b nd T W w') := hE.of_alloc
  clear hE
  go_wp2
  go_end0
  exact ⟨rfl, HE.out⟩
set_option maxRecDepth 100000 in
set_option maxHeartbeats 4000000 in
theorem pr_3 (w0 : World) (b : Nat) (nd : Value) (l : List Nd) (nt : Nat → Tks) (K : Nat) (hP : Puts w0 b nd l nt K 3) (x : Nd) (hk : x.k = 3) (hn : NdK w0 K x) : PrF w0 b nd l nt 73 x (prtK l x 3) := by
  intro t W hS hlen
  have har : arB 3 x.ks.length = true := by have := hn.ar; rw [hk] at this; exact this
  obtain ⟨T, hT⟩ : ∃ T, run t (psT nt l (prtK l x 3)) = T := ⟨_, rfl⟩
  rw [hT] at hlen ⊢
  have HC : Hid (∀ W g, g = W.heap.size → St w0 b nd t W → Calls Tryz.prog 26 #[.pointer (some ⟨b, 0, none⟩), .slice (some ⟨g, 0, none⟩) 5 5] (W.alloc (.cells #[.iface 9 (.string ⟨#[115, 116, 114, 117, 99, 116]⟩), .iface 9 (.string x.nm), .iface 9 (.string ⟨#[123]⟩), .iface 88 (.slice x.ka x.ks.length x.kc), .iface 9 (.string ⟨#[125]⟩)] 20)) fun e w' => e = .returned (.tuple #[]) ∧ PoS w0 b nd T W w') := put_hc hP [.s ⟨#[115, 116, 114, 117, 99, 116]⟩, .s x.nm, .s ⟨#[123]⟩, .li x.ka x.kc x.ks, .s ⟨#[125]⟩] (by simp) (all_5 (⟨by simp [Pt.rk], trivial⟩) (⟨by simp [Pt.rk], trivial⟩) (⟨by simp [Pt.rk], trivial⟩) (⟨by simp [Pt.rk], hn.ks, hn.hin⟩) (⟨by simp [Pt.rk], trivial⟩)) 5 rfl _ rfl t T hT hlen
  have HS : Hid (St w0 b nd t W) := hS
  have hc1 := hn.ks.1
  have hc2 := hn.ks.2.1
  unfold nda
  rw [hk]
  clear hP hlen hS hn har hT hk
  generalize x.ks.length = xl at *
  generalize x.nm = xn at *
  generalize x.v = xv at *
  generalize x.kc = xc at *
  generalize x.ka = xa at *
  generalize x.fr = xf at *
  generalize x.en = xe at *
  clear x
  go_enter Tryz.func73, Tryz.ntmps73
  go_wp2_with fail
  refine (HC.out (W.alloc _) _ (by simp) (HS.out.alloc _)).mono ?_
  rintro e w' ⟨rfl, hE⟩
  have HE : Hid (PoS w0 b nd T W w') := hE.of_alloc
  clear hE
  go_wp2
  go_end0
  exact ⟨rfl, HE.out⟩
set_option maxRecDepth 100000 in
set_option maxHeartbeats 4000000 in
theorem pr_4 (w0 : World) (b : Nat) (nd : Value) (l : List Nd) (nt : Nat → Tks) (K : Nat) (hP : Puts w0 b nd l nt K 3) (x : Nd) (hk : x.k = 4) (hn : NdK w0 K x) : PrF w0 b nd l nt 73 x (prtK l x 4) := by
  intro t W hS hlen
  have har : arB 4 x.ks.length = true := by have := hn.ar; rw [hk] at this; exact this
  obtain ⟨T, hT⟩ : ∃ T, run t (psT nt l (prtK l x 4)) = T := ⟨_, rfl⟩
  rw [hT] at hlen ⊢
  have HC : Hid (∀ W g, g = W.heap.size → St w0 b nd t W → Calls Tryz.prog 26 #[.pointer (some ⟨b, 0, none⟩), .slice (some ⟨g, 0, none⟩) 5 5] (W.alloc (.cells #[.iface 9 (.string ⟨#[101, 110, 117, 109]⟩), .iface 9 (.string x.nm), .iface 9 (.string ⟨#[123]⟩), .iface 88 (.slice x.ka x.ks.length x.kc), .iface 9 (.string ⟨#[125]⟩)] 20)) fun e w' => e = .returned (.tuple #[]) ∧ PoS w0 b nd T W w') := put_hc hP [.s ⟨#[101, 110, 117, 109]⟩, .s x.nm, .s ⟨#[123]⟩, .li x.ka x.kc x.ks, .s ⟨#[125]⟩] (by simp) (all_5 (⟨by simp [Pt.rk], trivial⟩) (⟨by simp [Pt.rk], trivial⟩) (⟨by simp [Pt.rk], trivial⟩) (⟨by simp [Pt.rk], hn.ks, hn.hin⟩) (⟨by simp [Pt.rk], trivial⟩)) 5 rfl _ rfl t T hT hlen
  have HS : Hid (St w0 b nd t W) := hS
  have hc1 := hn.ks.1
  have hc2 := hn.ks.2.1
  unfold nda
  rw [hk]
  clear hP hlen hS hn har hT hk
  generalize x.ks.length = xl at *
  generalize x.nm = xn at *
  generalize x.v = xv at *
  generalize x.kc = xc at *
  generalize x.ka = xa at *
  generalize x.fr = xf at *
  generalize x.en = xe at *
  clear x
  go_enter Tryz.func73, Tryz.ntmps73
  go_wp2_with fail
  refine (HC.out (W.alloc _) _ (by simp) (HS.out.alloc _)).mono ?_
  rintro e w' ⟨rfl, hE⟩
  have HE : Hid (PoS w0 b nd T W w') := hE.of_alloc
  clear hE
  go_wp2
  go_end0
  exact ⟨rfl, HE.out⟩
set_option maxRecDepth 100000 in
set_option maxHeartbeats 4000000 in
theorem pr_5 (w0 : World) (b : Nat) (nd : Value) (l : List Nd) (nt : Nat → Tks) (K : Nat) (hP : Puts w0 b nd l nt K 3) (x : Nd) (hk : x.k = 5) (hn : NdK w0 K x) : PrF w0 b nd l nt 73 x (prtK l x 5) := by
  intro t W hS hlen
  have har : arB 5 x.ks.length = true := by have := hn.ar; rw [hk] at this; exact this
  have hl : x.ks.length = 1 := by simpa [arB] using har
  have hE0 : run t (psT nt l (prtK l x 5)) = run (t) (psT nt l [.s x.nm, .s ⟨#[58]⟩, .n (kidN x 0)]) := by
    rfl
  rw [hE0] at hlen ⊢
  clear hE0
  obtain ⟨T1, hT1⟩ : ∃ T, run t (psT nt l [.s x.nm, .s ⟨#[58]⟩, .n (kidN x 0)]) = T := ⟨_, rfl⟩
  rw [hT1] at hlen ⊢
  have hl1 : T1.length ≤ 140737488355328 := hlen
  have HC1 : Hid (∀ W g, g = W.heap.size → St w0 b nd t W → Calls Tryz.prog 26 #[.pointer (some ⟨b, 0, none⟩), .slice (some ⟨g, 0, none⟩) 3 3] (W.alloc (.cells #[.iface 9 (.string x.nm), .iface 9 (.string ⟨#[58]⟩), .iface 3 (.int .i64 (kidN x 0 : Nat))] 20)).drew fun e w' => e = .returned (.tuple #[]) ∧ PoS w0 b nd T1 W w') := put_hd hP [.s x.nm, .s ⟨#[58]⟩, .n (kidN x 0)] (by simp) (all_3 (⟨by simp [Pt.rk], trivial⟩) (⟨by simp [Pt.rk], trivial⟩) (⟨by simp [Pt.rk], hn.kid 0 (by omega)⟩)) 3 rfl _ rfl t T1 hT1 hl1
  have HS : Hid (St w0 b nd t W) := hS
  obtain ⟨g0, o0, hka, hcell⟩ := hn.addr (by omega)
  have HX : Hid (∀ W, Below w0.heap.size w0 W → W.cell? ⟨g0, o0, none⟩ = some (.int .i64 (kidN x 0 : Nat))) := fun W hW => hcell W hW 0 (by omega)
  have hc1 := hn.ks.1
  have hc2 := hn.ks.2.1
  rw [hl] at hc1
  unfold nda
  rw [hk, hl, hka]
  clear hP hlen hS hn har hk hT1 hl1 hcell hka hl
  generalize kidN x 0 = q0 at *
  generalize x.nm = xn at *
  generalize x.v = xv at *
  generalize x.kc = xc at *
  generalize x.ka = xa at *
  generalize x.fr = xf at *
  generalize x.en = xe at *
  clear x
  have HB0 : Hid (Bs w0 b nd t W #[.int .i64 5, .string xn, .int .i64 xv, .slice (some ⟨g0, o0, none⟩) 1 xc, .int .i64 xf, .int .i64 xe] (W.alloc (.cells #[.int .i64 5, .string xn, .int .i64 xv, .slice (some ⟨g0, o0, none⟩) 1 xc, .int .i64 xf, .int .i64 xe] 53))) := Bs.start HS.out _
  go_enter Tryz.func73, Tryz.ntmps73
  have r00 : (W.alloc (.cells #[.int .i64 5, .string xn, .int .i64 xv, .slice (some ⟨g0, o0, none⟩) 1 xc, .int .i64 xf, .int .i64 xe] 53)).cell? ⟨g0, o0, none⟩ = some (.int .i64 q0) := (HX.out _ HB0.out.st.bl)
  have HK0 : Hid (∀ T w', Bs w0 b nd T W #[.int .i64 5, .string xn, .int .i64 xv, .slice (some ⟨g0, o0, none⟩) 1 xc, .int .i64 xf, .int .i64 xe] w' → w'.cell? ⟨W.heap.size, 1, none⟩ = some (.string xn) ∧ w'.cell? ⟨W.heap.size, 3, none⟩ = some (.slice (some ⟨g0, o0, none⟩) 1 xc) ∧ w'.cell? ⟨g0, o0, none⟩ = some (.int .i64 q0)) := fun T w' h => ⟨(box6 h.bx).2.1, (box6 h.bx).2.2.2.1, HX.out _ h.st.bl⟩
  go_wp2
  go_region_held3 (fun w' => w'.cell? ⟨W.heap.size, 1, none⟩ = some (.string xn) ∧ w'.cell? ⟨W.heap.size, 3, none⟩ = some (.slice (some ⟨g0, o0, none⟩) 1 xc) ∧ w'.cell? ⟨g0, o0, none⟩ = some (.int .i64 q0)) (first | exact HK0.out _ _ HB0.out | exact HK0.out _ _ (HB0.out.later ⟨rfl, rfl, rfl, Nat.le_refl _, fun _ _ => rfl⟩) | exact HK0.out _ _ ((HB0.out.later ((Below.refl _ _).alloc (Nat.le_refl _) _)).later ⟨rfl, rfl, rfl, Nat.le_refl _, fun _ _ => rfl⟩) | exact HK0.out _ _ HB1.out) (first | (go_at_call 26; refine (HC1.out _ _ (by first | rfl | simp) HB0.out.st).mono ?_; rintro e w1 ⟨rfl, hE⟩; have HB1 : Hid (Bs w0 b nd T1 W #[.int .i64 5, .string xn, .int .i64 xv, .slice (some ⟨g0, o0, none⟩) 1 xc, .int .i64 xf, .int .i64 xe] w1) := HB0.out.put hE; clear hE; obtain ⟨d10, d11, d12, d13, d14, d15⟩ := box6 HB1.out.bx; have r10 := HX.out w1 HB1.out.st.bl))
  have HE : Hid (PoS w0 b nd T1 W w1) := HB1.out.pos
  clear HB1 d10 d11 d12 d13 d14 d15 r10
  go_wp2
  go_end0
  exact ⟨rfl, HE.out⟩
set_option maxRecDepth 100000 in
set_option maxHeartbeats 4000000 in
theorem pr_36 (w0 : World) (b : Nat) (nd : Value) (l : List Nd) (nt : Nat → Tks) (K : Nat) (hP : Puts w0 b nd l nt K 3) (x : Nd) (hk : x.k = 36) (hn : NdK w0 K x) : PrF w0 b nd l nt 73 x (prtK l x 36) := by
  intro t W hS hlen
  have har : arB 36 x.ks.length = true := by have := hn.ar; rw [hk] at this; exact this
  have hl : x.ks.length = 1 := by simpa [arB] using har
  have hE0 : run t (psT nt l (prtK l x 36)) = run (t) (psT nt l [.s x.nm, .s ⟨#[58]⟩, .n (kidN x 0)]) := by
    rfl
  rw [hE0] at hlen ⊢
  clear hE0
  obtain ⟨T1, hT1⟩ : ∃ T, run t (psT nt l [.s x.nm, .s ⟨#[58]⟩, .n (kidN x 0)]) = T := ⟨_, rfl⟩
  rw [hT1] at hlen ⊢
  have hl1 : T1.length ≤ 140737488355328 := hlen
  have HC1 : Hid (∀ W g, g = W.heap.size → St w0 b nd t W → Calls Tryz.prog 26 #[.pointer (some ⟨b, 0, none⟩), .slice (some ⟨g, 0, none⟩) 3 3] (W.alloc (.cells #[.iface 9 (.string x.nm), .iface 9 (.string ⟨#[58]⟩), .iface 3 (.int .i64 (kidN x 0 : Nat))] 20)).drew fun e w' => e = .returned (.tuple #[]) ∧ PoS w0 b nd T1 W w') := put_hd hP [.s x.nm, .s ⟨#[58]⟩, .n (kidN x 0)] (by simp) (all_3 (⟨by simp [Pt.rk], trivial⟩) (⟨by simp [Pt.rk], trivial⟩) (⟨by simp [Pt.rk], hn.kid 0 (by omega)⟩)) 3 rfl _ rfl t T1 hT1 hl1
  have HS : Hid (St w0 b nd t W) := hS
  obtain ⟨g0, o0, hka, hcell⟩ := hn.addr (by omega)
  have HX : Hid (∀ W, Below w0.heap.size w0 W → W.cell? ⟨g0, o0, none⟩ = some (.int .i64 (kidN x 0 : Nat))) := fun W hW => hcell W hW 0 (by omega)
  have hc1 := hn.ks.1
  have hc2 := hn.ks.2.1
  rw [hl] at hc1
  unfold nda
  rw [hk, hl, hka]
  clear hP hlen hS hn har hk hT1 hl1 hcell hka hl
  generalize kidN x 0 = q0 at *
  generalize x.nm = xn at *
  generalize x.v = xv at *
  generalize x.kc = xc at *
  generalize x.ka = xa at *
  generalize x.fr = xf at *
  generalize x.en = xe at *
  clear x
  have HB0 : Hid (Bs w0 b nd t W #[.int .i64 36, .string xn, .int .i64 xv, .slice (some ⟨g0, o0, none⟩) 1 xc, .int .i64 xf, .int .i64 xe] (W.alloc (.cells #[.int .i64 36, .string xn, .int .i64 xv, .slice (some ⟨g0, o0, none⟩) 1 xc, .int .i64 xf, .int .i64 xe] 53))) := Bs.start HS.out _
  go_enter Tryz.func73, Tryz.ntmps73
  have r00 : (W.alloc (.cells #[.int .i64 36, .string xn, .int .i64 xv, .slice (some ⟨g0, o0, none⟩) 1 xc, .int .i64 xf, .int .i64 xe] 53)).cell? ⟨g0, o0, none⟩ = some (.int .i64 q0) := (HX.out _ HB0.out.st.bl)
  have HK0 : Hid (∀ T w', Bs w0 b nd T W #[.int .i64 36, .string xn, .int .i64 xv, .slice (some ⟨g0, o0, none⟩) 1 xc, .int .i64 xf, .int .i64 xe] w' → w'.cell? ⟨W.heap.size, 1, none⟩ = some (.string xn) ∧ w'.cell? ⟨W.heap.size, 3, none⟩ = some (.slice (some ⟨g0, o0, none⟩) 1 xc) ∧ w'.cell? ⟨g0, o0, none⟩ = some (.int .i64 q0)) := fun T w' h => ⟨(box6 h.bx).2.1, (box6 h.bx).2.2.2.1, HX.out _ h.st.bl⟩
  go_wp2
  go_region_held3 (fun w' => w'.cell? ⟨W.heap.size, 1, none⟩ = some (.string xn) ∧ w'.cell? ⟨W.heap.size, 3, none⟩ = some (.slice (some ⟨g0, o0, none⟩) 1 xc) ∧ w'.cell? ⟨g0, o0, none⟩ = some (.int .i64 q0)) (first | exact HK0.out _ _ HB0.out | exact HK0.out _ _ (HB0.out.later ⟨rfl, rfl, rfl, Nat.le_refl _, fun _ _ => rfl⟩) | exact HK0.out _ _ ((HB0.out.later ((Below.refl _ _).alloc (Nat.le_refl _) _)).later ⟨rfl, rfl, rfl, Nat.le_refl _, fun _ _ => rfl⟩) | exact HK0.out _ _ HB1.out) (first | (go_at_call 26; refine (HC1.out _ _ (by first | rfl | simp) HB0.out.st).mono ?_; rintro e w1 ⟨rfl, hE⟩; have HB1 : Hid (Bs w0 b nd T1 W #[.int .i64 36, .string xn, .int .i64 xv, .slice (some ⟨g0, o0, none⟩) 1 xc, .int .i64 xf, .int .i64 xe] w1) := HB0.out.put hE; clear hE; obtain ⟨d10, d11, d12, d13, d14, d15⟩ := box6 HB1.out.bx; have r10 := HX.out w1 HB1.out.st.bl))
  have HE : Hid (PoS w0 b nd T1 W w1) := HB1.out.pos
  clear HB1 d10 d11 d12 d13 d14 d15 r10
  go_wp2
  go_end0
  exact ⟨rfl, HE.out⟩
set_option maxRecDepth 100000 in
set_option maxHeartbeats 4000000 in
theorem pr_6 (w0 : World) (b : Nat) (nd : Value) (l : List Nd) (nt : Nat → Tks) (K : Nat) (hP : Puts w0 b nd l nt K 3) (x : Nd) (hk : x.k = 6) (hn : NdK w0 K x) : PrF w0 b nd l nt 73 x (prtK l x 6) := by
  intro t W hS hlen
  have har : arB 6 x.ks.length = true := by have := hn.ar; rw [hk] at this; exact this
  obtain ⟨T, hT⟩ : ∃ T, run t (psT nt l (prtK l x 6)) = T := ⟨_, rfl⟩
  rw [hT] at hlen ⊢
  have HC : Hid (∀ W g, g = W.heap.size → St w0 b nd t W → Calls Tryz.prog 26 #[.pointer (some ⟨b, 0, none⟩), .slice (some ⟨g, 0, none⟩) 2 2] (W.alloc (.cells #[.iface 9 (.string x.nm), .iface 89 (.slice x.ka x.ks.length x.kc)] 20)) fun e w' => e = .returned (.tuple #[]) ∧ PoS w0 b nd T W w') := put_hc hP [.s x.nm, .pa x.ka x.kc x.ks] (by simp) (all_2 (⟨by simp [Pt.rk], trivial⟩) (⟨by simp [Pt.rk], hn.ks, hn.hin⟩)) 2 rfl _ rfl t T hT hlen
  have HS : Hid (St w0 b nd t W) := hS
  have hc1 := hn.ks.1
  have hc2 := hn.ks.2.1
  unfold nda
  rw [hk]
  clear hP hlen hS hn har hT hk
  generalize x.ks.length = xl at *
  generalize x.nm = xn at *
  generalize x.v = xv at *
  generalize x.kc = xc at *
  generalize x.ka = xa at *
  generalize x.fr = xf at *
  generalize x.en = xe at *
  clear x
  go_enter Tryz.func73, Tryz.ntmps73
  go_wp2_with fail
  refine (HC.out (W.alloc _) _ (by simp) (HS.out.alloc _)).mono ?_
  rintro e w' ⟨rfl, hE⟩
  have HE : Hid (PoS w0 b nd T W w') := hE.of_alloc
  clear hE
  go_wp2
  go_end0
  exact ⟨rfl, HE.out⟩
set_option maxRecDepth 100000 in
set_option maxHeartbeats 4000000 in
theorem pr_7 (w0 : World) (b : Nat) (nd : Value) (l : List Nd) (nt : Nat → Tks) (K : Nat) (hP : Puts w0 b nd l nt K 3) (x : Nd) (hk : x.k = 7) (hn : NdK w0 K x) : PrF w0 b nd l nt 73 x (prtK l x 7) := by
  intro t W hS hlen
  have har : arB 7 x.ks.length = true := by have := hn.ar; rw [hk] at this; exact this
  have hl : x.ks.length = 1 := by simpa [arB] using har
  have hE0 : run t (psT nt l (prtK l x 7)) = run (run (t) (psT nt l [.s (mutS x.v)])) (psT nt l [.s x.nm, .s ⟨#[58]⟩, .n (kidN x 0)]) := by
    rw [← run_app]
    simp only [← psT_app]
    rfl
  rw [hE0] at hlen ⊢
  clear hE0
  obtain ⟨T1, hT1⟩ : ∃ T, run t (psT nt l [.s (mutS x.v)]) = T := ⟨_, rfl⟩
  rw [hT1] at hlen ⊢
  obtain ⟨T2, hT2⟩ : ∃ T, run T1 (psT nt l [.s x.nm, .s ⟨#[58]⟩, .n (kidN x 0)]) = T := ⟨_, rfl⟩
  rw [hT2] at hlen ⊢
  have hl2 : T2.length ≤ 140737488355328 := hlen
  have hl1 : T1.length ≤ 140737488355328 := Nat.le_trans (run_le _ _) (by rw [hT2]; exact hl2)
  have HC1 : Hid (∀ W g, g = W.heap.size → St w0 b nd t W → Calls Tryz.prog 26 #[.pointer (some ⟨b, 0, none⟩), .slice (some ⟨g, 0, none⟩) 1 1] (W.alloc (.cells #[.iface 9 (.string (mutS x.v))] 20)) fun e w' => e = .returned (.tuple #[]) ∧ PoS w0 b nd T1 W w') := put_hc hP [.s (mutS x.v)] (by simp) (all_1 (⟨by simp [Pt.rk], trivial⟩)) 1 rfl _ rfl t T1 hT1 hl1
  have HC2 : Hid (∀ W g, g = W.heap.size → St w0 b nd T1 W → Calls Tryz.prog 26 #[.pointer (some ⟨b, 0, none⟩), .slice (some ⟨g, 0, none⟩) 3 3] (W.alloc (.cells #[.iface 9 (.string x.nm), .iface 9 (.string ⟨#[58]⟩), .iface 3 (.int .i64 (kidN x 0 : Nat))] 20)).drew fun e w' => e = .returned (.tuple #[]) ∧ PoS w0 b nd T2 W w') := put_hd hP [.s x.nm, .s ⟨#[58]⟩, .n (kidN x 0)] (by simp) (all_3 (⟨by simp [Pt.rk], trivial⟩) (⟨by simp [Pt.rk], trivial⟩) (⟨by simp [Pt.rk], hn.kid 0 (by omega)⟩)) 3 rfl _ rfl T1 T2 hT2 hl2
  have HS : Hid (St w0 b nd t W) := hS
  obtain ⟨g0, o0, hka, hcell⟩ := hn.addr (by omega)
  have HX : Hid (∀ W, Below w0.heap.size w0 W → W.cell? ⟨g0, o0, none⟩ = some (.int .i64 (kidN x 0 : Nat))) := fun W hW => hcell W hW 0 (by omega)
  have hc1 := hn.ks.1
  have hc2 := hn.ks.2.1
  rw [hl] at hc1
  unfold nda
  rw [hk, hl, hka]
  clear hP hlen hS hn har hk hT1 hl1 hT2 hl2 hcell hka hl
  generalize kidN x 0 = q0 at *
  generalize x.nm = xn at *
  generalize x.v = xv at *
  generalize x.kc = xc at *
  generalize x.ka = xa at *
  generalize x.fr = xf at *
  generalize x.en = xe at *
  clear x
  have HB0 : Hid (Bs w0 b nd t W #[.int .i64 7, .string xn, .int .i64 xv, .slice (some ⟨g0, o0, none⟩) 1 xc, .int .i64 xf, .int .i64 xe] (W.alloc (.cells #[.int .i64 7, .string xn, .int .i64 xv, .slice (some ⟨g0, o0, none⟩) 1 xc, .int .i64 xf, .int .i64 xe] 53))) := Bs.start HS.out _
  go_enter Tryz.func73, Tryz.ntmps73
  go_wp2_with fail
  refine (mut95 _ _ _ _ _ _ _).mono ?_
  rintro e w1 ⟨rfl, hb⟩
  have HB1 : Hid (Bs w0 b nd t W #[.int .i64 7, .string xn, .int .i64 xv, .slice (some ⟨g0, o0, none⟩) 1 xc, .int .i64 xf, .int .i64 xe] w1) := HB0.out.later hb
  clear hb
  obtain ⟨d10, d11, d12, d13, d14, d15⟩ := box6 HB1.out.bx
  go_wp2_with fail
  refine (HC1.out _ _ (by first | rfl | simp) HB1.out.st).mono ?_
  rintro e w2 ⟨rfl, hE⟩
  have HB2 : Hid (Bs w0 b nd T1 W #[.int .i64 7, .string xn, .int .i64 xv, .slice (some ⟨g0, o0, none⟩) 1 xc, .int .i64 xf, .int .i64 xe] w2) := HB1.out.put hE
  clear hE
  obtain ⟨d20, d21, d22, d23, d24, d25⟩ := box6 HB2.out.bx
  have r20 := HX.out w2 HB2.out.st.bl
  have HK2 : Hid (∀ T w', Bs w0 b nd T W #[.int .i64 7, .string xn, .int .i64 xv, .slice (some ⟨g0, o0, none⟩) 1 xc, .int .i64 xf, .int .i64 xe] w' → w'.cell? ⟨W.heap.size, 1, none⟩ = some (.string xn) ∧ w'.cell? ⟨W.heap.size, 3, none⟩ = some (.slice (some ⟨g0, o0, none⟩) 1 xc) ∧ w'.cell? ⟨g0, o0, none⟩ = some (.int .i64 q0)) := fun T w' h => ⟨(box6 h.bx).2.1, (box6 h.bx).2.2.2.1, HX.out _ h.st.bl⟩
  go_wp2
  go_region_held3 (fun w' => w'.cell? ⟨W.heap.size, 1, none⟩ = some (.string xn) ∧ w'.cell? ⟨W.heap.size, 3, none⟩ = some (.slice (some ⟨g0, o0, none⟩) 1 xc) ∧ w'.cell? ⟨g0, o0, none⟩ = some (.int .i64 q0)) (first | exact HK2.out _ _ HB2.out | exact HK2.out _ _ (HB2.out.later ⟨rfl, rfl, rfl, Nat.le_refl _, fun _ _ => rfl⟩) | exact HK2.out _ _ ((HB2.out.later ((Below.refl _ _).alloc (Nat.le_refl _) _)).later ⟨rfl, rfl, rfl, Nat.le_refl _, fun _ _ => rfl⟩) | exact HK2.out _ _ HB3.out) (first | (go_at_call 26; refine (HC2.out _ _ (by first | rfl | simp) HB2.out.st).mono ?_; rintro e w3 ⟨rfl, hE⟩; have HB3 : Hid (Bs w0 b nd T2 W #[.int .i64 7, .string xn, .int .i64 xv, .slice (some ⟨g0, o0, none⟩) 1 xc, .int .i64 xf, .int .i64 xe] w3) := HB2.out.put hE; clear hE; obtain ⟨d30, d31, d32, d33, d34, d35⟩ := box6 HB3.out.bx; have r30 := HX.out w3 HB3.out.st.bl))
  have HE : Hid (PoS w0 b nd T2 W w3) := HB3.out.pos
  clear HB3 d30 d31 d32 d33 d34 d35 r30
  go_wp2
  go_end0
  exact ⟨rfl, HE.out⟩
set_option maxRecDepth 100000 in
set_option maxHeartbeats 4000000 in
theorem pr_47 (w0 : World) (b : Nat) (nd : Value) (l : List Nd) (nt : Nat → Tks) (K : Nat) (hP : Puts w0 b nd l nt K 3) (x : Nd) (hk : x.k = 47) (hn : NdK w0 K x) : PrF w0 b nd l nt 73 x (prtK l x 47) := by
  intro t W hS hlen
  have har : arB 47 x.ks.length = true := by have := hn.ar; rw [hk] at this; exact this
  have hl : x.ks.length = 2 := by simpa [arB] using har
  have hE0 : run t (psT nt l (prtK l x 47)) = run (t) (psT nt l [.n (kidN x 0), .s ⟨#[61, 62]⟩, .n (kidN x 1)]) := by
    rfl
  rw [hE0] at hlen ⊢
  clear hE0
  obtain ⟨T1, hT1⟩ : ∃ T, run t (psT nt l [.n (kidN x 0), .s ⟨#[61, 62]⟩, .n (kidN x 1)]) = T := ⟨_, rfl⟩
  rw [hT1] at hlen ⊢
  have hl1 : T1.length ≤ 140737488355328 := hlen
  have HC1 : Hid (∀ W g, g = W.heap.size → St w0 b nd t W → Calls Tryz.prog 26 #[.pointer (some ⟨b, 0, none⟩), .slice (some ⟨g, 0, none⟩) 3 3] (W.alloc (.cells #[.iface 3 (.int .i64 (kidN x 0 : Nat)), .iface 9 (.string ⟨#[61, 62]⟩), .iface 3 (.int .i64 (kidN x 1 : Nat))] 20)).drew fun e w' => e = .returned (.tuple #[]) ∧ PoS w0 b nd T1 W w') := put_hd hP [.n (kidN x 0), .s ⟨#[61, 62]⟩, .n (kidN x 1)] (by simp) (all_3 (⟨by simp [Pt.rk], hn.kid 0 (by omega)⟩) (⟨by simp [Pt.rk], trivial⟩) (⟨by simp [Pt.rk], hn.kid 1 (by omega)⟩)) 3 rfl _ rfl t T1 hT1 hl1
  have HS : Hid (St w0 b nd t W) := hS
  obtain ⟨g0, o0, hka, hcell⟩ := hn.addr (by omega)
  have HX : Hid (∀ W, Below w0.heap.size w0 W → W.cell? ⟨g0, o0, none⟩ = some (.int .i64 (kidN x 0 : Nat)) ∧ W.cell? ⟨g0, o0 + 1, none⟩ = some (.int .i64 (kidN x 1 : Nat))) := fun W hW => ⟨hcell W hW 0 (by omega), hcell W hW 1 (by omega)⟩
  have hc1 := hn.ks.1
  have hc2 := hn.ks.2.1
  rw [hl] at hc1
  unfold nda
  rw [hk, hl, hka]
  clear hP hlen hS hn har hk hT1 hl1 hcell hka hl
  generalize kidN x 0 = q0 at *
  generalize kidN x 1 = q1 at *
  generalize x.nm = xn at *
  generalize x.v = xv at *
  generalize x.kc = xc at *
  generalize x.ka = xa at *
  generalize x.fr = xf at *
  generalize x.en = xe at *
  clear x
  have HB0 : Hid (Bs w0 b nd t W #[.int .i64 47, .string xn, .int .i64 xv, .slice (some ⟨g0, o0, none⟩) 2 xc, .int .i64 xf, .int .i64 xe] (W.alloc (.cells #[.int .i64 47, .string xn, .int .i64 xv, .slice (some ⟨g0, o0, none⟩) 2 xc, .int .i64 xf, .int .i64 xe] 53))) := Bs.start HS.out _
  go_enter Tryz.func73, Tryz.ntmps73
  have r00 : (W.alloc (.cells #[.int .i64 47, .string xn, .int .i64 xv, .slice (some ⟨g0, o0, none⟩) 2 xc, .int .i64 xf, .int .i64 xe] 53)).cell? ⟨g0, o0, none⟩ = some (.int .i64 q0) := (HX.out _ HB0.out.st.bl).1
  have r01 : (W.alloc (.cells #[.int .i64 47, .string xn, .int .i64 xv, .slice (some ⟨g0, o0, none⟩) 2 xc, .int .i64 xf, .int .i64 xe] 53)).cell? ⟨g0, o0 + 1, none⟩ = some (.int .i64 q1) := (HX.out _ HB0.out.st.bl).2
  have HK0 : Hid (∀ T w', Bs w0 b nd T W #[.int .i64 47, .string xn, .int .i64 xv, .slice (some ⟨g0, o0, none⟩) 2 xc, .int .i64 xf, .int .i64 xe] w' → w'.cell? ⟨W.heap.size, 3, none⟩ = some (.slice (some ⟨g0, o0, none⟩) 2 xc) ∧ w'.cell? ⟨g0, o0, none⟩ = some (.int .i64 q0) ∧ w'.cell? ⟨g0, o0 + 1, none⟩ = some (.int .i64 q1)) := fun T w' h => ⟨(box6 h.bx).2.2.2.1, (HX.out _ h.st.bl).1, (HX.out _ h.st.bl).2⟩
  go_wp2
  go_region_held3 (fun w' => w'.cell? ⟨W.heap.size, 3, none⟩ = some (.slice (some ⟨g0, o0, none⟩) 2 xc) ∧ w'.cell? ⟨g0, o0, none⟩ = some (.int .i64 q0) ∧ w'.cell? ⟨g0, o0 + 1, none⟩ = some (.int .i64 q1)) (first | exact HK0.out _ _ HB0.out | exact HK0.out _ _ (HB0.out.later ⟨rfl, rfl, rfl, Nat.le_refl _, fun _ _ => rfl⟩) | exact HK0.out _ _ ((HB0.out.later ((Below.refl _ _).alloc (Nat.le_refl _) _)).later ⟨rfl, rfl, rfl, Nat.le_refl _, fun _ _ => rfl⟩) | exact HK0.out _ _ HB1.out) (first | (go_at_call 26; refine (HC1.out _ _ (by first | rfl | simp) HB0.out.st).mono ?_; rintro e w1 ⟨rfl, hE⟩; have HB1 : Hid (Bs w0 b nd T1 W #[.int .i64 47, .string xn, .int .i64 xv, .slice (some ⟨g0, o0, none⟩) 2 xc, .int .i64 xf, .int .i64 xe] w1) := HB0.out.put hE; clear hE; obtain ⟨d10, d11, d12, d13, d14, d15⟩ := box6 HB1.out.bx; obtain ⟨r10, r11⟩ := HX.out w1 HB1.out.st.bl))
  have HE : Hid (PoS w0 b nd T1 W w1) := HB1.out.pos
  clear HB1 d10 d11 d12 d13 d14 d15 r10 r11
  go_wp2
  go_end0
  exact ⟨rfl, HE.out⟩
end
section
open Go.RowKit Go.Shelf
set_option maxRecDepth 100000 in
set_option maxHeartbeats 4000000 in
theorem pr_30 (w0 : World) (b : Nat) (nd : Value) (l : List Nd) (nt : Nat → Tks) (K : Nat) (hP : Puts w0 b nd l nt K 3) (x : Nd) (hk : x.k = 30) (hn : NdK w0 K x) (hT : Tm w0) (ho : okN w0 x) : PrF w0 b nd l nt 69 x (prtK l x 30) := by
  intro t W hS hlen
  have har : arB 30 x.ks.length = true := by have := hn.ar; rw [hk] at this; exact this
  have hl : x.ks.length = 0 := by simpa [arB] using har
  have hE0 : run t (psT nt l (prtK l x 30)) = run (t) (psT nt l [.s ⟨(Lib.itoa x.v).toArray⟩]) := by
    rfl
  rw [hE0] at hlen ⊢
  clear hE0
  obtain ⟨T1, hT1⟩ : ∃ T, run t (psT nt l [.s ⟨(Lib.itoa x.v).toArray⟩]) = T := ⟨_, rfl⟩
  rw [hT1] at hlen ⊢
  have hl1 : T1.length ≤ 140737488355328 := hlen
  have HC1 : Hid (∀ W g, g = W.heap.size → St w0 b nd t W → Calls Tryz.prog 26 #[.pointer (some ⟨b, 0, none⟩), .slice (some ⟨g, 0, none⟩) 1 1] (W.alloc (.cells #[.iface 9 (.string ⟨(Lib.itoa x.v).toArray⟩)] 20)) fun e w' => e = .returned (.tuple #[]) ∧ PoS w0 b nd T1 W w') := put_hc hP [.s ⟨(Lib.itoa x.v).toArray⟩] (by simp) (all_1 (⟨by simp [Pt.rk], trivial⟩)) 1 rfl _ rfl t T1 hT1 hl1
  have HS : Hid (St w0 b nd t W) := hS
  have hc1 := hn.ks.1
  have hc2 := hn.ks.2.1
  have HF : Hid (∀ W, Below w0.heap.size w0 W → Calls Tryz.prog 81 #[.int .i64 x.v, .int .i64 10] W fun e w' => e = .returned (.string ⟨(Lib.itoa x.v).toArray⟩) ∧ Below W.heap.size W w') := fun W hW => fmt81 x.v ho.v0 ho.v1 W (hT.below hW)
  rw [hl] at hc1
  unfold nda
  rw [hk, hl]
  generalize (Lib.itoa x.v).toArray = A at *
  clear hT ho
  clear hP hlen hS hn har hk hT1 hl1 hl
  generalize x.nm = xn at *
  generalize x.v = xv at *
  generalize x.kc = xc at *
  generalize x.ka = xa at *
  generalize x.fr = xf at *
  generalize x.en = xe at *
  clear x
  have HB0 : Hid (Bs w0 b nd t W #[.int .i64 30, .string xn, .int .i64 xv, .slice xa 0 xc, .int .i64 xf, .int .i64 xe] (W.alloc (.cells #[.int .i64 30, .string xn, .int .i64 xv, .slice xa 0 xc, .int .i64 xf, .int .i64 xe] 53))) := Bs.start HS.out _
  go_enter Tryz.func69, Tryz.ntmps69
  go_wp2_with fail
  refine (HF.out _ HB0.out.st.bl).mono ?_
  rintro e w1 ⟨rfl, hb⟩
  have HB1 : Hid (Bs w0 b nd t W #[.int .i64 30, .string xn, .int .i64 xv, .slice xa 0 xc, .int .i64 xf, .int .i64 xe] w1) := HB0.out.later hb
  clear hb
  obtain ⟨d10, d11, d12, d13, d14, d15⟩ := box6 HB1.out.bx
  go_wp2_with fail
  refine (HC1.out _ _ (by first | rfl | simp) HB1.out.st).mono ?_
  rintro e w2 ⟨rfl, hE⟩
  have HB2 : Hid (Bs w0 b nd T1 W #[.int .i64 30, .string xn, .int .i64 xv, .slice xa 0 xc, .int .i64 xf, .int .i64 xe] w2) := HB1.out.put hE
  clear hE
  have HE : Hid (PoS w0 b nd T1 W w2) := HB2.out.pos
  clear HB2
  go_wp2
  go_end0
  exact ⟨rfl, HE.out⟩
set_option maxRecDepth 100000 in
set_option maxHeartbeats 4000000 in
theorem pk_37 (w0 : World) (b : Nat) (nd : Value) (l : List Nd) (nt : Nat → Tks) (K : Nat) (hP : Puts w0 b nd l nt K 3) (x : Nd) (hk : x.k = 37) (hn : NdK w0 K x) (hT : Tm w0) (ho : okN w0 x) : PrF w0 b nd l nt 94 x (prtK l x 37) := by
  intro t W hS hlen
  have har : arB 37 x.ks.length = true := by have := hn.ar; rw [hk] at this; exact this
  have hE0 : run t (psT nt l (prtK l x 37)) = run (t) (psT nt l [.s ⟨(pckA x).toArray⟩, .s ⟨#[58, 58]⟩, .s ⟨(pckB x).toArray⟩, .pa x.ka x.kc x.ks]) := by
    rfl
  rw [hE0] at hlen ⊢
  clear hE0
  obtain ⟨T1, hT1⟩ : ∃ T, run t (psT nt l [.s ⟨(pckA x).toArray⟩, .s ⟨#[58, 58]⟩, .s ⟨(pckB x).toArray⟩, .pa x.ka x.kc x.ks]) = T := ⟨_, rfl⟩
  rw [hT1] at hlen ⊢
  have hl1 : T1.length ≤ 140737488355328 := hlen
  have HC1 : Hid (∀ W g, g = W.heap.size → St w0 b nd t W → Calls Tryz.prog 26 #[.pointer (some ⟨b, 0, none⟩), .slice (some ⟨g, 0, none⟩) 4 4] (W.alloc (.cells #[.iface 9 (.string ⟨(pckA x).toArray⟩), .iface 9 (.string ⟨#[58, 58]⟩), .iface 9 (.string ⟨(pckB x).toArray⟩), .iface 89 (.slice x.ka x.ks.length x.kc)] 20)) fun e w' => e = .returned (.tuple #[]) ∧ PoS w0 b nd T1 W w') := put_hc hP [.s ⟨(pckA x).toArray⟩, .s ⟨#[58, 58]⟩, .s ⟨(pckB x).toArray⟩, .pa x.ka x.kc x.ks] (by simp) (all_4 (⟨by simp [Pt.rk], trivial⟩) (⟨by simp [Pt.rk], trivial⟩) (⟨by simp [Pt.rk], trivial⟩) (⟨by simp [Pt.rk], hn.ks, hn.hin⟩)) 4 rfl _ rfl t T1 hT1 hl1
  have HS : Hid (St w0 b nd t W) := hS
  have hc1 := hn.ks.1
  have hc2 := hn.ks.2.1
  have HF : Hid (∀ W, Below w0.heap.size w0 W → Calls Tryz.prog 83 #[.string x.nm, .string ⟨#[58, 58]⟩] W fun e w' => e = .returned (.tuple #[.string ⟨(pckA x).toArray⟩, .string ⟨(pckB x).toArray⟩, .bool (Lib.cut x.nm.data.toList [58, 58]).2.2]) ∧ Below W.heap.size W w') := fun W hW => cut83 x.nm ho.nm W (hT.below hW)
  unfold nda
  rw [hk]
  generalize (pckA x).toArray = A at *
  generalize (pckB x).toArray = B at *
  generalize (Lib.cut x.nm.data.toList [58, 58]).2.2 = C at *
  clear hT ho
  clear hP hlen hS hn har hk hT1 hl1
  generalize x.ks.length = xl at *
  generalize x.nm = xn at *
  generalize x.v = xv at *
  generalize x.kc = xc at *
  generalize x.ka = xa at *
  generalize x.fr = xf at *
  generalize x.en = xe at *
  clear x
  have HB0 : Hid (Bs w0 b nd t W #[.int .i64 37, .string xn, .int .i64 xv, .slice xa xl xc, .int .i64 xf, .int .i64 xe] (W.alloc (.cells #[.int .i64 37, .string xn, .int .i64 xv, .slice xa xl xc, .int .i64 xf, .int .i64 xe] 53))) := Bs.start HS.out _
  go_enter Tryz.func94, Tryz.ntmps94
  go_wp2_with fail
  refine (HF.out _ HB0.out.st.bl).mono ?_
  rintro e w1 ⟨rfl, hb⟩
  have HB1 : Hid (Bs w0 b nd t W #[.int .i64 37, .string xn, .int .i64 xv, .slice xa xl xc, .int .i64 xf, .int .i64 xe] w1) := HB0.out.later hb
  clear hb
  obtain ⟨d10, d11, d12, d13, d14, d15⟩ := box6 HB1.out.bx
  go_wp2_with fail
  refine (HC1.out _ _ (by first | rfl | simp) HB1.out.st).mono ?_
  rintro e w2 ⟨rfl, hE⟩
  have HB2 : Hid (Bs w0 b nd T1 W #[.int .i64 37, .string xn, .int .i64 xv, .slice xa xl xc, .int .i64 xf, .int .i64 xe] w2) := HB1.out.put hE
  clear hE
  have HE : Hid (PoS w0 b nd T1 W w2) := HB2.out.pos
  clear HB2
  go_wp2
  go_end0
  exact ⟨rfl, HE.out⟩
set_option maxRecDepth 100000 in
set_option maxHeartbeats 4000000 in
theorem pr_37 (w0 : World) (b : Nat) (nd : Value) (l : List Nd) (nt : Nat → Tks) (K : Nat) (hP : Puts w0 b nd l nt K 3) (x : Nd) (hk : x.k = 37) (hn : NdK w0 K x) (hT : Tm w0) (ho : okN w0 x) : PrF w0 b nd l nt 69 x (prtK l x 37) := by
  intro t W hS hlen
  obtain ⟨T, hT1⟩ : ∃ T, run t (psT nt l (prtK l x 37)) = T := ⟨_, rfl⟩
  have HC : Hid (∀ W, St w0 b nd t W → Calls Tryz.prog 94 #[.pointer (some ⟨b, 0, none⟩), nda x] W fun e w' => e = .returned (.tuple #[]) ∧ PoS w0 b nd T W w') := fun W hW => by
    have t := pk_37 w0 b nd l nt K hP x hk hn hT ho t W hW hlen
    rw [hT1] at t
    exact t
  rw [hT1] at hlen ⊢
  have HS : Hid (St w0 b nd t W) := hS
  have hc1 := hn.ks.1
  have hc2 := hn.ks.2.1
  unfold nda at *
  rw [hk] at *
  clear hP hlen hS hn hT1 hT ho hk
  generalize x.ks.length = xl at *
  generalize x.nm = xn at *
  generalize x.v = xv at *
  generalize x.kc = xc at *
  generalize x.ka = xa at *
  generalize x.fr = xf at *
  generalize x.en = xe at *
  clear x
  go_enter Tryz.func69, Tryz.ntmps69
  go_wp2_with fail
  refine (HC.out _ (HS.out.alloc _)).mono ?_
  rintro e w1 ⟨rfl, hE⟩
  have HE : Hid (PoS w0 b nd T W w1) := hE.of_alloc
  clear hE
  go_wp2
  go_end0
  exact ⟨rfl, HE.out⟩
set_option maxRecDepth 100000 in
set_option maxHeartbeats 4000000 in
theorem pk_54 (w0 : World) (b : Nat) (nd : Value) (l : List Nd) (nt : Nat → Tks) (K : Nat) (hP : Puts w0 b nd l nt K 3) (x : Nd) (hk : x.k = 54) (hn : NdK w0 K x) (hT : Tm w0) (ho : okN w0 x) : PrF w0 b nd l nt 94 x (prtK l x 54) := by
  intro t W hS hlen
  have har : arB 54 x.ks.length = true := by have := hn.ar; rw [hk] at this; exact this
  have hE0 : run t (psT nt l (prtK l x 54)) = run (t) (psT nt l [.s ⟨(pckA x).toArray⟩, .s ⟨#[58, 58]⟩, .s ⟨(pckB x).toArray⟩, .pa x.ka x.kc x.ks]) := by
    rfl
  rw [hE0] at hlen ⊢
  clear hE0
  obtain ⟨T1, hT1⟩ : ∃ T, run t (psT nt l [.s ⟨(pckA x).toArray⟩, .s ⟨#[58, 58]⟩, .s ⟨(pckB x).toArray⟩, .pa x.ka x.kc x.ks]) = T := ⟨_, rfl⟩
  rw [hT1] at hlen ⊢
  have hl1 : T1.length ≤ 140737488355328 := hlen
  have HC1 : Hid (∀ W g, g = W.heap.size → St w0 b nd t W → Calls Tryz.prog 26 #[.pointer (some ⟨b, 0, none⟩), .slice (some ⟨g, 0, none⟩) 4 4] (W.alloc (.cells #[.iface 9 (.string ⟨(pckA x).toArray⟩), .iface 9 (.string ⟨#[58, 58]⟩), .iface 9 (.string ⟨(pckB x).toArray⟩), .iface 89 (.slice x.ka x.ks.length x.kc)] 20)) fun e w' => e = .returned (.tuple #[]) ∧ PoS w0 b nd T1 W w') := put_hc hP [.s ⟨(pckA x).toArray⟩, .s ⟨#[58, 58]⟩, .s ⟨(pckB x).toArray⟩, .pa x.ka x.kc x.ks] (by simp) (all_4 (⟨by simp [Pt.rk], trivial⟩) (⟨by simp [Pt.rk], trivial⟩) (⟨by simp [Pt.rk], trivial⟩) (⟨by simp [Pt.rk], hn.ks, hn.hin⟩)) 4 rfl _ rfl t T1 hT1 hl1
  have HS : Hid (St w0 b nd t W) := hS
  have hc1 := hn.ks.1
  have hc2 := hn.ks.2.1
  have HF : Hid (∀ W, Below w0.heap.size w0 W → Calls Tryz.prog 83 #[.string x.nm, .string ⟨#[58, 58]⟩] W fun e w' => e = .returned (.tuple #[.string ⟨(pckA x).toArray⟩, .string ⟨(pckB x).toArray⟩, .bool (Lib.cut x.nm.data.toList [58, 58]).2.2]) ∧ Below W.heap.size W w') := fun W hW => cut83 x.nm ho.nm W (hT.below hW)
  unfold nda
  rw [hk]
  generalize (pckA x).toArray = A at *
  generalize (pckB x).toArray = B at *
  generalize (Lib.cut x.nm.data.toList [58, 58]).2.2 = C at *
  clear hT ho
  clear hP hlen hS hn har hk hT1 hl1
  generalize x.ks.length = xl at *
  generalize x.nm = xn at *
  generalize x.v = xv at *
  generalize x.kc = xc at *
  generalize x.ka = xa at *
  generalize x.fr = xf at *
  generalize x.en = xe at *
  clear x
  have HB0 : Hid (Bs w0 b nd t W #[.int .i64 54, .string xn, .int .i64 xv, .slice xa xl xc, .int .i64 xf, .int .i64 xe] (W.alloc (.cells #[.int .i64 54, .string xn, .int .i64 xv, .slice xa xl xc, .int .i64 xf, .int .i64 xe] 53))) := Bs.start HS.out _
  go_enter Tryz.func94, Tryz.ntmps94
  go_wp2_with fail
  refine (HF.out _ HB0.out.st.bl).mono ?_
  rintro e w1 ⟨rfl, hb⟩
  have HB1 : Hid (Bs w0 b nd t W #[.int .i64 54, .string xn, .int .i64 xv, .slice xa xl xc, .int .i64 xf, .int .i64 xe] w1) := HB0.out.later hb
  clear hb
  obtain ⟨d10, d11, d12, d13, d14, d15⟩ := box6 HB1.out.bx
  go_wp2_with fail
  refine (HC1.out _ _ (by first | rfl | simp) HB1.out.st).mono ?_
  rintro e w2 ⟨rfl, hE⟩
  have HB2 : Hid (Bs w0 b nd T1 W #[.int .i64 54, .string xn, .int .i64 xv, .slice xa xl xc, .int .i64 xf, .int .i64 xe] w2) := HB1.out.put hE
  clear hE
  have HE : Hid (PoS w0 b nd T1 W w2) := HB2.out.pos
  clear HB2
  go_wp2
  go_end0
  exact ⟨rfl, HE.out⟩
set_option maxRecDepth 100000 in
set_option maxHeartbeats 4000000 in
theorem pr_54 (w0 : World) (b : Nat) (nd : Value) (l : List Nd) (nt : Nat → Tks) (K : Nat) (hP : Puts w0 b nd l nt K 3) (x : Nd) (hk : x.k = 54) (hn : NdK w0 K x) (hT : Tm w0) (ho : okN w0 x) : PrF w0 b nd l nt 72 x (prtK l x 54) := by
  intro t W hS hlen
  obtain ⟨T, hT1⟩ : ∃ T, run t (psT nt l (prtK l x 54)) = T := ⟨_, rfl⟩
  have HC : Hid (∀ W, St w0 b nd t W → Calls Tryz.prog 94 #[.pointer (some ⟨b, 0, none⟩), nda x] W fun e w' => e = .returned (.tuple #[]) ∧ PoS w0 b nd T W w') := fun W hW => by
    have t := pk_54 w0 b nd l nt K hP x hk hn hT ho t W hW hlen
    rw [hT1] at t
    exact t
  rw [hT1] at hlen ⊢
  have HS : Hid (St w0 b nd t W) := hS
  have hc1 := hn.ks.1
  have hc2 := hn.ks.2.1
  unfold nda at *
  rw [hk] at *
  clear hP hlen hS hn hT1 hT ho hk
  generalize x.ks.length = xl at *
  generalize x.nm = xn at *
  generalize x.v = xv at *
  generalize x.kc = xc at *
  generalize x.ka = xa at *
  generalize x.fr = xf at *
  generalize x.en = xe at *
  clear x
  go_enter Tryz.func72, Tryz.ntmps72
  go_wp2_with fail
  refine (HC.out _ (HS.out.alloc _)).mono ?_
  rintro e w1 ⟨rfl, hE⟩
  have HE : Hid (PoS w0 b nd T W w1) := hE.of_alloc
  clear hE
  go_wp2
  go_end0
  exact ⟨rfl, HE.out⟩
set_option maxRecDepth 100000 in
set_option maxHeartbeats 4000000 in
theorem pr_52a (w0 : World) (b : Nat) (nd : Value) (l : List Nd) (nt : Nat → Tks) (K : Nat) (hP : Puts w0 b nd l nt K 3) (x : Nd) (hk : x.k = 52) (hn : NdK w0 K x) (hT : Tm w0) (ho : okN w0 x) (hv : x.v < 0) : PrF w0 b nd l nt 72 x (prtK l x 52) := by
  intro t W hS hlen
  have har : arB 52 x.ks.length = true := by have := hn.ar; rw [hk] at this; exact this
  have hl : x.ks.length = 0 := by simpa [arB] using har
  have hE0 : run t (psT nt l (prtK l x 52)) = run (run (t) (psT nt l [.s ⟨#[45]⟩])) (psT nt l [.s ⟨(Lib.trimPrefix (Lib.itoa x.v) [45]).toArray⟩]) := by
    rw [← run_app]
    simp only [← psT_app]
    show run t (psT nt l ((if x.v < 0 then [.s ⟨#[45]⟩] else []) ++ _)) = _
    rw [if_pos hv]
  rw [hE0] at hlen ⊢
  clear hE0
  obtain ⟨T1, hT1⟩ : ∃ T, run t (psT nt l [.s ⟨#[45]⟩]) = T := ⟨_, rfl⟩
  rw [hT1] at hlen ⊢
  obtain ⟨T2, hT2⟩ : ∃ T, run T1 (psT nt l [.s ⟨(Lib.trimPrefix (Lib.itoa x.v) [45]).toArray⟩]) = T := ⟨_, rfl⟩
  rw [hT2] at hlen ⊢
  have hl2 : T2.length ≤ 140737488355328 := hlen
  have hl1 : T1.length ≤ 140737488355328 := Nat.le_trans (run_le _ _) (by rw [hT2]; exact hl2)
  have HC1 : Hid (∀ W g, g = W.heap.size → St w0 b nd t W → Calls Tryz.prog 26 #[.pointer (some ⟨b, 0, none⟩), .slice (some ⟨g, 0, none⟩) 1 1] (W.alloc (.cells #[.iface 9 (.string ⟨#[45]⟩)] 20)) fun e w' => e = .returned (.tuple #[]) ∧ PoS w0 b nd T1 W w') := put_hc hP [.s ⟨#[45]⟩] (by simp) (all_1 (⟨by simp [Pt.rk], trivial⟩)) 1 rfl _ rfl t T1 hT1 hl1
  have HC2 : Hid (∀ W g, g = W.heap.size → St w0 b nd T1 W → Calls Tryz.prog 26 #[.pointer (some ⟨b, 0, none⟩), .slice (some ⟨g, 0, none⟩) 1 1] (W.alloc (.cells #[.iface 9 (.string ⟨(Lib.trimPrefix (Lib.itoa x.v) [45]).toArray⟩)] 20)) fun e w' => e = .returned (.tuple #[]) ∧ PoS w0 b nd T2 W w') := put_hc hP [.s ⟨(Lib.trimPrefix (Lib.itoa x.v) [45]).toArray⟩] (by simp) (all_1 (⟨by simp [Pt.rk], trivial⟩)) 1 rfl _ rfl T1 T2 hT2 hl2
  have HS : Hid (St w0 b nd t W) := hS
  have hc1 := hn.ks.1
  have hc2 := hn.ks.2.1
  have HF : Hid (∀ W, Below w0.heap.size w0 W → Calls Tryz.prog 81 #[.int .i64 x.v, .int .i64 10] W fun e w' => e = .returned (.string ⟨(Lib.itoa x.v).toArray⟩) ∧ Below W.heap.size W w') := fun W hW => fmt81 x.v ho.v0 ho.v1 W (hT.below hW)
  have HG : Hid (∀ W, Calls Tryz.prog 97 #[.string ⟨(Lib.itoa x.v).toArray⟩, .string ⟨#[45]⟩] W fun e w' => e = .returned (.string ⟨(Lib.trimPrefix (Lib.itoa x.v) [45]).toArray⟩) ∧ w' = W) := fun W => Tryz.strings_TrimPrefix ⟨(Lib.itoa x.v).toArray⟩ ⟨#[45]⟩ W
  rw [hl] at hc1
  unfold nda
  rw [hk, hl]
  generalize (Lib.trimPrefix (Lib.itoa x.v) [45]).toArray = B at *
  generalize (Lib.itoa x.v).toArray = A at *
  clear hT ho
  clear hP hlen hS hn har hk hT1 hl1 hT2 hl2 hl
  generalize x.nm = xn at *
  generalize x.v = xv at *
  generalize x.kc = xc at *
  generalize x.ka = xa at *
  generalize x.fr = xf at *
  generalize x.en = xe at *
  clear x
  have HB0 : Hid (Bs w0 b nd t W #[.int .i64 52, .string xn, .int .i64 xv, .slice xa 0 xc, .int .i64 xf, .int .i64 xe] (W.alloc (.cells #[.int .i64 52, .string xn, .int .i64 xv, .slice xa 0 xc, .int .i64 xf, .int .i64 xe] 53))) := Bs.start HS.out _
  go_enter Tryz.func72, Tryz.ntmps72
  go_wp2_with fail
  refine (HC1.out _ _ (by first | rfl | simp) HB0.out.st).mono ?_
  rintro e w1 ⟨rfl, hE⟩
  have HB1 : Hid (Bs w0 b nd T1 W #[.int .i64 52, .string xn, .int .i64 xv, .slice xa 0 xc, .int .i64 xf, .int .i64 xe] w1) := HB0.out.put hE
  clear hE
  obtain ⟨d10, d11, d12, d13, d14, d15⟩ := box6 HB1.out.bx
  go_wp2_with fail
  refine (HF.out _ HB1.out.st.bl).mono ?_
  rintro e w2 ⟨rfl, hb⟩
  have HB2 : Hid (Bs w0 b nd T1 W #[.int .i64 52, .string xn, .int .i64 xv, .slice xa 0 xc, .int .i64 xf, .int .i64 xe] w2) := HB1.out.later hb
  clear hb
  obtain ⟨d20, d21, d22, d23, d24, d25⟩ := box6 HB2.out.bx
  go_wp2_with fail
  refine (HG.out _).mono ?_
  rintro e wz ⟨rfl, hw⟩
  subst wz
  go_wp2_with fail
  refine (HC2.out _ _ (by first | rfl | simp) HB2.out.st).mono ?_
  rintro e w3 ⟨rfl, hE⟩
  have HB3 : Hid (Bs w0 b nd T2 W #[.int .i64 52, .string xn, .int .i64 xv, .slice xa 0 xc, .int .i64 xf, .int .i64 xe] w3) := HB2.out.put hE
  clear hE
  have HE : Hid (PoS w0 b nd T2 W w3) := HB3.out.pos
  clear HB3
  go_wp2
  go_end0
  exact ⟨rfl, HE.out⟩
set_option maxRecDepth 100000 in
set_option maxHeartbeats 4000000 in
theorem pr_52b (w0 : World) (b : Nat) (nd : Value) (l : List Nd) (nt : Nat → Tks) (K : Nat) (hP : Puts w0 b nd l nt K 3) (x : Nd) (hk : x.k = 52) (hn : NdK w0 K x) (hT : Tm w0) (ho : okN w0 x) (hv : ¬ x.v < 0) : PrF w0 b nd l nt 72 x (prtK l x 52) := by
  intro t W hS hlen
  have har : arB 52 x.ks.length = true := by have := hn.ar; rw [hk] at this; exact this
  have hl : x.ks.length = 0 := by simpa [arB] using har
  have hE0 : run t (psT nt l (prtK l x 52)) = run (t) (psT nt l [.s ⟨(Lib.trimPrefix (Lib.itoa x.v) [45]).toArray⟩]) := by
    show run t (psT nt l ((if x.v < 0 then [.s ⟨#[45]⟩] else []) ++ _)) = _
    rw [if_neg hv]
    rfl
  rw [hE0] at hlen ⊢
  clear hE0
  obtain ⟨T1, hT1⟩ : ∃ T, run t (psT nt l [.s ⟨(Lib.trimPrefix (Lib.itoa x.v) [45]).toArray⟩]) = T := ⟨_, rfl⟩
  rw [hT1] at hlen ⊢
  have hl1 : T1.length ≤ 140737488355328 := hlen
  have HC1 : Hid (∀ W g, g = W.heap.size → St w0 b nd t W → Calls Tryz.prog 26 #[.pointer (some ⟨b, 0, none⟩), .slice (some ⟨g, 0, none⟩) 1 1] (W.alloc (.cells #[.iface 9 (.string ⟨(Lib.trimPrefix (Lib.itoa x.v) [45]).toArray⟩)] 20)) fun e w' => e = .returned (.tuple #[]) ∧ PoS w0 b nd T1 W w') := put_hc hP [.s ⟨(Lib.trimPrefix (Lib.itoa x.v) [45]).toArray⟩] (by simp) (all_1 (⟨by simp [Pt.rk], trivial⟩)) 1 rfl _ rfl t T1 hT1 hl1
  have HS : Hid (St w0 b nd t W) := hS
  have hc1 := hn.ks.1
  have hc2 := hn.ks.2.1
  have HF : Hid (∀ W, Below w0.heap.size w0 W → Calls Tryz.prog 81 #[.int .i64 x.v, .int .i64 10] W fun e w' => e = .returned (.string ⟨(Lib.itoa x.v).toArray⟩) ∧ Below W.heap.size W w') := fun W hW => fmt81 x.v ho.v0 ho.v1 W (hT.below hW)
  have HG : Hid (∀ W, Calls Tryz.prog 97 #[.string ⟨(Lib.itoa x.v).toArray⟩, .string ⟨#[45]⟩] W fun e w' => e = .returned (.string ⟨(Lib.trimPrefix (Lib.itoa x.v) [45]).toArray⟩) ∧ w' = W) := fun W => Tryz.strings_TrimPrefix ⟨(Lib.itoa x.v).toArray⟩ ⟨#[45]⟩ W
  rw [hl] at hc1
  unfold nda
  rw [hk, hl]
  generalize (Lib.trimPrefix (Lib.itoa x.v) [45]).toArray = B at *
  generalize (Lib.itoa x.v).toArray = A at *
  clear hT ho
  clear hP hlen hS hn har hk hT1 hl1 hl
  generalize x.nm = xn at *
  generalize x.v = xv at *
  generalize x.kc = xc at *
  generalize x.ka = xa at *
  generalize x.fr = xf at *
  generalize x.en = xe at *
  clear x
  have HB0 : Hid (Bs w0 b nd t W #[.int .i64 52, .string xn, .int .i64 xv, .slice xa 0 xc, .int .i64 xf, .int .i64 xe] (W.alloc (.cells #[.int .i64 52, .string xn, .int .i64 xv, .slice xa 0 xc, .int .i64 xf, .int .i64 xe] 53))) := Bs.start HS.out _
  go_enter Tryz.func72, Tryz.ntmps72
  go_wp2_with fail
  refine (HF.out _ HB0.out.st.bl).mono ?_
  rintro e w1 ⟨rfl, hb⟩
  have HB1 : Hid (Bs w0 b nd t W #[.int .i64 52, .string xn, .int .i64 xv, .slice xa 0 xc, .int .i64 xf, .int .i64 xe] w1) := HB0.out.later hb
  clear hb
  obtain ⟨d10, d11, d12, d13, d14, d15⟩ := box6 HB1.out.bx
  go_wp2_with fail
  refine (HG.out _).mono ?_
  rintro e wz ⟨rfl, hw⟩
  subst wz
  go_wp2_with fail
  refine (HC1.out _ _ (by first | rfl | simp) HB1.out.st).mono ?_
  rintro e w2 ⟨rfl, hE⟩
  have HB2 : Hid (Bs w0 b nd T1 W #[.int .i64 52, .string xn, .int .i64 xv, .slice xa 0 xc, .int .i64 xf, .int .i64 xe] w2) := HB1.out.put hE
  clear hE
  have HE : Hid (PoS w0 b nd T1 W w2) := HB2.out.pos
  clear HB2
  go_wp2
  go_end0
  exact ⟨rfl, HE.out⟩
end
end Go.Proofs.YtkkmeogehapjoaaGreatDoor
