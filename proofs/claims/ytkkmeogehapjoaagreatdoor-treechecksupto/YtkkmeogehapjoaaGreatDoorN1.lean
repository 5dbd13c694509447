/- Types put. Expressions put. Patterns put. -/
import Derived.Test.YtkkmeogehapjoaaGreatDoorNY
namespace Go.Proofs.YtkkmeogehapjoaaGreatDoor
section
open Go.RowKit Go.Shelf
set_option maxRecDepth 100000 in
set_option maxHeartbeats 4000000 in
theorem pr_10 (w0 : World) (b : Nat) (nd : Value) (l : List Nd) (nt : Nat → Tks) (K : Nat) (hP : Puts w0 b nd l nt K 3) (x : Nd) (hk : x.k = 10) (hn : NdK w0 K x) : PrF w0 b nd l nt 71 x (prtK l x 10) := by
  intro t W hS hlen
  have har : arB 10 x.ks.length = true := by have := hn.ar; rw [hk] at this; exact this
  have hl : x.ks.length = 0 := by simpa [arB] using har
  obtain ⟨T, hT⟩ : ∃ T, run t (psT nt l (prtK l x 10)) = T := ⟨_, rfl⟩
  rw [hT] at hlen ⊢
  have HC : Hid (∀ W g, g = W.heap.size → St w0 b nd t W → Calls Tryz.prog 26 #[.pointer (some ⟨b, 0, none⟩), .slice (some ⟨g, 0, none⟩) 1 1] (W.alloc (.cells #[.iface 9 (.string ⟨#[105, 54, 52]⟩)] 20)) fun e w' => e = .returned (.tuple #[]) ∧ PoS w0 b nd T W w') := put_hc hP [.s ⟨#[105, 54, 52]⟩] (by simp) (all_1 (⟨by simp [Pt.rk], trivial⟩)) 1 rfl _ rfl t T hT hlen
  have HS : Hid (St w0 b nd t W) := hS
  have hc1 := hn.ks.1
  have hc2 := hn.ks.2.1
  rw [hl] at hc1
  unfold nda
  rw [hk, hl]
  clear hP hlen hS hn har hT hk hl
  generalize x.nm = xn at *
  generalize x.v = xv at *
  generalize x.kc = xc at *
  generalize x.ka = xa at *
  generalize x.fr = xf at *
  generalize x.en = xe at *
  clear x
  go_enter Tryz.func71, Tryz.ntmps71
  go_wp2_with fail
  refine (HC.out (W.alloc _) _ (by simp) (HS.out.alloc _)).mono ?_
  rintro e w' ⟨rfl, hE⟩
  have HE : Hid (PoS w0 b nd T W w') := hE.of_alloc
  clear hE
  go_wp2
  go_end0
  exact ⟨rfl, HE.out⟩
set_option maxRecDepth 100000 in
set_option maxHeartbeats 4000000 in
theorem pr_11 (w0 : World) (b : Nat) (nd : Value) (l : List Nd) (nt : Nat → Tks) (K : Nat) (hP : Puts w0 b nd l nt K 3) (x : Nd) (hk : x.k = 11) (hn : NdK w0 K x) : PrF w0 b nd l nt 71 x (prtK l x 11) := by
  intro t W hS hlen
  have har : arB 11 x.ks.length = true := by have := hn.ar; rw [hk] at this; exact this
  have hl : x.ks.length = 0 := by simpa [arB] using har
  obtain ⟨T, hT⟩ : ∃ T, run t (psT nt l (prtK l x 11)) = T := ⟨_, rfl⟩
  rw [hT] at hlen ⊢
  have HC : Hid (∀ W g, g = W.heap.size → St w0 b nd t W → Calls Tryz.prog 26 #[.pointer (some ⟨b, 0, none⟩), .slice (some ⟨g, 0, none⟩) 1 1] (W.alloc (.cells #[.iface 9 (.string ⟨#[98, 111, 111, 108]⟩)] 20)) fun e w' => e = .returned (.tuple #[]) ∧ PoS w0 b nd T W w') := put_hc hP [.s ⟨#[98, 111, 111, 108]⟩] (by simp) (all_1 (⟨by simp [Pt.rk], trivial⟩)) 1 rfl _ rfl t T hT hlen
  have HS : Hid (St w0 b nd t W) := hS
  have hc1 := hn.ks.1
  have hc2 := hn.ks.2.1
  rw [hl] at hc1
  unfold nda
  rw [hk, hl]
  clear hP hlen hS hn har hT hk hl
  generalize x.nm = xn at *
  generalize x.v = xv at *
  generalize x.kc = xc at *
  generalize x.ka = xa at *
  generalize x.fr = xf at *
  generalize x.en = xe at *
  clear x
  go_enter Tryz.func71, Tryz.ntmps71
  go_wp2_with fail
  refine (HC.out (W.alloc _) _ (by simp) (HS.out.alloc _)).mono ?_
  rintro e w' ⟨rfl, hE⟩
  have HE : Hid (PoS w0 b nd T W w') := hE.of_alloc
  clear hE
  go_wp2
  go_end0
  exact ⟨rfl, HE.out⟩
set_option maxRecDepth 100000 in
set_option maxHeartbeats 4000000 in
theorem pr_12 (w0 : World) (b : Nat) (nd : Value) (l : List Nd) (nt : Nat → Tks) (K : Nat) (hP : Puts w0 b nd l nt K 3) (x : Nd) (hk : x.k = 12) (hn : NdK w0 K x) : PrF w0 b nd l nt 71 x (prtK l x 12) := by
  intro t W hS hlen
  have har : arB 12 x.ks.length = true := by have := hn.ar; rw [hk] at this; exact this
  have hl : x.ks.length = 0 := by simpa [arB] using har
  obtain ⟨T, hT⟩ : ∃ T, run t (psT nt l (prtK l x 12)) = T := ⟨_, rfl⟩
  rw [hT] at hlen ⊢
  have HC : Hid (∀ W g, g = W.heap.size → St w0 b nd t W → Calls Tryz.prog 26 #[.pointer (some ⟨b, 0, none⟩), .slice (some ⟨g, 0, none⟩) 2 2] (W.alloc (.cells #[.iface 9 (.string ⟨#[40]⟩), .iface 9 (.string ⟨#[41]⟩)] 20)) fun e w' => e = .returned (.tuple #[]) ∧ PoS w0 b nd T W w') := put_hc hP [.s ⟨#[40]⟩, .s ⟨#[41]⟩] (by simp) (all_2 (⟨by simp [Pt.rk], trivial⟩) (⟨by simp [Pt.rk], trivial⟩)) 2 rfl _ rfl t T hT hlen
  have HS : Hid (St w0 b nd t W) := hS
  have hc1 := hn.ks.1
  have hc2 := hn.ks.2.1
  rw [hl] at hc1
  unfold nda
  rw [hk, hl]
  clear hP hlen hS hn har hT hk hl
  generalize x.nm = xn at *
  generalize x.v = xv at *
  generalize x.kc = xc at *
  generalize x.ka = xa at *
  generalize x.fr = xf at *
  generalize x.en = xe at *
  clear x
  go_enter Tryz.func71, Tryz.ntmps71
  go_wp2_with fail
  refine (HC.out (W.alloc _) _ (by simp) (HS.out.alloc _)).mono ?_
  rintro e w' ⟨rfl, hE⟩
  have HE : Hid (PoS w0 b nd T W w') := hE.of_alloc
  clear hE
  go_wp2
  go_end0
  exact ⟨rfl, HE.out⟩
set_option maxRecDepth 100000 in
set_option maxHeartbeats 4000000 in
theorem pr_13 (w0 : World) (b : Nat) (nd : Value) (l : List Nd) (nt : Nat → Tks) (K : Nat) (hP : Puts w0 b nd l nt K 3) (x : Nd) (hk : x.k = 13) (hn : NdK w0 K x) : PrF w0 b nd l nt 71 x (prtK l x 13) := by
  intro t W hS hlen
  have har : arB 13 x.ks.length = true := by have := hn.ar; rw [hk] at this; exact this
  have hl : x.ks.length = 0 := by simpa [arB] using har
  obtain ⟨T, hT⟩ : ∃ T, run t (psT nt l (prtK l x 13)) = T := ⟨_, rfl⟩
  rw [hT] at hlen ⊢
  have HC : Hid (∀ W g, g = W.heap.size → St w0 b nd t W → Calls Tryz.prog 26 #[.pointer (some ⟨b, 0, none⟩), .slice (some ⟨g, 0, none⟩) 1 1] (W.alloc (.cells #[.iface 9 (.string x.nm)] 20)) fun e w' => e = .returned (.tuple #[]) ∧ PoS w0 b nd T W w') := put_hc hP [.s x.nm] (by simp) (all_1 (⟨by simp [Pt.rk], trivial⟩)) 1 rfl _ rfl t T hT hlen
  have HS : Hid (St w0 b nd t W) := hS
  have hc1 := hn.ks.1
  have hc2 := hn.ks.2.1
  rw [hl] at hc1
  unfold nda
  rw [hk, hl]
  clear hP hlen hS hn har hT hk hl
  generalize x.nm = xn at *
  generalize x.v = xv at *
  generalize x.kc = xc at *
  generalize x.ka = xa at *
  generalize x.fr = xf at *
  generalize x.en = xe at *
  clear x
  go_enter Tryz.func71, Tryz.ntmps71
  go_wp2_with fail
  refine (HC.out (W.alloc _) _ (by simp) (HS.out.alloc _)).mono ?_
  rintro e w' ⟨rfl, hE⟩
  have HE : Hid (PoS w0 b nd T W w') := hE.of_alloc
  clear hE
  go_wp2
  go_end0
  exact ⟨rfl, HE.out⟩
set_option maxRecDepth 100000 in
set_option maxHeartbeats 4000000 in
theorem pr_14 (w0 : World) (b : Nat) (nd : Value) (l : List Nd) (nt : Nat → Tks) (K : Nat) (hP : Puts w0 b nd l nt K 3) (x : Nd) (hk : x.k = 14) (hn : NdK w0 K x) : PrF w0 b nd l nt 71 x (prtK l x 14) := by
  intro t W hS hlen
  have har : arB 14 x.ks.length = true := by have := hn.ar; rw [hk] at this; exact this
  have hl : x.ks.length = 1 := by simpa [arB] using har
  obtain ⟨T, hT⟩ : ∃ T, run t (psT nt l (prtK l x 14)) = T := ⟨_, rfl⟩
  rw [hT] at hlen ⊢
  have HC : Hid (∀ W g, g = W.heap.size → St w0 b nd t W → Calls Tryz.prog 26 #[.pointer (some ⟨b, 0, none⟩), .slice (some ⟨g, 0, none⟩) 2 2] (W.alloc (.cells #[.iface 9 (.string ⟨#[38]⟩), .iface 3 (.int .i64 (kidN x 0 : Nat))] 20)) fun e w' => e = .returned (.tuple #[]) ∧ PoS w0 b nd T W w') := put_hc hP [.s ⟨#[38]⟩, .n (kidN x 0)] (by simp) (all_2 (⟨by simp [Pt.rk], trivial⟩) (⟨by simp [Pt.rk], hn.kid 0 (by omega)⟩)) 2 rfl _ rfl t T hT hlen
  have HS : Hid (St w0 b nd t W) := hS
  obtain ⟨g0, o0, hka, hcell⟩ := hn.addr (by omega)
  have r0 : ∀ o, (W.alloc o).cell? ⟨g0, o0, none⟩ = some (.int .i64 (kidN x 0 : Nat)) := fun o => hcell _ (hS.alloc o).bl 0 (by omega)
  have hc1 := hn.ks.1
  have hc2 := hn.ks.2.1
  rw [hl] at hc1
  unfold nda
  rw [hk, hl, hka]
  clear hP hlen hS hn har hT hk hcell hka hl
  generalize kidN x 0 = q0 at *
  generalize x.nm = xn at *
  generalize x.v = xv at *
  generalize x.kc = xc at *
  generalize x.ka = xa at *
  generalize x.fr = xf at *
  generalize x.en = xe at *
  clear x
  go_enter Tryz.func71, Tryz.ntmps71
  go_wp2_with fail
  refine (HC.out (W.alloc _) _ (by simp) (HS.out.alloc _)).mono ?_
  rintro e w' ⟨rfl, hE⟩
  have HE : Hid (PoS w0 b nd T W w') := hE.of_alloc
  clear hE
  go_wp2
  go_end0
  exact ⟨rfl, HE.out⟩
set_option maxRecDepth 100000 in
set_option maxHeartbeats 4000000 in
theorem pr_15 (w0 : World) (b : Nat) (nd : Value) (l : List Nd) (nt : Nat → Tks) (K : Nat) (hP : Puts w0 b nd l nt K 3) (x : Nd) (hk : x.k = 15) (hn : NdK w0 K x) : PrF w0 b nd l nt 71 x (prtK l x 15) := by
  intro t W hS hlen
  have har : arB 15 x.ks.length = true := by have := hn.ar; rw [hk] at this; exact this
  have hl : x.ks.length = 1 := by simpa [arB] using har
  obtain ⟨T, hT⟩ : ∃ T, run t (psT nt l (prtK l x 15)) = T := ⟨_, rfl⟩
  rw [hT] at hlen ⊢
  have HC : Hid (∀ W g, g = W.heap.size → St w0 b nd t W → Calls Tryz.prog 26 #[.pointer (some ⟨b, 0, none⟩), .slice (some ⟨g, 0, none⟩) 3 3] (W.alloc (.cells #[.iface 9 (.string ⟨#[38]⟩), .iface 9 (.string ⟨#[109, 117, 116]⟩), .iface 3 (.int .i64 (kidN x 0 : Nat))] 20)) fun e w' => e = .returned (.tuple #[]) ∧ PoS w0 b nd T W w') := put_hc hP [.s ⟨#[38]⟩, .s ⟨#[109, 117, 116]⟩, .n (kidN x 0)] (by simp) (all_3 (⟨by simp [Pt.rk], trivial⟩) (⟨by simp [Pt.rk], trivial⟩) (⟨by simp [Pt.rk], hn.kid 0 (by omega)⟩)) 3 rfl _ rfl t T hT hlen
  have HS : Hid (St w0 b nd t W) := hS
  obtain ⟨g0, o0, hka, hcell⟩ := hn.addr (by omega)
  have r0 : ∀ o, (W.alloc o).cell? ⟨g0, o0, none⟩ = some (.int .i64 (kidN x 0 : Nat)) := fun o => hcell _ (hS.alloc o).bl 0 (by omega)
  have hc1 := hn.ks.1
  have hc2 := hn.ks.2.1
  rw [hl] at hc1
  unfold nda
  rw [hk, hl, hka]
  clear hP hlen hS hn har hT hk hcell hka hl
  generalize kidN x 0 = q0 at *
  generalize x.nm = xn at *
  generalize x.v = xv at *
  generalize x.kc = xc at *
  generalize x.ka = xa at *
  generalize x.fr = xf at *
  generalize x.en = xe at *
  clear x
  go_enter Tryz.func71, Tryz.ntmps71
  go_wp2_with fail
  refine (HC.out (W.alloc _) _ (by simp) (HS.out.alloc _)).mono ?_
  rintro e w' ⟨rfl, hE⟩
  have HE : Hid (PoS w0 b nd T W w') := hE.of_alloc
  clear hE
  go_wp2
  go_end0
  exact ⟨rfl, HE.out⟩
set_option maxRecDepth 100000 in
set_option maxHeartbeats 4000000 in
theorem pr_16 (w0 : World) (b : Nat) (nd : Value) (l : List Nd) (nt : Nat → Tks) (K : Nat) (hP : Puts w0 b nd l nt K 3) (x : Nd) (hk : x.k = 16) (hn : NdK w0 K x) : PrF w0 b nd l nt 71 x (prtK l x 16) := by
  intro t W hS hlen
  have har : arB 16 x.ks.length = true := by have := hn.ar; rw [hk] at this; exact this
  have hl : x.ks.length = 1 := by simpa [arB] using har
  obtain ⟨T, hT⟩ : ∃ T, run t (psT nt l (prtK l x 16)) = T := ⟨_, rfl⟩
  rw [hT] at hlen ⊢
  have HC : Hid (∀ W g, g = W.heap.size → St w0 b nd t W → Calls Tryz.prog 26 #[.pointer (some ⟨b, 0, none⟩), .slice (some ⟨g, 0, none⟩) 4 4] (W.alloc (.cells #[.iface 9 (.string ⟨#[66, 111, 120]⟩), .iface 9 (.string ⟨#[60]⟩), .iface 3 (.int .i64 (kidN x 0 : Nat)), .iface 9 (.string ⟨#[62]⟩)] 20)) fun e w' => e = .returned (.tuple #[]) ∧ PoS w0 b nd T W w') := put_hc hP [.s ⟨#[66, 111, 120]⟩, .s ⟨#[60]⟩, .n (kidN x 0), .s ⟨#[62]⟩] (by simp) (all_4 (⟨by simp [Pt.rk], trivial⟩) (⟨by simp [Pt.rk], trivial⟩) (⟨by simp [Pt.rk], hn.kid 0 (by omega)⟩) (⟨by simp [Pt.rk], trivial⟩)) 4 rfl _ rfl t T hT hlen
  have HS : Hid (St w0 b nd t W) := hS
  obtain ⟨g0, o0, hka, hcell⟩ := hn.addr (by omega)
  have r0 : ∀ o, (W.alloc o).cell? ⟨g0, o0, none⟩ = some (.int .i64 (kidN x 0 : Nat)) := fun o => hcell _ (hS.alloc o).bl 0 (by omega)
  have hc1 := hn.ks.1
  have hc2 := hn.ks.2.1
  rw [hl] at hc1
  unfold nda
  rw [hk, hl, hka]
  clear hP hlen hS hn har hT hk hcell hka hl
  generalize kidN x 0 = q0 at *
  generalize x.nm = xn at *
  generalize x.v = xv at *
  generalize x.kc = xc at *
  generalize x.ka = xa at *
  generalize x.fr = xf at *
  generalize x.en = xe at *
  clear x
  go_enter Tryz.func71, Tryz.ntmps71
  go_wp2_with fail
  refine (HC.out (W.alloc _) _ (by simp) (HS.out.alloc _)).mono ?_
  rintro e w' ⟨rfl, hE⟩
  have HE : Hid (PoS w0 b nd T W w') := hE.of_alloc
  clear hE
  go_wp2
  go_end0
  exact ⟨rfl, HE.out⟩
end
section
open Go.RowKit Go.Shelf
set_option maxRecDepth 100000 in
set_option maxHeartbeats 4000000 in
theorem pr_20 (w0 : World) (b : Nat) (nd : Value) (l : List Nd) (nt : Nat → Tks) (K : Nat) (hP : Puts w0 b nd l nt K 3) (x : Nd) (hk : x.k = 20) (hn : NdK w0 K x) : PrF w0 b nd l nt 69 x (prtK l x 20) := by
  intro t W hS hlen
  have har : arB 20 x.ks.length = true := by have := hn.ar; rw [hk] at this; exact this
  obtain ⟨T, hT⟩ : ∃ T, run t (psT nt l (prtK l x 20)) = T := ⟨_, rfl⟩
  rw [hT] at hlen ⊢
  have HC : Hid (∀ W g, g = W.heap.size → St w0 b nd t W → Calls Tryz.prog 26 #[.pointer (some ⟨b, 0, none⟩), .slice (some ⟨g, 0, none⟩) 3 3] (W.alloc (.cells #[.iface 9 (.string ⟨#[123]⟩), .iface 87 (.slice x.ka x.ks.length x.kc), .iface 9 (.string ⟨#[125]⟩)] 20)) fun e w' => e = .returned (.tuple #[]) ∧ PoS w0 b nd T W w') := put_hc hP [.s ⟨#[123]⟩, .ea x.ka x.kc x.ks, .s ⟨#[125]⟩] (by simp) (all_3 (⟨by simp [Pt.rk], trivial⟩) (⟨by simp [Pt.rk], hn.ks, hn.hin⟩) (⟨by simp [Pt.rk], trivial⟩)) 3 rfl _ rfl t T hT hlen
  have HS : Hid (St w0 b nd t W) := hS
  have hc1 := hn.ks.1
  have hc2 := hn.ks.2.1
  unfold nda
  rw [hk]
  clear hP hlen hS hn har hT hk
  generalize x.ks.length = xl at *
  generalize x.nm = xn at *
  generalize x.v = xv at *
  generalize x.kc = xc at *
  generalize x.ka = xa at *
  generalize x.fr = xf at *
  generalize x.en = xe at *
  clear x
  go_enter Tryz.func69, Tryz.ntmps69
  go_wp2_with fail
  refine (HC.out (W.alloc _) _ (by simp) (HS.out.alloc _)).mono ?_
  rintro e w' ⟨rfl, hE⟩
  have HE : Hid (PoS w0 b nd T W w') := hE.of_alloc
  clear hE
  go_wp2
  go_end0
  exact ⟨rfl, HE.out⟩
set_option maxRecDepth 100000 in
set_option maxHeartbeats 4000000 in
theorem pr_31 (w0 : World) (b : Nat) (nd : Value) (l : List Nd) (nt : Nat → Tks) (K : Nat) (hP : Puts w0 b nd l nt K 3) (x : Nd) (hk : x.k = 31) (hn : NdK w0 K x) : PrF w0 b nd l nt 69 x (prtK l x 31) := by
  intro t W hS hlen
  have har : arB 31 x.ks.length = true := by have := hn.ar; rw [hk] at this; exact this
  have hl : x.ks.length = 0 := by simpa [arB] using har
  have hE0 : run t (psT nt l (prtK l x 31)) = run (t) (psT nt l [.s (truS x.v)]) := by
    rfl
  rw [hE0] at hlen ⊢
  clear hE0
  obtain ⟨T1, hT1⟩ : ∃ T, run t (psT nt l [.s (truS x.v)]) = T := ⟨_, rfl⟩
  rw [hT1] at hlen ⊢
  have hl1 : T1.length ≤ 140737488355328 := hlen
  have HC1 : Hid (∀ W g, g = W.heap.size → St w0 b nd t W → Calls Tryz.prog 26 #[.pointer (some ⟨b, 0, none⟩), .slice (some ⟨g, 0, none⟩) 1 1] (W.alloc (.cells #[.iface 9 (.string (truS x.v))] 20)) fun e w' => e = .returned (.tuple #[]) ∧ PoS w0 b nd T1 W w') := put_hc hP [.s (truS x.v)] (by simp) (all_1 (⟨by simp [Pt.rk], trivial⟩)) 1 rfl _ rfl t T1 hT1 hl1
  have HS : Hid (St w0 b nd t W) := hS
  have hc1 := hn.ks.1
  have hc2 := hn.ks.2.1
  rw [hl] at hc1
  unfold nda
  rw [hk, hl]
  clear hP hlen hS hn har hk hT1 hl1 hl
  generalize x.nm = xn at *
  generalize x.v = xv at *
  generalize x.kc = xc at *
  generalize x.ka = xa at *
  generalize x.fr = xf at *
  generalize x.en = xe at *
  clear x
  have HB0 : Hid (Bs w0 b nd t W #[.int .i64 31, .string xn, .int .i64 xv, .slice xa 0 xc, .int .i64 xf, .int .i64 xe] (W.alloc (.cells #[.int .i64 31, .string xn, .int .i64 xv, .slice xa 0 xc, .int .i64 xf, .int .i64 xe] 53))) := Bs.start HS.out _
  go_enter Tryz.func69, Tryz.ntmps69
  go_wp2_with fail
  refine (truth93 _ _ _ _ _ _ _).mono ?_
  rintro e w1 ⟨rfl, hb⟩
  have HB1 : Hid (Bs w0 b nd t W #[.int .i64 31, .string xn, .int .i64 xv, .slice xa 0 xc, .int .i64 xf, .int .i64 xe] w1) := HB0.out.later hb
  clear hb
  obtain ⟨d10, d11, d12, d13, d14, d15⟩ := box6 HB1.out.bx
  go_wp2_with fail
  refine (HC1.out _ _ (by first | rfl | simp) HB1.out.st).mono ?_
  rintro e w2 ⟨rfl, hE⟩
  have HB2 : Hid (Bs w0 b nd T1 W #[.int .i64 31, .string xn, .int .i64 xv, .slice xa 0 xc, .int .i64 xf, .int .i64 xe] w2) := HB1.out.put hE
  clear hE
  have HE : Hid (PoS w0 b nd T1 W w2) := HB2.out.pos
  clear HB2
  go_wp2
  go_end0
  exact ⟨rfl, HE.out⟩
set_option maxRecDepth 100000 in
set_option maxHeartbeats 4000000 in
theorem pr_32 (w0 : World) (b : Nat) (nd : Value) (l : List Nd) (nt : Nat → Tks) (K : Nat) (hP : Puts w0 b nd l nt K 3) (x : Nd) (hk : x.k = 32) (hn : NdK w0 K x) : PrF w0 b nd l nt 69 x (prtK l x 32) := by
  intro t W hS hlen
  have har : arB 32 x.ks.length = true := by have := hn.ar; rw [hk] at this; exact this
  have hl : x.ks.length = 0 := by simpa [arB] using har
  obtain ⟨T, hT⟩ : ∃ T, run t (psT nt l (prtK l x 32)) = T := ⟨_, rfl⟩
  rw [hT] at hlen ⊢
  have HC : Hid (∀ W g, g = W.heap.size → St w0 b nd t W → Calls Tryz.prog 26 #[.pointer (some ⟨b, 0, none⟩), .slice (some ⟨g, 0, none⟩) 2 2] (W.alloc (.cells #[.iface 9 (.string ⟨#[40]⟩), .iface 9 (.string ⟨#[41]⟩)] 20)) fun e w' => e = .returned (.tuple #[]) ∧ PoS w0 b nd T W w') := put_hc hP [.s ⟨#[40]⟩, .s ⟨#[41]⟩] (by simp) (all_2 (⟨by simp [Pt.rk], trivial⟩) (⟨by simp [Pt.rk], trivial⟩)) 2 rfl _ rfl t T hT hlen
  have HS : Hid (St w0 b nd t W) := hS
  have hc1 := hn.ks.1
  have hc2 := hn.ks.2.1
  rw [hl] at hc1
  unfold nda
  rw [hk, hl]
  clear hP hlen hS hn har hT hk hl
  generalize x.nm = xn at *
  generalize x.v = xv at *
  generalize x.kc = xc at *
  generalize x.ka = xa at *
  generalize x.fr = xf at *
  generalize x.en = xe at *
  clear x
  go_enter Tryz.func69, Tryz.ntmps69
  go_wp2_with fail
  refine (HC.out (W.alloc _) _ (by simp) (HS.out.alloc _)).mono ?_
  rintro e w' ⟨rfl, hE⟩
  have HE : Hid (PoS w0 b nd T W w') := hE.of_alloc
  clear hE
  go_wp2
  go_end0
  exact ⟨rfl, HE.out⟩
set_option maxRecDepth 100000 in
set_option maxHeartbeats 4000000 in
theorem pr_33 (w0 : World) (b : Nat) (nd : Value) (l : List Nd) (nt : Nat → Tks) (K : Nat) (hP : Puts w0 b nd l nt K 3) (x : Nd) (hk : x.k = 33) (hn : NdK w0 K x) : PrF w0 b nd l nt 69 x (prtK l x 33) := by
  intro t W hS hlen
  have har : arB 33 x.ks.length = true := by have := hn.ar; rw [hk] at this; exact this
  have hl : x.ks.length = 0 := by simpa [arB] using har
  obtain ⟨T, hT⟩ : ∃ T, run t (psT nt l (prtK l x 33)) = T := ⟨_, rfl⟩
  rw [hT] at hlen ⊢
  have HC : Hid (∀ W g, g = W.heap.size → St w0 b nd t W → Calls Tryz.prog 26 #[.pointer (some ⟨b, 0, none⟩), .slice (some ⟨g, 0, none⟩) 1 1] (W.alloc (.cells #[.iface 9 (.string x.nm)] 20)) fun e w' => e = .returned (.tuple #[]) ∧ PoS w0 b nd T W w') := put_hc hP [.s x.nm] (by simp) (all_1 (⟨by simp [Pt.rk], trivial⟩)) 1 rfl _ rfl t T hT hlen
  have HS : Hid (St w0 b nd t W) := hS
  have hc1 := hn.ks.1
  have hc2 := hn.ks.2.1
  rw [hl] at hc1
  unfold nda
  rw [hk, hl]
  clear hP hlen hS hn har hT hk hl
  generalize x.nm = xn at *
  generalize x.v = xv at *
  generalize x.kc = xc at *
  generalize x.ka = xa at *
  generalize x.fr = xf at *
  generalize x.en = xe at *
  clear x
  go_enter Tryz.func69, Tryz.ntmps69
  go_wp2_with fail
  refine (HC.out (W.alloc _) _ (by simp) (HS.out.alloc _)).mono ?_
  rintro e w' ⟨rfl, hE⟩
  have HE : Hid (PoS w0 b nd T W w') := hE.of_alloc
  clear hE
  go_wp2
  go_end0
  exact ⟨rfl, HE.out⟩
set_option maxRecDepth 100000 in
set_option maxHeartbeats 4000000 in
theorem pr_34 (w0 : World) (b : Nat) (nd : Value) (l : List Nd) (nt : Nat → Tks) (K : Nat) (hP : Puts w0 b nd l nt K 3) (x : Nd) (hk : x.k = 34) (hn : NdK w0 K x) : PrF w0 b nd l nt 69 x (prtK l x 34) := by
  intro t W hS hlen
  have har : arB 34 x.ks.length = true := by have := hn.ar; rw [hk] at this; exact this
  obtain ⟨T, hT⟩ : ∃ T, run t (psT nt l (prtK l x 34)) = T := ⟨_, rfl⟩
  rw [hT] at hlen ⊢
  have HC : Hid (∀ W g, g = W.heap.size → St w0 b nd t W → Calls Tryz.prog 26 #[.pointer (some ⟨b, 0, none⟩), .slice (some ⟨g, 0, none⟩) 4 4] (W.alloc (.cells #[.iface 9 (.string x.nm), .iface 9 (.string ⟨#[40]⟩), .iface 88 (.slice x.ka x.ks.length x.kc), .iface 9 (.string ⟨#[41]⟩)] 20)) fun e w' => e = .returned (.tuple #[]) ∧ PoS w0 b nd T W w') := put_hc hP [.s x.nm, .s ⟨#[40]⟩, .li x.ka x.kc x.ks, .s ⟨#[41]⟩] (by simp) (all_4 (⟨by simp [Pt.rk], trivial⟩) (⟨by simp [Pt.rk], trivial⟩) (⟨by simp [Pt.rk], hn.ks, hn.hin⟩) (⟨by simp [Pt.rk], trivial⟩)) 4 rfl _ rfl t T hT hlen
  have HS : Hid (St w0 b nd t W) := hS
  have hc1 := hn.ks.1
  have hc2 := hn.ks.2.1
  unfold nda
  rw [hk]
  clear hP hlen hS hn har hT hk
  generalize x.ks.length = xl at *
  generalize x.nm = xn at *
  generalize x.v = xv at *
  generalize x.kc = xc at *
  generalize x.ka = xa at *
  generalize x.fr = xf at *
  generalize x.en = xe at *
  clear x
  go_enter Tryz.func69, Tryz.ntmps69
  go_wp2_with fail
  refine (HC.out (W.alloc _) _ (by simp) (HS.out.alloc _)).mono ?_
  rintro e w' ⟨rfl, hE⟩
  have HE : Hid (PoS w0 b nd T W w') := hE.of_alloc
  clear hE
  go_wp2
  go_end0
  exact ⟨rfl, HE.out⟩
set_option maxRecDepth 100000 in
set_option maxHeartbeats 4000000 in
theorem pr_35 (w0 : World) (b : Nat) (nd : Value) (l : List Nd) (nt : Nat → Tks) (K : Nat) (hP : Puts w0 b nd l nt K 3) (x : Nd) (hk : x.k = 35) (hn : NdK w0 K x) : PrF w0 b nd l nt 69 x (prtK l x 35) := by
  intro t W hS hlen
  have har : arB 35 x.ks.length = true := by have := hn.ar; rw [hk] at this; exact this
  obtain ⟨T, hT⟩ : ∃ T, run t (psT nt l (prtK l x 35)) = T := ⟨_, rfl⟩
  rw [hT] at hlen ⊢
  have HC : Hid (∀ W g, g = W.heap.size → St w0 b nd t W → Calls Tryz.prog 26 #[.pointer (some ⟨b, 0, none⟩), .slice (some ⟨g, 0, none⟩) 4 4] (W.alloc (.cells #[.iface 9 (.string x.nm), .iface 9 (.string ⟨#[123]⟩), .iface 88 (.slice x.ka x.ks.length x.kc), .iface 9 (.string ⟨#[125]⟩)] 20)) fun e w' => e = .returned (.tuple #[]) ∧ PoS w0 b nd T W w') := put_hc hP [.s x.nm, .s ⟨#[123]⟩, .li x.ka x.kc x.ks, .s ⟨#[125]⟩] (by simp) (all_4 (⟨by simp [Pt.rk], trivial⟩) (⟨by simp [Pt.rk], trivial⟩) (⟨by simp [Pt.rk], hn.ks, hn.hin⟩) (⟨by simp [Pt.rk], trivial⟩)) 4 rfl _ rfl t T hT hlen
  have HS : Hid (St w0 b nd t W) := hS
  have hc1 := hn.ks.1
  have hc2 := hn.ks.2.1
  unfold nda
  rw [hk]
  clear hP hlen hS hn har hT hk
  generalize x.ks.length = xl at *
  generalize x.nm = xn at *
  generalize x.v = xv at *
  generalize x.kc = xc at *
  generalize x.ka = xa at *
  generalize x.fr = xf at *
  generalize x.en = xe at *
  clear x
  go_enter Tryz.func69, Tryz.ntmps69
  go_wp2_with fail
  refine (HC.out (W.alloc _) _ (by simp) (HS.out.alloc _)).mono ?_
  rintro e w' ⟨rfl, hE⟩
  have HE : Hid (PoS w0 b nd T W w') := hE.of_alloc
  clear hE
  go_wp2
  go_end0
  exact ⟨rfl, HE.out⟩
end
section
open Go.RowKit Go.Shelf
set_option maxRecDepth 100000 in
set_option maxHeartbeats 4000000 in
theorem pr_50 (w0 : World) (b : Nat) (nd : Value) (l : List Nd) (nt : Nat → Tks) (K : Nat) (hP : Puts w0 b nd l nt K 3) (x : Nd) (hk : x.k = 50) (hn : NdK w0 K x) : PrF w0 b nd l nt 72 x (prtK l x 50) := by
  intro t W hS hlen
  have har : arB 50 x.ks.length = true := by have := hn.ar; rw [hk] at this; exact this
  have hl : x.ks.length = 0 := by simpa [arB] using har
  obtain ⟨T, hT⟩ : ∃ T, run t (psT nt l (prtK l x 50)) = T := ⟨_, rfl⟩
  rw [hT] at hlen ⊢
  have HC : Hid (∀ W g, g = W.heap.size → St w0 b nd t W → Calls Tryz.prog 26 #[.pointer (some ⟨b, 0, none⟩), .slice (some ⟨g, 0, none⟩) 1 1] (W.alloc (.cells #[.iface 9 (.string ⟨#[95]⟩)] 20)) fun e w' => e = .returned (.tuple #[]) ∧ PoS w0 b nd T W w') := put_hc hP [.s ⟨#[95]⟩] (by simp) (all_1 (⟨by simp [Pt.rk], trivial⟩)) 1 rfl _ rfl t T hT hlen
  have HS : Hid (St w0 b nd t W) := hS
  have hc1 := hn.ks.1
  have hc2 := hn.ks.2.1
  rw [hl] at hc1
  unfold nda
  rw [hk, hl]
  clear hP hlen hS hn har hT hk hl
  generalize x.nm = xn at *
  generalize x.v = xv at *
  generalize x.kc = xc at *
  generalize x.ka = xa at *
  generalize x.fr = xf at *
  generalize x.en = xe at *
  clear x
  go_enter Tryz.func72, Tryz.ntmps72
  go_wp2_with fail
  refine (HC.out (W.alloc _) _ (by simp) (HS.out.alloc _)).mono ?_
  rintro e w' ⟨rfl, hE⟩
  have HE : Hid (PoS w0 b nd T W w') := hE.of_alloc
  clear hE
  go_wp2
  go_end0
  exact ⟨rfl, HE.out⟩
set_option maxRecDepth 100000 in
set_option maxHeartbeats 4000000 in
theorem pr_51 (w0 : World) (b : Nat) (nd : Value) (l : List Nd) (nt : Nat → Tks) (K : Nat) (hP : Puts w0 b nd l nt K 3) (x : Nd) (hk : x.k = 51) (hn : NdK w0 K x) : PrF w0 b nd l nt 72 x (prtK l x 51) := by
  intro t W hS hlen
  have har : arB 51 x.ks.length = true := by have := hn.ar; rw [hk] at this; exact this
  have hl : x.ks.length = 0 := by simpa [arB] using har
  obtain ⟨T, hT⟩ : ∃ T, run t (psT nt l (prtK l x 51)) = T := ⟨_, rfl⟩
  rw [hT] at hlen ⊢
  have HC : Hid (∀ W g, g = W.heap.size → St w0 b nd t W → Calls Tryz.prog 26 #[.pointer (some ⟨b, 0, none⟩), .slice (some ⟨g, 0, none⟩) 1 1] (W.alloc (.cells #[.iface 9 (.string x.nm)] 20)) fun e w' => e = .returned (.tuple #[]) ∧ PoS w0 b nd T W w') := put_hc hP [.s x.nm] (by simp) (all_1 (⟨by simp [Pt.rk], trivial⟩)) 1 rfl _ rfl t T hT hlen
  have HS : Hid (St w0 b nd t W) := hS
  have hc1 := hn.ks.1
  have hc2 := hn.ks.2.1
  rw [hl] at hc1
  unfold nda
  rw [hk, hl]
  clear hP hlen hS hn har hT hk hl
  generalize x.nm = xn at *
  generalize x.v = xv at *
  generalize x.kc = xc at *
  generalize x.ka = xa at *
  generalize x.fr = xf at *
  generalize x.en = xe at *
  clear x
  go_enter Tryz.func72, Tryz.ntmps72
  go_wp2_with fail
  refine (HC.out (W.alloc _) _ (by simp) (HS.out.alloc _)).mono ?_
  rintro e w' ⟨rfl, hE⟩
  have HE : Hid (PoS w0 b nd T W w') := hE.of_alloc
  clear hE
  go_wp2
  go_end0
  exact ⟨rfl, HE.out⟩
set_option maxRecDepth 100000 in
set_option maxHeartbeats 4000000 in
theorem pr_53 (w0 : World) (b : Nat) (nd : Value) (l : List Nd) (nt : Nat → Tks) (K : Nat) (hP : Puts w0 b nd l nt K 3) (x : Nd) (hk : x.k = 53) (hn : NdK w0 K x) : PrF w0 b nd l nt 72 x (prtK l x 53) := by
  intro t W hS hlen
  have har : arB 53 x.ks.length = true := by have := hn.ar; rw [hk] at this; exact this
  have hl : x.ks.length = 0 := by simpa [arB] using har
  have hE0 : run t (psT nt l (prtK l x 53)) = run (t) (psT nt l [.s (truS x.v)]) := by
    rfl
  rw [hE0] at hlen ⊢
  clear hE0
  obtain ⟨T1, hT1⟩ : ∃ T, run t (psT nt l [.s (truS x.v)]) = T := ⟨_, rfl⟩
  rw [hT1] at hlen ⊢
  have hl1 : T1.length ≤ 140737488355328 := hlen
  have HC1 : Hid (∀ W g, g = W.heap.size → St w0 b nd t W → Calls Tryz.prog 26 #[.pointer (some ⟨b, 0, none⟩), .slice (some ⟨g, 0, none⟩) 1 1] (W.alloc (.cells #[.iface 9 (.string (truS x.v))] 20)) fun e w' => e = .returned (.tuple #[]) ∧ PoS w0 b nd T1 W w') := put_hc hP [.s (truS x.v)] (by simp) (all_1 (⟨by simp [Pt.rk], trivial⟩)) 1 rfl _ rfl t T1 hT1 hl1
  have HS : Hid (St w0 b nd t W) := hS
  have hc1 := hn.ks.1
  have hc2 := hn.ks.2.1
  rw [hl] at hc1
  unfold nda
  rw [hk, hl]
  clear hP hlen hS hn har hk hT1 hl1 hl
  generalize x.nm = xn at *
  generalize x.v = xv at *
  generalize x.kc = xc at *
  generalize x.ka = xa at *
  generalize x.fr = xf at *
  generalize x.en = xe at *
  clear x
  have HB0 : Hid (Bs w0 b nd t W #[.int .i64 53, .string xn, .int .i64 xv, .slice xa 0 xc, .int .i64 xf, .int .i64 xe] (W.alloc (.cells #[.int .i64 53, .string xn, .int .i64 xv, .slice xa 0 xc, .int .i64 xf, .int .i64 xe] 53))) := Bs.start HS.out _
  go_enter Tryz.func72, Tryz.ntmps72
  go_wp2_with fail
  refine (truth93 _ _ _ _ _ _ _).mono ?_
  rintro e w1 ⟨rfl, hb⟩
  have HB1 : Hid (Bs w0 b nd t W #[.int .i64 53, .string xn, .int .i64 xv, .slice xa 0 xc, .int .i64 xf, .int .i64 xe] w1) := HB0.out.later hb
  clear hb
  obtain ⟨d10, d11, d12, d13, d14, d15⟩ := box6 HB1.out.bx
  go_wp2_with fail
  refine (HC1.out _ _ (by first | rfl | simp) HB1.out.st).mono ?_
  rintro e w2 ⟨rfl, hE⟩
  have HB2 : Hid (Bs w0 b nd T1 W #[.int .i64 53, .string xn, .int .i64 xv, .slice xa 0 xc, .int .i64 xf, .int .i64 xe] w2) := HB1.out.put hE
  clear hE
  have HE : Hid (PoS w0 b nd T1 W w2) := HB2.out.pos
  clear HB2
  go_wp2
  go_end0
  exact ⟨rfl, HE.out⟩
end
end Go.Proofs.YtkkmeogehapjoaaGreatDoor
