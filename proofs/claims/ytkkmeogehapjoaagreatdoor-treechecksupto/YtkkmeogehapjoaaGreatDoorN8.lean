/- Borrows, ifs and matches put. Lets put. -/
import Derived.Test.YtkkmeogehapjoaaGreatDoorNY
namespace Go.Proofs.YtkkmeogehapjoaaGreatDoor
section
open Go.RowKit Go.Shelf
set_option maxRecDepth 100000 in
set_option maxHeartbeats 4000000 in
theorem pr_43 (w0 : World) (b : Nat) (nd : Value) (l : List Nd) (nt : Nat → Tks) (K : Nat) (hP : Puts w0 b nd l nt K 3) (x : Nd) (hk : x.k = 43) (hn : NdK w0 K x) : PrF w0 b nd l nt 69 x (prtK l x 43) := by
  intro t W hS hlen
  have har : arB 43 x.ks.length = true := by have := hn.ar; rw [hk] at this; exact this
  have hl : x.ks.length = 1 := by simpa [arB] using har
  have hE0 : run t (psT nt l (prtK l x 43)) = run (t) (psT nt l [.s ⟨#[38]⟩, .s (mutS x.v), .op (kidN x 0)]) := by
    rfl
  rw [hE0] at hlen ⊢
  clear hE0
  obtain ⟨T1, hT1⟩ : ∃ T, run t (psT nt l [.s ⟨#[38]⟩, .s (mutS x.v), .op (kidN x 0)]) = T := ⟨_, rfl⟩
  rw [hT1] at hlen ⊢
  have hl1 : T1.length ≤ 140737488355328 := hlen
  have HC1 : Hid (∀ W g, g = W.heap.size → St w0 b nd t W → Calls Tryz.prog 26 #[.pointer (some ⟨b, 0, none⟩), .slice (some ⟨g, 0, none⟩) 3 3] (W.alloc (.cells #[.iface 9 (.string ⟨#[38]⟩), .iface 9 (.string (mutS x.v)), .iface 90 (.int .i64 (kidN x 0 : Nat))] 20)) fun e w' => e = .returned (.tuple #[]) ∧ PoS w0 b nd T1 W w') := put_hc hP [.s ⟨#[38]⟩, .s (mutS x.v), .op (kidN x 0)] (by simp) (all_3 (⟨by simp [Pt.rk], trivial⟩) (⟨by simp [Pt.rk], trivial⟩) (⟨by simp [Pt.rk], hn.kid 0 (by omega)⟩)) 3 rfl _ rfl t T1 hT1 hl1
  have HS : Hid (St w0 b nd t W) := hS
  obtain ⟨g0, o0, hka, hcell⟩ := hn.addr (by omega)
  have HX : Hid (∀ W, Below w0.heap.size w0 W → W.cell? ⟨g0, o0, none⟩ = some (.int .i64 (kidN x 0 : Nat))) := fun W hW => hcell W hW 0 (by omega)
  have hc1 := hn.ks.1
  have hc2 := hn.ks.2.1
  rw [hl] at hc1
  unfold nda
  rw [hk, hl, hka]
  clear hP hlen hS hn har hk hT1 hl1 hcell hka hl
  generalize kidN x 0 = q0 at *
  generalize x.nm = xn at *
  generalize x.v = xv at *
  generalize x.kc = xc at *
  generalize x.ka = xa at *
  generalize x.fr = xf at *
  generalize x.en = xe at *
  clear x
  have HB0 : Hid (Bs w0 b nd t W #[.int .i64 43, .string xn, .int .i64 xv, .slice (some ⟨g0, o0, none⟩) 1 xc, .int .i64 xf, .int .i64 xe] (W.alloc (.cells #[.int .i64 43, .string xn, .int .i64 xv, .slice (some ⟨g0, o0, none⟩) 1 xc, .int .i64 xf, .int .i64 xe] 53))) := Bs.start HS.out _
  go_enter Tryz.func69, Tryz.ntmps69
  have r00 : (W.alloc (.cells #[.int .i64 43, .string xn, .int .i64 xv, .slice (some ⟨g0, o0, none⟩) 1 xc, .int .i64 xf, .int .i64 xe] 53)).cell? ⟨g0, o0, none⟩ = some (.int .i64 q0) := (HX.out _ HB0.out.st.bl)
  have HK0 : Hid (∀ T w', Bs w0 b nd T W #[.int .i64 43, .string xn, .int .i64 xv, .slice (some ⟨g0, o0, none⟩) 1 xc, .int .i64 xf, .int .i64 xe] w' → w'.cell? ⟨W.heap.size, 0, none⟩ = some (.int .i64 43) ∧ w'.cell? ⟨W.heap.size, 1, none⟩ = some (.string xn) ∧ w'.cell? ⟨W.heap.size, 2, none⟩ = some (.int .i64 xv) ∧ w'.cell? ⟨W.heap.size, 3, none⟩ = some (.slice (some ⟨g0, o0, none⟩) 1 xc) ∧ w'.cell? ⟨W.heap.size, 4, none⟩ = some (.int .i64 xf) ∧ w'.cell? ⟨W.heap.size, 5, none⟩ = some (.int .i64 xe) ∧ w'.cell? ⟨g0, o0, none⟩ = some (.int .i64 q0)) := fun T w' h => ⟨(box6 h.bx).1, (box6 h.bx).2.1, (box6 h.bx).2.2.1, (box6 h.bx).2.2.2.1, (box6 h.bx).2.2.2.2.1, (box6 h.bx).2.2.2.2.2, HX.out _ h.st.bl⟩
  go_wp2
  go_region_held3 (fun w' => w'.cell? ⟨W.heap.size, 0, none⟩ = some (.int .i64 43) ∧ w'.cell? ⟨W.heap.size, 1, none⟩ = some (.string xn) ∧ w'.cell? ⟨W.heap.size, 2, none⟩ = some (.int .i64 xv) ∧ w'.cell? ⟨W.heap.size, 3, none⟩ = some (.slice (some ⟨g0, o0, none⟩) 1 xc) ∧ w'.cell? ⟨W.heap.size, 4, none⟩ = some (.int .i64 xf) ∧ w'.cell? ⟨W.heap.size, 5, none⟩ = some (.int .i64 xe) ∧ w'.cell? ⟨g0, o0, none⟩ = some (.int .i64 q0)) (first | exact HK0.out _ _ HB0.out | exact HK0.out _ _ (HB0.out.later ⟨rfl, rfl, rfl, Nat.le_refl _, fun _ _ => rfl⟩) | exact HK0.out _ _ ((HB0.out.later ((Below.refl _ _).alloc (Nat.le_refl _) _)).later ⟨rfl, rfl, rfl, Nat.le_refl _, fun _ _ => rfl⟩) | exact HK0.out _ _ HB1.out | exact HK0.out _ _ HBm.out | exact HK0.out _ _ (HBm.out.later ⟨rfl, rfl, rfl, Nat.le_refl _, fun _ _ => rfl⟩) | exact HK0.out _ _ ((HBm.out.later ((Below.refl _ _).alloc (Nat.le_refl _) _)).later ⟨rfl, rfl, rfl, Nat.le_refl _, fun _ _ => rfl⟩) | exact HK0.out _ _ (HBm.out.later ((Below.refl _ _).alloc (Nat.le_refl _) _))) (first | (go_at_call 95; refine (mut95 _ _ _ _ _ _ _).mono ?_; rintro e wm ⟨rfl, hb⟩; have HBm : Hid (Bs w0 b nd t W #[.int .i64 43, .string xn, .int .i64 xv, .slice (some ⟨g0, o0, none⟩) 1 xc, .int .i64 xf, .int .i64 xe] wm) := (by first | exact HB0.out.later hb | exact HB0.out.dr.later hb); clear hb; obtain ⟨m0, m1, m2, m3, m4, m5⟩ := box6 HBm.out.bx) | (go_at_call 26; refine (HC1.out _ _ (by first | rfl | simp) HBm.out.st).mono ?_; rintro e w1 ⟨rfl, hE⟩; have HB1 : Hid (Bs w0 b nd T1 W #[.int .i64 43, .string xn, .int .i64 xv, .slice (some ⟨g0, o0, none⟩) 1 xc, .int .i64 xf, .int .i64 xe] w1) := HBm.out.put hE; clear hE; obtain ⟨d10, d11, d12, d13, d14, d15⟩ := box6 HB1.out.bx; have r10 := HX.out w1 HB1.out.st.bl))
  have HE : Hid (PoS w0 b nd T1 W w1) := HB1.out.pos
  clear HB1 d10 d11 d12 d13 d14 d15 r10
  go_wp2
  go_end0
  exact ⟨rfl, HE.out⟩
set_option maxRecDepth 100000 in
set_option maxHeartbeats 4000000 in
theorem pr_45a (w0 : World) (b : Nat) (nd : Value) (l : List Nd) (nt : Nat → Tks) (K : Nat) (hP : Puts w0 b nd l nt K 3) (x : Nd) (hk : x.k = 45) (hn : NdK w0 K x) (h2 : x.ks.length = 2) : PrF w0 b nd l nt 69 x (prtK l x 45) := by
  intro t W hS hlen
  have har : arB 45 x.ks.length = true := by have := hn.ar; rw [hk] at this; exact this
  have hl : x.ks.length = 2 := h2
  have hE0 : run t (psT nt l (prtK l x 45)) = run (t) (psT nt l [.s ⟨#[105, 102]⟩, .op (kidN x 0), .n (kidN x 1)]) := by
    show run t (psT nt l ([.s ⟨#[105, 102]⟩, .op (kidN x 0), .n (kidN x 1)] ++ (if x.ks.length = 2 then [] else [.s ⟨#[101, 108, 115, 101]⟩, .n (kidN x 2)]))) = _
    rw [if_pos h2]
    rfl
  rw [hE0] at hlen ⊢
  clear hE0
  obtain ⟨T1, hT1⟩ : ∃ T, run t (psT nt l [.s ⟨#[105, 102]⟩, .op (kidN x 0), .n (kidN x 1)]) = T := ⟨_, rfl⟩
  rw [hT1] at hlen ⊢
  have hl1 : T1.length ≤ 140737488355328 := hlen
  have HC1 : Hid (∀ W g, g = W.heap.size → St w0 b nd t W → Calls Tryz.prog 26 #[.pointer (some ⟨b, 0, none⟩), .slice (some ⟨g, 0, none⟩) 3 3] (W.alloc (.cells #[.iface 9 (.string ⟨#[105, 102]⟩), .iface 90 (.int .i64 (kidN x 0 : Nat)), .iface 3 (.int .i64 (kidN x 1 : Nat))] 20)).drew fun e w' => e = .returned (.tuple #[]) ∧ PoS w0 b nd T1 W w') := put_hd hP [.s ⟨#[105, 102]⟩, .op (kidN x 0), .n (kidN x 1)] (by simp) (all_3 (⟨by simp [Pt.rk], trivial⟩) (⟨by simp [Pt.rk], hn.kid 0 (by omega)⟩) (⟨by simp [Pt.rk], hn.kid 1 (by omega)⟩)) 3 rfl _ rfl t T1 hT1 hl1
  have HS : Hid (St w0 b nd t W) := hS
  obtain ⟨g0, o0, hka, hcell⟩ := hn.addr (by omega)
  have HX : Hid (∀ W, Below w0.heap.size w0 W → W.cell? ⟨g0, o0, none⟩ = some (.int .i64 (kidN x 0 : Nat)) ∧ W.cell? ⟨g0, o0 + 1, none⟩ = some (.int .i64 (kidN x 1 : Nat))) := fun W hW => ⟨hcell W hW 0 (by omega), hcell W hW 1 (by omega)⟩
  have hc1 := hn.ks.1
  have hc2 := hn.ks.2.1
  rw [hl] at hc1
  unfold nda
  rw [hk, hl, hka]
  clear hP hlen hS hn har hk hT1 hl1 hcell hka hl
  generalize kidN x 0 = q0 at *
  generalize kidN x 1 = q1 at *
  generalize x.nm = xn at *
  generalize x.v = xv at *
  generalize x.kc = xc at *
  generalize x.ka = xa at *
  generalize x.fr = xf at *
  generalize x.en = xe at *
  clear h2
  clear x
  have HB0 : Hid (Bs w0 b nd t W #[.int .i64 45, .string xn, .int .i64 xv, .slice (some ⟨g0, o0, none⟩) 2 xc, .int .i64 xf, .int .i64 xe] (W.alloc (.cells #[.int .i64 45, .string xn, .int .i64 xv, .slice (some ⟨g0, o0, none⟩) 2 xc, .int .i64 xf, .int .i64 xe] 53))) := Bs.start HS.out _
  go_enter Tryz.func69, Tryz.ntmps69
  have r00 : (W.alloc (.cells #[.int .i64 45, .string xn, .int .i64 xv, .slice (some ⟨g0, o0, none⟩) 2 xc, .int .i64 xf, .int .i64 xe] 53)).cell? ⟨g0, o0, none⟩ = some (.int .i64 q0) := (HX.out _ HB0.out.st.bl).1
  have r01 : (W.alloc (.cells #[.int .i64 45, .string xn, .int .i64 xv, .slice (some ⟨g0, o0, none⟩) 2 xc, .int .i64 xf, .int .i64 xe] 53)).cell? ⟨g0, o0 + 1, none⟩ = some (.int .i64 q1) := (HX.out _ HB0.out.st.bl).2
  have HK0 : Hid (∀ T w', Bs w0 b nd T W #[.int .i64 45, .string xn, .int .i64 xv, .slice (some ⟨g0, o0, none⟩) 2 xc, .int .i64 xf, .int .i64 xe] w' → w'.cell? ⟨W.heap.size, 3, none⟩ = some (.slice (some ⟨g0, o0, none⟩) 2 xc) ∧ w'.cell? ⟨g0, o0, none⟩ = some (.int .i64 q0) ∧ w'.cell? ⟨g0, o0 + 1, none⟩ = some (.int .i64 q1)) := fun T w' h => ⟨(box6 h.bx).2.2.2.1, (HX.out _ h.st.bl).1, (HX.out _ h.st.bl).2⟩
  go_wp2
  go_region_held3 (fun w' => w'.cell? ⟨W.heap.size, 3, none⟩ = some (.slice (some ⟨g0, o0, none⟩) 2 xc) ∧ w'.cell? ⟨g0, o0, none⟩ = some (.int .i64 q0) ∧ w'.cell? ⟨g0, o0 + 1, none⟩ = some (.int .i64 q1)) (first | exact HK0.out _ _ HB0.out | exact HK0.out _ _ (HB0.out.later ⟨rfl, rfl, rfl, Nat.le_refl _, fun _ _ => rfl⟩) | exact HK0.out _ _ ((HB0.out.later ((Below.refl _ _).alloc (Nat.le_refl _) _)).later ⟨rfl, rfl, rfl, Nat.le_refl _, fun _ _ => rfl⟩) | exact HK0.out _ _ HB1.out) (first | (go_at_call 26; refine (HC1.out _ _ (by first | rfl | simp) HB0.out.st).mono ?_; rintro e w1 ⟨rfl, hE⟩; have HB1 : Hid (Bs w0 b nd T1 W #[.int .i64 45, .string xn, .int .i64 xv, .slice (some ⟨g0, o0, none⟩) 2 xc, .int .i64 xf, .int .i64 xe] w1) := HB0.out.put hE; clear hE; obtain ⟨d10, d11, d12, d13, d14, d15⟩ := box6 HB1.out.bx; obtain ⟨r10, r11⟩ := HX.out w1 HB1.out.st.bl))
  have HE : Hid (PoS w0 b nd T1 W w1) := HB1.out.pos
  clear HB1 d10 d11 d12 d13 d14 d15 r10 r11
  go_wp2
  go_end0
  exact ⟨rfl, HE.out⟩
set_option maxRecDepth 100000 in
set_option maxHeartbeats 4000000 in
theorem pr_45b (w0 : World) (b : Nat) (nd : Value) (l : List Nd) (nt : Nat → Tks) (K : Nat) (hP : Puts w0 b nd l nt K 3) (x : Nd) (hk : x.k = 45) (hn : NdK w0 K x) (h3 : x.ks.length = 3) : PrF w0 b nd l nt 69 x (prtK l x 45) := by
  intro t W hS hlen
  have har : arB 45 x.ks.length = true := by have := hn.ar; rw [hk] at this; exact this
  have hl : x.ks.length = 3 := h3
  have hE0 : run t (psT nt l (prtK l x 45)) = run (run (t) (psT nt l [.s ⟨#[105, 102]⟩, .op (kidN x 0), .n (kidN x 1)])) (psT nt l [.s ⟨#[101, 108, 115, 101]⟩, .n (kidN x 2)]) := by
    rw [← run_app]
    simp only [← psT_app]
    show run t (psT nt l ([.s ⟨#[105, 102]⟩, .op (kidN x 0), .n (kidN x 1)] ++ (if x.ks.length = 2 then [] else [.s ⟨#[101, 108, 115, 101]⟩, .n (kidN x 2)]))) = _
    rw [if_neg (by omega)]
  rw [hE0] at hlen ⊢
  clear hE0
  obtain ⟨T1, hT1⟩ : ∃ T, run t (psT nt l [.s ⟨#[105, 102]⟩, .op (kidN x 0), .n (kidN x 1)]) = T := ⟨_, rfl⟩
  rw [hT1] at hlen ⊢
  obtain ⟨T2, hT2⟩ : ∃ T, run T1 (psT nt l [.s ⟨#[101, 108, 115, 101]⟩, .n (kidN x 2)]) = T := ⟨_, rfl⟩
  rw [hT2] at hlen ⊢
  have hl2 : T2.length ≤ 140737488355328 := hlen
  have hl1 : T1.length ≤ 140737488355328 := Nat.le_trans (run_le _ _) (by rw [hT2]; exact hl2)
  have HC1 : Hid (∀ W g, g = W.heap.size → St w0 b nd t W → Calls Tryz.prog 26 #[.pointer (some ⟨b, 0, none⟩), .slice (some ⟨g, 0, none⟩) 3 3] (W.alloc (.cells #[.iface 9 (.string ⟨#[105, 102]⟩), .iface 90 (.int .i64 (kidN x 0 : Nat)), .iface 3 (.int .i64 (kidN x 1 : Nat))] 20)).drew fun e w' => e = .returned (.tuple #[]) ∧ PoS w0 b nd T1 W w') := put_hd hP [.s ⟨#[105, 102]⟩, .op (kidN x 0), .n (kidN x 1)] (by simp) (all_3 (⟨by simp [Pt.rk], trivial⟩) (⟨by simp [Pt.rk], hn.kid 0 (by omega)⟩) (⟨by simp [Pt.rk], hn.kid 1 (by omega)⟩)) 3 rfl _ rfl t T1 hT1 hl1
  have HC2 : Hid (∀ W g, g = W.heap.size → St w0 b nd T1 W → Calls Tryz.prog 26 #[.pointer (some ⟨b, 0, none⟩), .slice (some ⟨g, 0, none⟩) 2 2] (W.alloc (.cells #[.iface 9 (.string ⟨#[101, 108, 115, 101]⟩), .iface 3 (.int .i64 (kidN x 2 : Nat))] 20)) fun e w' => e = .returned (.tuple #[]) ∧ PoS w0 b nd T2 W w') := put_hc hP [.s ⟨#[101, 108, 115, 101]⟩, .n (kidN x 2)] (by simp) (all_2 (⟨by simp [Pt.rk], trivial⟩) (⟨by simp [Pt.rk], hn.kid 2 (by omega)⟩)) 2 rfl _ rfl T1 T2 hT2 hl2
  have HS : Hid (St w0 b nd t W) := hS
  obtain ⟨g0, o0, hka, hcell⟩ := hn.addr (by omega)
  have HX : Hid (∀ W, Below w0.heap.size w0 W → W.cell? ⟨g0, o0, none⟩ = some (.int .i64 (kidN x 0 : Nat)) ∧ W.cell? ⟨g0, o0 + 1, none⟩ = some (.int .i64 (kidN x 1 : Nat)) ∧ W.cell? ⟨g0, o0 + 2, none⟩ = some (.int .i64 (kidN x 2 : Nat))) := fun W hW => ⟨hcell W hW 0 (by omega), hcell W hW 1 (by omega), hcell W hW 2 (by omega)⟩
  have hc1 := hn.ks.1
  have hc2 := hn.ks.2.1
  rw [hl] at hc1
  unfold nda
  rw [hk, hl, hka]
  clear hP hlen hS hn har hk hT1 hl1 hT2 hl2 hcell hka hl
  generalize kidN x 0 = q0 at *
  generalize kidN x 1 = q1 at *
  generalize kidN x 2 = q2 at *
  generalize x.nm = xn at *
  generalize x.v = xv at *
  generalize x.kc = xc at *
  generalize x.ka = xa at *
  generalize x.fr = xf at *
  generalize x.en = xe at *
  clear h3
  clear x
  have HB0 : Hid (Bs w0 b nd t W #[.int .i64 45, .string xn, .int .i64 xv, .slice (some ⟨g0, o0, none⟩) 3 xc, .int .i64 xf, .int .i64 xe] (W.alloc (.cells #[.int .i64 45, .string xn, .int .i64 xv, .slice (some ⟨g0, o0, none⟩) 3 xc, .int .i64 xf, .int .i64 xe] 53))) := Bs.start HS.out _
  go_enter Tryz.func69, Tryz.ntmps69
  have r00 : (W.alloc (.cells #[.int .i64 45, .string xn, .int .i64 xv, .slice (some ⟨g0, o0, none⟩) 3 xc, .int .i64 xf, .int .i64 xe] 53)).cell? ⟨g0, o0, none⟩ = some (.int .i64 q0) := (HX.out _ HB0.out.st.bl).1
  have r01 : (W.alloc (.cells #[.int .i64 45, .string xn, .int .i64 xv, .slice (some ⟨g0, o0, none⟩) 3 xc, .int .i64 xf, .int .i64 xe] 53)).cell? ⟨g0, o0 + 1, none⟩ = some (.int .i64 q1) := (HX.out _ HB0.out.st.bl).2.1
  have r02 : (W.alloc (.cells #[.int .i64 45, .string xn, .int .i64 xv, .slice (some ⟨g0, o0, none⟩) 3 xc, .int .i64 xf, .int .i64 xe] 53)).cell? ⟨g0, o0 + 2, none⟩ = some (.int .i64 q2) := (HX.out _ HB0.out.st.bl).2.2
  have HK0 : Hid (∀ T w', Bs w0 b nd T W #[.int .i64 45, .string xn, .int .i64 xv, .slice (some ⟨g0, o0, none⟩) 3 xc, .int .i64 xf, .int .i64 xe] w' → w'.cell? ⟨W.heap.size, 3, none⟩ = some (.slice (some ⟨g0, o0, none⟩) 3 xc) ∧ w'.cell? ⟨g0, o0, none⟩ = some (.int .i64 q0) ∧ w'.cell? ⟨g0, o0 + 1, none⟩ = some (.int .i64 q1) ∧ w'.cell? ⟨g0, o0 + 2, none⟩ = some (.int .i64 q2)) := fun T w' h => ⟨(box6 h.bx).2.2.2.1, (HX.out _ h.st.bl).1, (HX.out _ h.st.bl).2.1, (HX.out _ h.st.bl).2.2⟩
  go_wp2
  go_region_held3 (fun w' => w'.cell? ⟨W.heap.size, 3, none⟩ = some (.slice (some ⟨g0, o0, none⟩) 3 xc) ∧ w'.cell? ⟨g0, o0, none⟩ = some (.int .i64 q0) ∧ w'.cell? ⟨g0, o0 + 1, none⟩ = some (.int .i64 q1) ∧ w'.cell? ⟨g0, o0 + 2, none⟩ = some (.int .i64 q2)) (first | exact HK0.out _ _ HB0.out | exact HK0.out _ _ (HB0.out.later ⟨rfl, rfl, rfl, Nat.le_refl _, fun _ _ => rfl⟩) | exact HK0.out _ _ ((HB0.out.later ((Below.refl _ _).alloc (Nat.le_refl _) _)).later ⟨rfl, rfl, rfl, Nat.le_refl _, fun _ _ => rfl⟩) | exact HK0.out _ _ HB1.out) (first | (go_at_call 26; refine (HC1.out _ _ (by first | rfl | simp) HB0.out.st).mono ?_; rintro e w1 ⟨rfl, hE⟩; have HB1 : Hid (Bs w0 b nd T1 W #[.int .i64 45, .string xn, .int .i64 xv, .slice (some ⟨g0, o0, none⟩) 3 xc, .int .i64 xf, .int .i64 xe] w1) := HB0.out.put hE; clear hE; obtain ⟨d10, d11, d12, d13, d14, d15⟩ := box6 HB1.out.bx; obtain ⟨r10, r11, r12⟩ := HX.out w1 HB1.out.st.bl))
  go_wp2_with fail
  refine (HC2.out _ _ (by first | rfl | simp) HB1.out.st).mono ?_
  rintro e w2 ⟨rfl, hE⟩
  have HB2 : Hid (Bs w0 b nd T2 W #[.int .i64 45, .string xn, .int .i64 xv, .slice (some ⟨g0, o0, none⟩) 3 xc, .int .i64 xf, .int .i64 xe] w2) := HB1.out.put hE
  clear hE
  have HE : Hid (PoS w0 b nd T2 W w2) := HB2.out.pos
  clear HB2
  go_wp2
  go_end0
  exact ⟨rfl, HE.out⟩
set_option maxRecDepth 100000 in
set_option maxHeartbeats 4000000 in
theorem pr_46a (w0 : World) (b : Nat) (nd : Value) (l : List Nd) (nt : Nat → Tks) (K : Nat) (hP : Puts w0 b nd l nt K 3) (x : Nd) (hk : x.k = 46) (hn : NdK w0 K x) (h1 : x.kc = 1) : PrF w0 b nd l nt 69 x (prtK l x 46) := by
  intro t W hS hlen
  have har : arB 46 x.ks.length = true := by have := hn.ar; rw [hk] at this; exact this
  have hl : 1 ≤ x.ks.length := by simpa [arB] using har
  obtain ⟨g0, o0, hka, hcell⟩ := hn.addr (by omega)
  obtain ⟨a2, ha2⟩ : ∃ a2, a2 = (if x.kc = 1 then some (⟨g0, o0, none⟩ : Addr) else some ⟨g0, o0 + 1, none⟩) := ⟨_, rfl⟩
  have hI2 : IsA w0 a2 (x.kc - 1) (x.ks.drop 1) := by
    obtain ⟨i1, i2, i3⟩ := hn.ks
    refine ⟨by rw [List.length_drop]; omega, by omega, fun h0 => ?_⟩
    rw [List.length_drop] at h0
    obtain ⟨g, o, e1, e2⟩ := i3 (by omega)
    rw [hka] at e1
    cases e1
    refine ⟨g0, o0 + 1, by rw [ha2, if_neg (by omega)], fun j y hy => ?_⟩
    rw [List.getElem?_drop] at hy
    rw [Nat.add_assoc]
    exact e2 _ _ hy
  have hE0 : run t (psT nt l (prtK l x 46)) = run (t) (psT nt l [.s ⟨#[109, 97, 116, 99, 104]⟩, .op (kidN x 0), .s ⟨#[123]⟩, .li a2 (x.kc - 1) (x.ks.drop 1), .s ⟨#[125]⟩]) := by
    rfl
  rw [hE0] at hlen ⊢
  clear hE0
  obtain ⟨T1, hT1⟩ : ∃ T, run t (psT nt l [.s ⟨#[109, 97, 116, 99, 104]⟩, .op (kidN x 0), .s ⟨#[123]⟩, .li a2 (x.kc - 1) (x.ks.drop 1), .s ⟨#[125]⟩]) = T := ⟨_, rfl⟩
  rw [hT1] at hlen ⊢
  have hl1 : T1.length ≤ 140737488355328 := hlen
  have HC1 : Hid (∀ W g, g = W.heap.size → St w0 b nd t W → Calls Tryz.prog 26 #[.pointer (some ⟨b, 0, none⟩), .slice (some ⟨g, 0, none⟩) 5 5] (W.alloc (.cells #[.iface 9 (.string ⟨#[109, 97, 116, 99, 104]⟩), .iface 90 (.int .i64 (kidN x 0 : Nat)), .iface 9 (.string ⟨#[123]⟩), .iface 88 (.slice a2 (x.ks.drop 1).length (x.kc - 1)), .iface 9 (.string ⟨#[125]⟩)] 20)).drew fun e w' => e = .returned (.tuple #[]) ∧ PoS w0 b nd T1 W w') := put_hd hP [.s ⟨#[109, 97, 116, 99, 104]⟩, .op (kidN x 0), .s ⟨#[123]⟩, .li a2 (x.kc - 1) (x.ks.drop 1), .s ⟨#[125]⟩] (by simp) (all_5 (⟨by simp [Pt.rk], trivial⟩) (⟨by simp [Pt.rk], hn.kid 0 (by omega)⟩) (⟨by simp [Pt.rk], trivial⟩) (⟨by simp [Pt.rk], hI2, fun y hy => hn.hin y (List.mem_of_mem_drop hy)⟩) (⟨by simp [Pt.rk], trivial⟩)) 5 rfl _ rfl t T1 hT1 hl1
  have HS : Hid (St w0 b nd t W) := hS
  have HX : Hid (∀ W, Below w0.heap.size w0 W → W.cell? ⟨g0, o0, none⟩ = some (.int .i64 (kidN x 0 : Nat))) := fun W hW => hcell W hW 0 (by omega)
  have hdl : (x.ks.drop 1).length = x.ks.length - 1 := List.length_drop
  rw [hdl] at HC1
  have hc1 := hn.ks.1
  have hc2 := hn.ks.2.1
  unfold nda
  rw [hk, hka]
  clear hI2 hdl
  rw [if_pos h1] at ha2
  subst ha2
  clear hP hlen hS hn har hk hT1 hl1 hcell hka
  generalize kidN x 0 = q0 at *
  generalize x.ks.length = xl at *
  generalize x.nm = xn at *
  generalize x.v = xv at *
  generalize x.kc = xc at *
  generalize x.ka = xa at *
  generalize x.fr = xf at *
  generalize x.en = xe at *
  subst h1
  obtain rfl : xl = 1 := by omega
  clear x
  have HB0 : Hid (Bs w0 b nd t W #[.int .i64 46, .string xn, .int .i64 xv, .slice (some ⟨g0, o0, none⟩) 1 1, .int .i64 xf, .int .i64 xe] (W.alloc (.cells #[.int .i64 46, .string xn, .int .i64 xv, .slice (some ⟨g0, o0, none⟩) 1 1, .int .i64 xf, .int .i64 xe] 53))) := Bs.start HS.out _
  go_enter Tryz.func69, Tryz.ntmps69
  have r00 : (W.alloc (.cells #[.int .i64 46, .string xn, .int .i64 xv, .slice (some ⟨g0, o0, none⟩) 1 1, .int .i64 xf, .int .i64 xe] 53)).cell? ⟨g0, o0, none⟩ = some (.int .i64 q0) := (HX.out _ HB0.out.st.bl)
  have HK0 : Hid (∀ T w', Bs w0 b nd T W #[.int .i64 46, .string xn, .int .i64 xv, .slice (some ⟨g0, o0, none⟩) 1 1, .int .i64 xf, .int .i64 xe] w' → w'.cell? ⟨W.heap.size, 3, none⟩ = some (.slice (some ⟨g0, o0, none⟩) 1 1) ∧ w'.cell? ⟨g0, o0, none⟩ = some (.int .i64 q0)) := fun T w' h => ⟨(box6 h.bx).2.2.2.1, HX.out _ h.st.bl⟩
  go_wp2
  go_region_held3 (fun w' => w'.cell? ⟨W.heap.size, 3, none⟩ = some (.slice (some ⟨g0, o0, none⟩) 1 1) ∧ w'.cell? ⟨g0, o0, none⟩ = some (.int .i64 q0)) (first | exact HK0.out _ _ HB0.out | exact HK0.out _ _ (HB0.out.later ⟨rfl, rfl, rfl, Nat.le_refl _, fun _ _ => rfl⟩) | exact HK0.out _ _ ((HB0.out.later ((Below.refl _ _).alloc (Nat.le_refl _) _)).later ⟨rfl, rfl, rfl, Nat.le_refl _, fun _ _ => rfl⟩) | exact HK0.out _ _ HB1.out) (first | (go_at_call 26; refine (HC1.out _ _ (by first | rfl | simp) HB0.out.st).mono ?_; rintro e w1 ⟨rfl, hE⟩; have HB1 : Hid (Bs w0 b nd T1 W #[.int .i64 46, .string xn, .int .i64 xv, .slice (some ⟨g0, o0, none⟩) 1 1, .int .i64 xf, .int .i64 xe] w1) := HB0.out.put hE; clear hE; obtain ⟨d10, d11, d12, d13, d14, d15⟩ := box6 HB1.out.bx; have r10 := HX.out w1 HB1.out.st.bl))
  have HE : Hid (PoS w0 b nd T1 W w1) := HB1.out.pos
  clear HB1 d10 d11 d12 d13 d14 d15 r10
  go_wp2
  go_end0
  exact ⟨rfl, HE.out⟩
set_option maxRecDepth 100000 in
set_option maxHeartbeats 4000000 in
theorem pr_46b (w0 : World) (b : Nat) (nd : Value) (l : List Nd) (nt : Nat → Tks) (K : Nat) (hP : Puts w0 b nd l nt K 3) (x : Nd) (hk : x.k = 46) (hn : NdK w0 K x) (h1 : ¬ x.kc = 1) : PrF w0 b nd l nt 69 x (prtK l x 46) := by
  intro t W hS hlen
  have har : arB 46 x.ks.length = true := by have := hn.ar; rw [hk] at this; exact this
  have hl : 1 ≤ x.ks.length := by simpa [arB] using har
  obtain ⟨g0, o0, hka, hcell⟩ := hn.addr (by omega)
  obtain ⟨a2, ha2⟩ : ∃ a2, a2 = (if x.kc = 1 then some (⟨g0, o0, none⟩ : Addr) else some ⟨g0, o0 + 1, none⟩) := ⟨_, rfl⟩
  have hI2 : IsA w0 a2 (x.kc - 1) (x.ks.drop 1) := by
    obtain ⟨i1, i2, i3⟩ := hn.ks
    refine ⟨by rw [List.length_drop]; omega, by omega, fun h0 => ?_⟩
    rw [List.length_drop] at h0
    obtain ⟨g, o, e1, e2⟩ := i3 (by omega)
    rw [hka] at e1
    cases e1
    refine ⟨g0, o0 + 1, by rw [ha2, if_neg (by omega)], fun j y hy => ?_⟩
    rw [List.getElem?_drop] at hy
    rw [Nat.add_assoc]
    exact e2 _ _ hy
  have hE0 : run t (psT nt l (prtK l x 46)) = run (t) (psT nt l [.s ⟨#[109, 97, 116, 99, 104]⟩, .op (kidN x 0), .s ⟨#[123]⟩, .li a2 (x.kc - 1) (x.ks.drop 1), .s ⟨#[125]⟩]) := by
    rfl
  rw [hE0] at hlen ⊢
  clear hE0
  obtain ⟨T1, hT1⟩ : ∃ T, run t (psT nt l [.s ⟨#[109, 97, 116, 99, 104]⟩, .op (kidN x 0), .s ⟨#[123]⟩, .li a2 (x.kc - 1) (x.ks.drop 1), .s ⟨#[125]⟩]) = T := ⟨_, rfl⟩
  rw [hT1] at hlen ⊢
  have hl1 : T1.length ≤ 140737488355328 := hlen
  have HC1 : Hid (∀ W g, g = W.heap.size → St w0 b nd t W → Calls Tryz.prog 26 #[.pointer (some ⟨b, 0, none⟩), .slice (some ⟨g, 0, none⟩) 5 5] (W.alloc (.cells #[.iface 9 (.string ⟨#[109, 97, 116, 99, 104]⟩), .iface 90 (.int .i64 (kidN x 0 : Nat)), .iface 9 (.string ⟨#[123]⟩), .iface 88 (.slice a2 (x.ks.drop 1).length (x.kc - 1)), .iface 9 (.string ⟨#[125]⟩)] 20)).drew fun e w' => e = .returned (.tuple #[]) ∧ PoS w0 b nd T1 W w') := put_hd hP [.s ⟨#[109, 97, 116, 99, 104]⟩, .op (kidN x 0), .s ⟨#[123]⟩, .li a2 (x.kc - 1) (x.ks.drop 1), .s ⟨#[125]⟩] (by simp) (all_5 (⟨by simp [Pt.rk], trivial⟩) (⟨by simp [Pt.rk], hn.kid 0 (by omega)⟩) (⟨by simp [Pt.rk], trivial⟩) (⟨by simp [Pt.rk], hI2, fun y hy => hn.hin y (List.mem_of_mem_drop hy)⟩) (⟨by simp [Pt.rk], trivial⟩)) 5 rfl _ rfl t T1 hT1 hl1
  have HS : Hid (St w0 b nd t W) := hS
  have HX : Hid (∀ W, Below w0.heap.size w0 W → W.cell? ⟨g0, o0, none⟩ = some (.int .i64 (kidN x 0 : Nat))) := fun W hW => hcell W hW 0 (by omega)
  have hdl : (x.ks.drop 1).length = x.ks.length - 1 := List.length_drop
  rw [hdl] at HC1
  have hc1 := hn.ks.1
  have hc2 := hn.ks.2.1
  unfold nda
  rw [hk, hka]
  clear hI2 hdl
  rw [if_neg h1] at ha2
  subst ha2
  clear hP hlen hS hn har hk hT1 hl1 hcell hka
  generalize kidN x 0 = q0 at *
  generalize x.ks.length = xl at *
  generalize x.nm = xn at *
  generalize x.v = xv at *
  generalize x.kc = xc at *
  generalize x.ka = xa at *
  generalize x.fr = xf at *
  generalize x.en = xe at *
  have hl1 : (1 : Int) ≤ (xl : Int) := by omega
  have hl0 : (0 : Int) < (xl : Int) := by omega
  have hl2 : (xl : Int) ≤ (xc : Int) := by omega
  have hln : 0 < xl := by omega
  have hcc : ((xc : Int) == 1) = false := by simpa using (by omega : ¬ (xc : Int) = 1)
  have h1' : ¬ 1 = xc := by omega
  clear x
  have HB0 : Hid (Bs w0 b nd t W #[.int .i64 46, .string xn, .int .i64 xv, .slice (some ⟨g0, o0, none⟩) xl xc, .int .i64 xf, .int .i64 xe] (W.alloc (.cells #[.int .i64 46, .string xn, .int .i64 xv, .slice (some ⟨g0, o0, none⟩) xl xc, .int .i64 xf, .int .i64 xe] 53))) := Bs.start HS.out _
  go_enter Tryz.func69, Tryz.ntmps69
  have r00 : (W.alloc (.cells #[.int .i64 46, .string xn, .int .i64 xv, .slice (some ⟨g0, o0, none⟩) xl xc, .int .i64 xf, .int .i64 xe] 53)).cell? ⟨g0, o0, none⟩ = some (.int .i64 q0) := (HX.out _ HB0.out.st.bl)
  have HK0 : Hid (∀ T w', Bs w0 b nd T W #[.int .i64 46, .string xn, .int .i64 xv, .slice (some ⟨g0, o0, none⟩) xl xc, .int .i64 xf, .int .i64 xe] w' → w'.cell? ⟨W.heap.size, 3, none⟩ = some (.slice (some ⟨g0, o0, none⟩) xl xc) ∧ w'.cell? ⟨g0, o0, none⟩ = some (.int .i64 q0)) := fun T w' h => ⟨(box6 h.bx).2.2.2.1, HX.out _ h.st.bl⟩
  go_wp2
  go_region_held3 (fun w' => w'.cell? ⟨W.heap.size, 3, none⟩ = some (.slice (some ⟨g0, o0, none⟩) xl xc) ∧ w'.cell? ⟨g0, o0, none⟩ = some (.int .i64 q0)) (first | exact HK0.out _ _ HB0.out | exact HK0.out _ _ (HB0.out.later ⟨rfl, rfl, rfl, Nat.le_refl _, fun _ _ => rfl⟩) | exact HK0.out _ _ ((HB0.out.later ((Below.refl _ _).alloc (Nat.le_refl _) _)).later ⟨rfl, rfl, rfl, Nat.le_refl _, fun _ _ => rfl⟩) | exact HK0.out _ _ HB1.out) (first | (go_at_call 26; refine (HC1.out _ _ (by first | rfl | simp) HB0.out.st).mono ?_; rintro e w1 ⟨rfl, hE⟩; have HB1 : Hid (Bs w0 b nd T1 W #[.int .i64 46, .string xn, .int .i64 xv, .slice (some ⟨g0, o0, none⟩) xl xc, .int .i64 xf, .int .i64 xe] w1) := HB0.out.put hE; clear hE; obtain ⟨d10, d11, d12, d13, d14, d15⟩ := box6 HB1.out.bx; have r10 := HX.out w1 HB1.out.st.bl))
  have HE : Hid (PoS w0 b nd T1 W w1) := HB1.out.pos
  clear HB1 d10 d11 d12 d13 d14 d15 r10
  go_wp2
  go_end0
  exact ⟨rfl, HE.out⟩
end
section
open Go.RowKit Go.Shelf
set_option maxRecDepth 100000 in
set_option maxHeartbeats 4000000 in
theorem lt_21a (w0 : World) (b : Nat) (nd : Value) (l : List Nd) (nt : Nat → Tks) (K : Nat) (hP : Puts w0 b nd l nt K 3) (x : Nd) (hk : x.k = 21) (hn : NdK w0 K x) (hl : x.ks.length = 1) : PrF w0 b nd l nt 96 x ([.s ⟨#[108, 101, 116]⟩, .s (mutS x.v), .s x.nm] ++ [.s ⟨#[61]⟩, .ea none 0 (x.ks.drop 0)]) := by
  intro t W hS hlen
  rw [psT_app, run_app] at hlen ⊢
  skip
  obtain ⟨T1, hT1⟩ : ∃ T, run t (psT nt l [.s ⟨#[108, 101, 116]⟩, .s (mutS x.v), .s x.nm]) = T := ⟨_, rfl⟩
  rw [hT1] at hlen ⊢
  obtain ⟨T3, hT3⟩ : ∃ T, run T1 (psT nt l [.s ⟨#[61]⟩, .ea none 0 (x.ks.drop 0)]) = T := ⟨_, rfl⟩
  rw [hT3] at hlen ⊢
  have hl1 : T1.length ≤ 140737488355328 := Nat.le_trans (run_le _ _) (by rw [hT3]; exact hlen)
  have HC1 : Hid (∀ W g, g = W.heap.size → St w0 b nd t W → Calls Tryz.prog 26 #[.pointer (some ⟨b, 0, none⟩), .slice (some ⟨g, 0, none⟩) 3 3] (W.alloc (.cells #[.iface 9 (.string ⟨#[108, 101, 116]⟩), .iface 9 (.string (mutS x.v)), .iface 9 (.string x.nm)] 20)) fun e w' => e = .returned (.tuple #[]) ∧ PoS w0 b nd T1 W w') := put_hc hP [.s ⟨#[108, 101, 116]⟩, .s (mutS x.v), .s x.nm] (by simp) (all_3 (⟨by simp [Pt.rk], trivial⟩) (⟨by simp [Pt.rk], trivial⟩) (⟨by simp [Pt.rk], trivial⟩)) 3 rfl _ rfl t T1 hT1 hl1
  have HC3 : Hid (∀ a2 c2, IsA w0 a2 c2 (x.ks.drop 0) → ∀ W g, g = W.heap.size → St w0 b nd T1 W → Calls Tryz.prog 26 #[.pointer (some ⟨b, 0, none⟩), .slice (some ⟨g, 0, none⟩) 2 2] (W.alloc (.cells #[.iface 9 (.string ⟨#[61]⟩), .iface 87 (.slice a2 (x.ks.drop 0).length c2)] 20)) fun e w' => e = .returned (.tuple #[]) ∧ PoS w0 b nd T3 W w') := fun a2 c2 hI => (put_hc hP [.s ⟨#[61]⟩, .ea a2 c2 (x.ks.drop 0)] (by simp) (all_2 ⟨by simp [Pt.rk], trivial⟩ ⟨by simp [Pt.rk], hI, fun y hy => hn.hin y (List.mem_of_mem_drop hy)⟩) 2 rfl _ rfl T1 T3 hT3 hlen).out
  have HU : Hid (∀ W, Below w0.heap.size w0 W → Calls Tryz.prog 89 #[.slice x.ka x.ks.length x.kc, .int .i64 1] W fun e w' => (∃ n, w' = W.drewN n) ∧ ∃ a1 c1 a2 c2, e = .returned (.tuple #[.slice a1 (x.ks.take (x.ks.length - 1)).length c1, .slice a2 (x.ks.drop (x.ks.length - 1)).length c2]) ∧ IsA w0 a1 c1 (x.ks.take (x.ks.length - 1)) ∧ IsA w0 a2 c2 (x.ks.drop (x.ks.length - 1))) := fun W hW => (cut89a x.ks x.ka x.kc 1 W (hn.ks.below hW) (by decide)).mono fun e w' ⟨h1, a1, c1, a2, c2, h2, h3⟩ => ⟨h1, a1, c1, a2, c2, h2, h3 w0 hn.ks⟩
  have hI0 : ∀ a c ks, IsA w0 a c ks → ks.length ≤ c ∧ c ≤ 9223372036854775807 := fun a c ks h => ⟨h.1, h.2.1⟩
  have HI0 : Hid (∀ a c ks, IsA w0 a c ks → ks.length ≤ c ∧ c ≤ 9223372036854775807) := hI0
  have htk : (x.ks.take 0).length = 0 := by rw [List.length_take, hl]; rfl
  have hdk : (x.ks.drop 0).length = 1 := by rw [List.length_drop, hl]
  rw [hl] at HU
  simp only [Nat.reduceSub] at HU
  rw [htk, hdk] at HU
  skip
  rw [hdk] at HC3
  have HS : Hid (St w0 b nd t W) := hS
  have hc1 := hn.ks.1
  have hc2 := hn.ks.2.1
  rw [hl] at hc1
  unfold nda
  rw [hk, hl]
  generalize x.ks.take 0 = ks1 at *
  generalize x.ks.drop 0 = ks2 at *
  have HL : Hid (ks1.length = 0 ∧ ks2.length = 1) := ⟨htk, hdk⟩
  clear hP hlen hS hn hk hT1 hT3 hl1 htk hdk hI0 hl
  generalize x.nm = xn at *
  generalize x.v = xv at *
  generalize x.kc = xc at *
  generalize x.ka = xa at *
  generalize x.fr = xf at *
  generalize x.en = xe at *
  clear x
  have HB0 : Hid (Bs w0 b nd t W #[.int .i64 21, .string xn, .int .i64 xv, .slice xa 1 xc, .int .i64 xf, .int .i64 xe] (W.alloc (.cells #[.int .i64 21, .string xn, .int .i64 xv, .slice xa 1 xc, .int .i64 xf, .int .i64 xe] 53))) := Bs.start HS.out _
  go_enter Tryz.func96, Tryz.ntmps96
  have HK0 : Hid (∀ T w', Bs w0 b nd T W #[.int .i64 21, .string xn, .int .i64 xv, .slice xa 1 xc, .int .i64 xf, .int .i64 xe] w' → w'.cell? ⟨W.heap.size, 0, none⟩ = some (.int .i64 21) ∧ w'.cell? ⟨W.heap.size, 1, none⟩ = some (.string xn) ∧ w'.cell? ⟨W.heap.size, 2, none⟩ = some (.int .i64 xv) ∧ w'.cell? ⟨W.heap.size, 3, none⟩ = some (.slice xa 1 xc) ∧ w'.cell? ⟨W.heap.size, 4, none⟩ = some (.int .i64 xf) ∧ w'.cell? ⟨W.heap.size, 5, none⟩ = some (.int .i64 xe)) := fun T w' h => ⟨(box6 h.bx).1, (box6 h.bx).2.1, (box6 h.bx).2.2.1, (box6 h.bx).2.2.2.1, (box6 h.bx).2.2.2.2.1, (box6 h.bx).2.2.2.2.2⟩
  go_wp2
  go_region_held3 (fun w' => w'.cell? ⟨W.heap.size, 0, none⟩ = some (.int .i64 21) ∧ w'.cell? ⟨W.heap.size, 1, none⟩ = some (.string xn) ∧ w'.cell? ⟨W.heap.size, 2, none⟩ = some (.int .i64 xv) ∧ w'.cell? ⟨W.heap.size, 3, none⟩ = some (.slice xa 1 xc) ∧ w'.cell? ⟨W.heap.size, 4, none⟩ = some (.int .i64 xf) ∧ w'.cell? ⟨W.heap.size, 5, none⟩ = some (.int .i64 xe)) (first | exact HK0.out _ _ HB0.out | exact HK0.out _ _ (HB0.out.later ⟨rfl, rfl, rfl, Nat.le_refl _, fun _ _ => rfl⟩) | exact HK0.out _ _ ((HB0.out.later ((Below.refl _ _).alloc (Nat.le_refl _) _)).later ⟨rfl, rfl, rfl, Nat.le_refl _, fun _ _ => rfl⟩) | exact HK0.out _ _ HB1.out | exact HK0.out _ _ HBm.out | exact HK0.out _ _ (HBm.out.later ⟨rfl, rfl, rfl, Nat.le_refl _, fun _ _ => rfl⟩) | exact HK0.out _ _ ((HBm.out.later ((Below.refl _ _).alloc (Nat.le_refl _) _)).later ⟨rfl, rfl, rfl, Nat.le_refl _, fun _ _ => rfl⟩) | exact HK0.out _ _ (HBm.out.later ((Below.refl _ _).alloc (Nat.le_refl _) _))) (first | (go_at_call 95; refine (mut95 _ _ _ _ _ _ _).mono ?_; rintro e wm ⟨rfl, hb⟩; have HBm : Hid (Bs w0 b nd t W #[.int .i64 21, .string xn, .int .i64 xv, .slice xa 1 xc, .int .i64 xf, .int .i64 xe] wm) := (by first | exact HB0.out.later hb | exact HB0.out.dr.later hb); clear hb; obtain ⟨m0, m1, m2, m3, m4, m5⟩ := box6 HBm.out.bx) | (go_at_call 26; refine (HC1.out _ _ (by first | rfl | simp) HBm.out.st).mono ?_; rintro e w1 ⟨rfl, hE⟩; have HB1 : Hid (Bs w0 b nd T1 W #[.int .i64 21, .string xn, .int .i64 xv, .slice xa 1 xc, .int .i64 xf, .int .i64 xe] w1) := HBm.out.put hE; clear hE; obtain ⟨d10, d11, d12, d13, d14, d15⟩ := box6 HB1.out.bx; skip))
  clear m0 m1 m2 m3 m4 m5
  go_wp2_with fail
  refine (HU.out _ HB1.out.st.bl).mono ?_
  rintro e w2 ⟨⟨nq, hw⟩, a1, c1, a2, c2, rfl, hI1, hI2⟩
  have HB2 : Hid (Bs w0 b nd T1 W #[.int .i64 21, .string xn, .int .i64 xv, .slice xa 1 xc, .int .i64 xf, .int .i64 xe] w2) := by rw [hw]; exact HB1.out.later (drew_below _ _)
  clear hw d10 d11 d12 d13 d14 d15
  obtain ⟨e11, e12⟩ := HI0.out _ _ _ hI1
  obtain ⟨e21, e22⟩ := HI0.out _ _ _ hI2
  rw [HL.out.1] at e11
  rw [HL.out.2] at e21
  have HI1 : Hid (IsA w0 a1 c1 ks1) := hI1
  have HI2 : Hid (IsA w0 a2 c2 ks2) := hI2
  clear hI1 hI2
  go_wp2_with fail
  refine (HC3.out a2 c2 HI2.out w2 _ rfl HB2.out.st).mono ?_
  rintro e w4 ⟨rfl, hE⟩
  have HE : Hid (PoS w0 b nd T3 W w4) := (HB2.out.put hE).pos
  clear hE
  go_wp2
  go_end0
  exact ⟨rfl, HE.out⟩
set_option maxRecDepth 100000 in
set_option maxHeartbeats 4000000 in
theorem lt_21b (w0 : World) (b : Nat) (nd : Value) (l : List Nd) (nt : Nat → Tks) (K : Nat) (hP : Puts w0 b nd l nt K 3) (x : Nd) (hk : x.k = 21) (hn : NdK w0 K x) (hl : x.ks.length = 2) : PrF w0 b nd l nt 96 x ([.s ⟨#[108, 101, 116]⟩, .s (mutS x.v), .s x.nm] ++ ([.s ⟨#[58]⟩, .ea none 0 (x.ks.take 1)] ++ [.s ⟨#[61]⟩, .ea none 0 (x.ks.drop 1)])) := by
  intro t W hS hlen
  rw [psT_app, run_app] at hlen ⊢
  rw [psT_app, run_app] at hlen ⊢
  obtain ⟨T1, hT1⟩ : ∃ T, run t (psT nt l [.s ⟨#[108, 101, 116]⟩, .s (mutS x.v), .s x.nm]) = T := ⟨_, rfl⟩
  rw [hT1] at hlen ⊢
  obtain ⟨T2, hT2⟩ : ∃ T, run T1 (psT nt l [.s ⟨#[58]⟩, .ea none 0 (x.ks.take 1)]) = T := ⟨_, rfl⟩
  rw [hT2] at hlen ⊢
  obtain ⟨T3, hT3⟩ : ∃ T, run T2 (psT nt l [.s ⟨#[61]⟩, .ea none 0 (x.ks.drop 1)]) = T := ⟨_, rfl⟩
  rw [hT3] at hlen ⊢
  have hl2 : T2.length ≤ 140737488355328 := Nat.le_trans (run_le _ _) (by rw [hT3]; exact hlen)
  have hl1 : T1.length ≤ 140737488355328 := Nat.le_trans (run_le _ _) (by rw [hT2]; exact hl2)
  have HC1 : Hid (∀ W g, g = W.heap.size → St w0 b nd t W → Calls Tryz.prog 26 #[.pointer (some ⟨b, 0, none⟩), .slice (some ⟨g, 0, none⟩) 3 3] (W.alloc (.cells #[.iface 9 (.string ⟨#[108, 101, 116]⟩), .iface 9 (.string (mutS x.v)), .iface 9 (.string x.nm)] 20)) fun e w' => e = .returned (.tuple #[]) ∧ PoS w0 b nd T1 W w') := put_hc hP [.s ⟨#[108, 101, 116]⟩, .s (mutS x.v), .s x.nm] (by simp) (all_3 (⟨by simp [Pt.rk], trivial⟩) (⟨by simp [Pt.rk], trivial⟩) (⟨by simp [Pt.rk], trivial⟩)) 3 rfl _ rfl t T1 hT1 hl1
  have HC2 : Hid (∀ a1 c1, IsA w0 a1 c1 (x.ks.take 1) → ∀ W g, g = W.heap.size → St w0 b nd T1 W → Calls Tryz.prog 26 #[.pointer (some ⟨b, 0, none⟩), .slice (some ⟨g, 0, none⟩) 2 2] (W.alloc (.cells #[.iface 9 (.string ⟨#[58]⟩), .iface 87 (.slice a1 (x.ks.take 1).length c1)] 20)) fun e w' => e = .returned (.tuple #[]) ∧ PoS w0 b nd T2 W w') := fun a1 c1 hI => (put_hc hP [.s ⟨#[58]⟩, .ea a1 c1 (x.ks.take 1)] (by simp) (all_2 ⟨by simp [Pt.rk], trivial⟩ ⟨by simp [Pt.rk], hI, fun y hy => hn.hin y (List.mem_of_mem_take hy)⟩) 2 rfl _ rfl T1 T2 hT2 hl2).out
  have HC3 : Hid (∀ a2 c2, IsA w0 a2 c2 (x.ks.drop 1) → ∀ W g, g = W.heap.size → St w0 b nd T2 W → Calls Tryz.prog 26 #[.pointer (some ⟨b, 0, none⟩), .slice (some ⟨g, 0, none⟩) 2 2] (W.alloc (.cells #[.iface 9 (.string ⟨#[61]⟩), .iface 87 (.slice a2 (x.ks.drop 1).length c2)] 20)) fun e w' => e = .returned (.tuple #[]) ∧ PoS w0 b nd T3 W w') := fun a2 c2 hI => (put_hc hP [.s ⟨#[61]⟩, .ea a2 c2 (x.ks.drop 1)] (by simp) (all_2 ⟨by simp [Pt.rk], trivial⟩ ⟨by simp [Pt.rk], hI, fun y hy => hn.hin y (List.mem_of_mem_drop hy)⟩) 2 rfl _ rfl T2 T3 hT3 hlen).out
  have HU : Hid (∀ W, Below w0.heap.size w0 W → Calls Tryz.prog 89 #[.slice x.ka x.ks.length x.kc, .int .i64 1] W fun e w' => (∃ n, w' = W.drewN n) ∧ ∃ a1 c1 a2 c2, e = .returned (.tuple #[.slice a1 (x.ks.take (x.ks.length - 1)).length c1, .slice a2 (x.ks.drop (x.ks.length - 1)).length c2]) ∧ IsA w0 a1 c1 (x.ks.take (x.ks.length - 1)) ∧ IsA w0 a2 c2 (x.ks.drop (x.ks.length - 1))) := fun W hW => (cut89a x.ks x.ka x.kc 1 W (hn.ks.below hW) (by decide)).mono fun e w' ⟨h1, a1, c1, a2, c2, h2, h3⟩ => ⟨h1, a1, c1, a2, c2, h2, h3 w0 hn.ks⟩
  have hI0 : ∀ a c ks, IsA w0 a c ks → ks.length ≤ c ∧ c ≤ 9223372036854775807 := fun a c ks h => ⟨h.1, h.2.1⟩
  have HI0 : Hid (∀ a c ks, IsA w0 a c ks → ks.length ≤ c ∧ c ≤ 9223372036854775807) := hI0
  have htk : (x.ks.take 1).length = 1 := by rw [List.length_take, hl]; rfl
  have hdk : (x.ks.drop 1).length = 1 := by rw [List.length_drop, hl]
  rw [hl] at HU
  simp only [Nat.reduceSub] at HU
  rw [htk, hdk] at HU
  rw [htk] at HC2
  rw [hdk] at HC3
  have HS : Hid (St w0 b nd t W) := hS
  have hc1 := hn.ks.1
  have hc2 := hn.ks.2.1
  rw [hl] at hc1
  unfold nda
  rw [hk, hl]
  generalize x.ks.take 1 = ks1 at *
  generalize x.ks.drop 1 = ks2 at *
  have HL : Hid (ks1.length = 1 ∧ ks2.length = 1) := ⟨htk, hdk⟩
  clear hP hlen hS hn hk hT1 hT2 hl2 hT3 hl1 htk hdk hI0 hl
  generalize x.nm = xn at *
  generalize x.v = xv at *
  generalize x.kc = xc at *
  generalize x.ka = xa at *
  generalize x.fr = xf at *
  generalize x.en = xe at *
  clear x
  have HB0 : Hid (Bs w0 b nd t W #[.int .i64 21, .string xn, .int .i64 xv, .slice xa 2 xc, .int .i64 xf, .int .i64 xe] (W.alloc (.cells #[.int .i64 21, .string xn, .int .i64 xv, .slice xa 2 xc, .int .i64 xf, .int .i64 xe] 53))) := Bs.start HS.out _
  go_enter Tryz.func96, Tryz.ntmps96
  have HK0 : Hid (∀ T w', Bs w0 b nd T W #[.int .i64 21, .string xn, .int .i64 xv, .slice xa 2 xc, .int .i64 xf, .int .i64 xe] w' → w'.cell? ⟨W.heap.size, 0, none⟩ = some (.int .i64 21) ∧ w'.cell? ⟨W.heap.size, 1, none⟩ = some (.string xn) ∧ w'.cell? ⟨W.heap.size, 2, none⟩ = some (.int .i64 xv) ∧ w'.cell? ⟨W.heap.size, 3, none⟩ = some (.slice xa 2 xc) ∧ w'.cell? ⟨W.heap.size, 4, none⟩ = some (.int .i64 xf) ∧ w'.cell? ⟨W.heap.size, 5, none⟩ = some (.int .i64 xe)) := fun T w' h => ⟨(box6 h.bx).1, (box6 h.bx).2.1, (box6 h.bx).2.2.1, (box6 h.bx).2.2.2.1, (box6 h.bx).2.2.2.2.1, (box6 h.bx).2.2.2.2.2⟩
  go_wp2
  go_region_held3 (fun w' => w'.cell? ⟨W.heap.size, 0, none⟩ = some (.int .i64 21) ∧ w'.cell? ⟨W.heap.size, 1, none⟩ = some (.string xn) ∧ w'.cell? ⟨W.heap.size, 2, none⟩ = some (.int .i64 xv) ∧ w'.cell? ⟨W.heap.size, 3, none⟩ = some (.slice xa 2 xc) ∧ w'.cell? ⟨W.heap.size, 4, none⟩ = some (.int .i64 xf) ∧ w'.cell? ⟨W.heap.size, 5, none⟩ = some (.int .i64 xe)) (first | exact HK0.out _ _ HB0.out | exact HK0.out _ _ (HB0.out.later ⟨rfl, rfl, rfl, Nat.le_refl _, fun _ _ => rfl⟩) | exact HK0.out _ _ ((HB0.out.later ((Below.refl _ _).alloc (Nat.le_refl _) _)).later ⟨rfl, rfl, rfl, Nat.le_refl _, fun _ _ => rfl⟩) | exact HK0.out _ _ HB1.out | exact HK0.out _ _ HBm.out | exact HK0.out _ _ (HBm.out.later ⟨rfl, rfl, rfl, Nat.le_refl _, fun _ _ => rfl⟩) | exact HK0.out _ _ ((HBm.out.later ((Below.refl _ _).alloc (Nat.le_refl _) _)).later ⟨rfl, rfl, rfl, Nat.le_refl _, fun _ _ => rfl⟩) | exact HK0.out _ _ (HBm.out.later ((Below.refl _ _).alloc (Nat.le_refl _) _))) (first | (go_at_call 95; refine (mut95 _ _ _ _ _ _ _).mono ?_; rintro e wm ⟨rfl, hb⟩; have HBm : Hid (Bs w0 b nd t W #[.int .i64 21, .string xn, .int .i64 xv, .slice xa 2 xc, .int .i64 xf, .int .i64 xe] wm) := (by first | exact HB0.out.later hb | exact HB0.out.dr.later hb); clear hb; obtain ⟨m0, m1, m2, m3, m4, m5⟩ := box6 HBm.out.bx) | (go_at_call 26; refine (HC1.out _ _ (by first | rfl | simp) HBm.out.st).mono ?_; rintro e w1 ⟨rfl, hE⟩; have HB1 : Hid (Bs w0 b nd T1 W #[.int .i64 21, .string xn, .int .i64 xv, .slice xa 2 xc, .int .i64 xf, .int .i64 xe] w1) := HBm.out.put hE; clear hE; obtain ⟨d10, d11, d12, d13, d14, d15⟩ := box6 HB1.out.bx; skip))
  clear m0 m1 m2 m3 m4 m5
  go_wp2_with fail
  refine (HU.out _ HB1.out.st.bl).mono ?_
  rintro e w2 ⟨⟨nq, hw⟩, a1, c1, a2, c2, rfl, hI1, hI2⟩
  have HB2 : Hid (Bs w0 b nd T1 W #[.int .i64 21, .string xn, .int .i64 xv, .slice xa 2 xc, .int .i64 xf, .int .i64 xe] w2) := by rw [hw]; exact HB1.out.later (drew_below _ _)
  clear hw d10 d11 d12 d13 d14 d15
  obtain ⟨e11, e12⟩ := HI0.out _ _ _ hI1
  obtain ⟨e21, e22⟩ := HI0.out _ _ _ hI2
  rw [HL.out.1] at e11
  rw [HL.out.2] at e21
  have HI1 : Hid (IsA w0 a1 c1 ks1) := hI1
  have HI2 : Hid (IsA w0 a2 c2 ks2) := hI2
  clear hI1 hI2
  go_wp2_with fail
  refine (HC2.out a1 c1 HI1.out w2 _ rfl HB2.out.st).mono ?_
  rintro e w3 ⟨rfl, hE⟩
  have HB3 : Hid (Bs w0 b nd T2 W #[.int .i64 21, .string xn, .int .i64 xv, .slice xa 2 xc, .int .i64 xf, .int .i64 xe] w3) := HB2.out.put hE
  clear hE
  go_wp2_with fail
  refine (HC3.out a2 c2 HI2.out w3 _ rfl HB3.out.st).mono ?_
  rintro e w4 ⟨rfl, hE⟩
  have HE : Hid (PoS w0 b nd T3 W w4) := (HB3.out.put hE).pos
  clear hE
  go_wp2
  go_end0
  exact ⟨rfl, HE.out⟩
set_option maxRecDepth 100000 in
set_option maxHeartbeats 4000000 in
theorem pr_21 (w0 : World) (b : Nat) (nd : Value) (l : List Nd) (nt : Nat → Tks) (K : Nat) (hP : Puts w0 b nd l nt K 3) (x : Nd) (hk : x.k = 21) (hn : NdK w0 K x) : PrF w0 b nd l nt 70 x (prtK l x 21) := by
  intro t W hS hlen
  have har : x.ks.length = 1 ∨ x.ks.length = 2 := by have := hn.ar; rw [hk] at this; simpa [arB] using this
  obtain ⟨ps, hps, hF⟩ : ∃ ps, psT nt l (prtK l x 21) = psT nt l ps ++ psT nt l [.s ⟨#[59]⟩] ∧ PrF w0 b nd l nt 96 x ps := by
    rcases har with h | h
    · refine ⟨_, ?_, lt_21a w0 b nd l nt K hP x hk hn h⟩
      rw [← psT_app]
      show psT nt l (_ ++ ((if x.ks.length = 1 then [] else _) ++ ([.s ⟨#[61]⟩, .ea none 0 (x.ks.drop (x.ks.length - 1))] ++ _))) = _
      rw [if_pos h, h]
      rfl
    · refine ⟨_, ?_, lt_21b w0 b nd l nt K hP x hk hn h⟩
      rw [← psT_app]
      show psT nt l (_ ++ ((if x.ks.length = 1 then [] else [.s ⟨#[58]⟩, .ea none 0 (x.ks.take (x.ks.length - 1))]) ++ ([.s ⟨#[61]⟩, .ea none 0 (x.ks.drop (x.ks.length - 1))] ++ _))) = _
      rw [if_neg (by omega), h]
      rfl
  rw [hps, run_app] at hlen ⊢
  obtain ⟨T1, hT1⟩ : ∃ T, run t (psT nt l ps) = T := ⟨_, rfl⟩
  rw [hT1] at hlen ⊢
  obtain ⟨T2, hT2⟩ : ∃ T, run T1 (psT nt l [.s ⟨#[59]⟩]) = T := ⟨_, rfl⟩
  rw [hT2] at hlen ⊢
  have hl1 : T1.length ≤ 140737488355328 := Nat.le_trans (run_le _ _) (by rw [hT2]; exact hlen)
  have HC : Hid (∀ W, St w0 b nd t W → Calls Tryz.prog 96 #[.pointer (some ⟨b, 0, none⟩), nda x] W fun e w' => e = .returned (.tuple #[]) ∧ PoS w0 b nd T1 W w') := fun W hW => by
    have t := hF t W hW (by rw [hT1]; exact hl1)
    rw [hT1] at t
    exact t
  have HC2 : Hid (∀ W g, g = W.heap.size → St w0 b nd T1 W → Calls Tryz.prog 26 #[.pointer (some ⟨b, 0, none⟩), .slice (some ⟨g, 0, none⟩) 1 1] (W.alloc (.cells #[.iface 9 (.string ⟨#[59]⟩)] 20)) fun e w' => e = .returned (.tuple #[]) ∧ PoS w0 b nd T2 W w') := put_hc hP [.s ⟨#[59]⟩] (by simp) (all_1 (⟨by simp [Pt.rk], trivial⟩)) 1 rfl _ rfl T1 T2 hT2 hlen
  have HS : Hid (St w0 b nd t W) := hS
  have hc1 := hn.ks.1
  have hc2 := hn.ks.2.1
  unfold nda at *
  rw [hk] at *
  clear hP hlen hS hn hT1 hT2 hl1 hF hps har hk
  generalize x.ks.length = xl at *
  generalize x.nm = xn at *
  generalize x.v = xv at *
  generalize x.kc = xc at *
  generalize x.ka = xa at *
  generalize x.fr = xf at *
  generalize x.en = xe at *
  clear x ps
  go_enter Tryz.func70, Tryz.ntmps70
  go_wp2_with fail
  refine (HC.out _ (HS.out.alloc _)).mono ?_
  rintro e w1 ⟨rfl, hE⟩
  have HE1 : Hid (PoS w0 b nd T1 W w1) := hE.of_alloc
  clear hE
  go_wp2_with fail
  refine (HC2.out w1 _ (by first | rfl | simp) HE1.out.1).mono ?_
  rintro e w2 ⟨rfl, hE⟩
  have HE : Hid (PoS w0 b nd T2 W w2) := HE1.out.trans hE
  clear hE
  go_wp2
  go_end0
  exact ⟨rfl, HE.out⟩
end
end Go.Proofs.YtkkmeogehapjoaaGreatDoor
