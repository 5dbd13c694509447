/- An instruction, looked at: one way. -/
import Derived.Test.YtdppoblbenbafaaDoorXAE
namespace Go.Proofs.YtdppoblbenbafaaDoor
open Go.RowKit Go.Shelf
set_option maxRecDepth 100000 in
set_option maxHeartbeats 8000000 in
theorem insp_17 (f : Fnh) (i : Ins) (k m : Nat) (po : Option Nat) (F : ByteArray) (w : World) (hop : i.op = k) (k1 : 1 ≤ k) (k2 : k ≤ 11) (hF : w.cell? ⟨0, k * 2 + 1, none⟩ = some (.string F)) (h0 : 0 < w.heap.size) (hA : ArA w i.ar i.ac i.gs) (hG : ∀ y ∈ i.gs, belB y true f.rg = true) (e7 : ((k : Int) == 7) = false) (x1 : belB i.d (hsB F 68) f.rg = true) (e10 : ((k : Int) == 10) = true) (ea : (i.a == -1) = false) (x2 : belB i.a (hsB F 65) f.rg = true) (x3 : belB i.b (hsB F 66) f.rg = false) : Calls Tryd.prog 62 #[.agg #[.map (some m), .map po], fnhV f, inV i] w fun e w' => e = .returned (.bool false) ∧ G w w' := by
  have HA : Hid (ArA w i.ar i.ac i.gs) := hA
  have HG : Hid (∀ y ∈ i.gs, belB y true f.rg = true) := hG
  have hac := hA.1
  have hac2 := hA.2.1
  unfold fnhV inV at *
  rw [hop]
  obtain ⟨al, hal⟩ : ∃ al, al = i.gs.length := ⟨_, rfl⟩
  have HL : Hid (al = i.gs.length) := hal
  rw [← hal] at hac ⊢
  clear hal hA hG hop
  go_enter Tryd.func62, Tryd.ntmps62
  go_wp2
  have HW : Hid (Below w.heap.size w ((((w.alloc (.cells #[.map (some m), .map po] 68)).alloc (.cells #[.string f.nm, .int .i64 f.pa, .int .i64 f.rg, .int .i64 f.fr, .slice f.ba f.bl f.bc] 43)).alloc (.cells #[.int .i64 k, .int .i64 i.d, .int .i64 i.a, .int .i64 i.b, .int .i64 i.n, .string i.nm, .slice i.ar al i.ac, .int .i64 i.to, .int .i64 i.el] 49)).alloc (.cells #[.string F] 9))) := ((((G.refl _).alloc _).alloc _).alloc _ |>.alloc _).below
  have f2 : ((((w.alloc (.cells #[.map (some m), .map po] 68)).alloc (.cells #[.string f.nm, .int .i64 f.pa, .int .i64 f.rg, .int .i64 f.fr, .slice f.ba f.bl f.bc] 43)).alloc (.cells #[.int .i64 k, .int .i64 i.d, .int .i64 i.a, .int .i64 i.b, .int .i64 i.n, .string i.nm, .slice i.ar al i.ac, .int .i64 i.to, .int .i64 i.el] 49)).alloc (.cells #[.string F] 9)).cell? ⟨w.heap.size + 1, 2, none⟩ = some (.int .i64 f.rg) := by go_simp
  go_loop [28] (fun v => ∃ j : Nat, j ≤ al ∧ v = .int .i64 j) (fun v => al - (intOf v).toNat)
  case atStart => exact ⟨0, Nat.zero_le _, rfl⟩
  case round =>
    obtain ⟨j, hj, rfl⟩ := hrel
    by_cases hlt : j < al
    · obtain ⟨g, oo, hao, hcc⟩ := (HA.out.below HW.out).2.2 (by have := HL.out; omega)
      obtain ⟨yv, hy⟩ : ∃ yv, i.gs[j]? = some yv := ⟨_, List.getElem?_eq_getElem (by have := HL.out; omega)⟩
      have hcell := hcc j yv hy
      have hB : ∀ W : World, Calls Tryd.prog 68 #[.int .i64 yv, .bool true, .int .i64 f.rg] W fun e w' => e = .returned (.bool true) ∧ w' = W := fun W => by
        have t := below65 yv true f.rg W
        rw [HG.out yv (List.mem_of_getElem? hy)] at t
        exact t
      clear hcc hy
      rw [hao] at *
      go_wp2_with (first | (go_at_call 68; refine (hB _).mono ?_; rintro e w' ⟨rfl, rfl⟩))
      go_round
      case rel => exact ⟨j + 1, by omega, by go_num⟩
      case measure => simp [intOf]; omega
    · obtain rfl : al = j := by omega
      go_wp2
      have HGW : Hid (G w ((((w.alloc (.cells #[.map (some m), .map po] 68)).alloc (.cells #[.string f.nm, .int .i64 f.pa, .int .i64 f.rg, .int .i64 f.fr, .slice f.ba f.bl f.bc] 43)).alloc (.cells #[.int .i64 k, .int .i64 i.d, .int .i64 i.a, .int .i64 i.b, .int .i64 i.n, .string i.nm, .slice i.ar al i.ac, .int .i64 i.to, .int .i64 i.el] 49)).alloc (.cells #[.string F] 9))) := (((G.refl _).alloc _).alloc _).alloc _ |>.alloc _
      have q00 := gcell (W := (((w.alloc (.cells #[.map (some m), .map po] 68)).alloc (.cells #[.string f.nm, .int .i64 f.pa, .int .i64 f.rg, .int .i64 f.fr, .slice f.ba f.bl f.bc] 43)).alloc (.cells #[.int .i64 k, .int .i64 i.d, .int .i64 i.a, .int .i64 i.b, .int .i64 i.n, .string i.nm, .slice i.ar al i.ac, .int .i64 i.to, .int .i64 i.el] 49)).alloc (.cells #[.string F] 9)) (b := w.heap.size) (o := 0) (v := .map (some m)) (by first | (simp; done) | (simp; omega)) (by go_simp)
      have q01 := gcell (W := (((w.alloc (.cells #[.map (some m), .map po] 68)).alloc (.cells #[.string f.nm, .int .i64 f.pa, .int .i64 f.rg, .int .i64 f.fr, .slice f.ba f.bl f.bc] 43)).alloc (.cells #[.int .i64 k, .int .i64 i.d, .int .i64 i.a, .int .i64 i.b, .int .i64 i.n, .string i.nm, .slice i.ar al i.ac, .int .i64 i.to, .int .i64 i.el] 49)).alloc (.cells #[.string F] 9)) (b := w.heap.size) (o := 1) (v := .map po) (by first | (simp; done) | (simp; omega)) (by go_simp)
      have q10 := gcell (W := (((w.alloc (.cells #[.map (some m), .map po] 68)).alloc (.cells #[.string f.nm, .int .i64 f.pa, .int .i64 f.rg, .int .i64 f.fr, .slice f.ba f.bl f.bc] 43)).alloc (.cells #[.int .i64 k, .int .i64 i.d, .int .i64 i.a, .int .i64 i.b, .int .i64 i.n, .string i.nm, .slice i.ar al i.ac, .int .i64 i.to, .int .i64 i.el] 49)).alloc (.cells #[.string F] 9)) (b := w.heap.size + 1) (o := 0) (v := .string f.nm) (by first | (simp; done) | (simp; omega)) (by go_simp)
      have q11 := gcell (W := (((w.alloc (.cells #[.map (some m), .map po] 68)).alloc (.cells #[.string f.nm, .int .i64 f.pa, .int .i64 f.rg, .int .i64 f.fr, .slice f.ba f.bl f.bc] 43)).alloc (.cells #[.int .i64 k, .int .i64 i.d, .int .i64 i.a, .int .i64 i.b, .int .i64 i.n, .string i.nm, .slice i.ar al i.ac, .int .i64 i.to, .int .i64 i.el] 49)).alloc (.cells #[.string F] 9)) (b := w.heap.size + 1) (o := 1) (v := .int .i64 f.pa) (by first | (simp; done) | (simp; omega)) (by go_simp)
      have q12 := gcell (W := (((w.alloc (.cells #[.map (some m), .map po] 68)).alloc (.cells #[.string f.nm, .int .i64 f.pa, .int .i64 f.rg, .int .i64 f.fr, .slice f.ba f.bl f.bc] 43)).alloc (.cells #[.int .i64 k, .int .i64 i.d, .int .i64 i.a, .int .i64 i.b, .int .i64 i.n, .string i.nm, .slice i.ar al i.ac, .int .i64 i.to, .int .i64 i.el] 49)).alloc (.cells #[.string F] 9)) (b := w.heap.size + 1) (o := 2) (v := .int .i64 f.rg) (by first | (simp; done) | (simp; omega)) (by go_simp)
      have q13 := gcell (W := (((w.alloc (.cells #[.map (some m), .map po] 68)).alloc (.cells #[.string f.nm, .int .i64 f.pa, .int .i64 f.rg, .int .i64 f.fr, .slice f.ba f.bl f.bc] 43)).alloc (.cells #[.int .i64 k, .int .i64 i.d, .int .i64 i.a, .int .i64 i.b, .int .i64 i.n, .string i.nm, .slice i.ar al i.ac, .int .i64 i.to, .int .i64 i.el] 49)).alloc (.cells #[.string F] 9)) (b := w.heap.size + 1) (o := 3) (v := .int .i64 f.fr) (by first | (simp; done) | (simp; omega)) (by go_simp)
      have q14 := gcell (W := (((w.alloc (.cells #[.map (some m), .map po] 68)).alloc (.cells #[.string f.nm, .int .i64 f.pa, .int .i64 f.rg, .int .i64 f.fr, .slice f.ba f.bl f.bc] 43)).alloc (.cells #[.int .i64 k, .int .i64 i.d, .int .i64 i.a, .int .i64 i.b, .int .i64 i.n, .string i.nm, .slice i.ar al i.ac, .int .i64 i.to, .int .i64 i.el] 49)).alloc (.cells #[.string F] 9)) (b := w.heap.size + 1) (o := 4) (v := .slice f.ba f.bl f.bc) (by first | (simp; done) | (simp; omega)) (by go_simp)
      have q20 := gcell (W := (((w.alloc (.cells #[.map (some m), .map po] 68)).alloc (.cells #[.string f.nm, .int .i64 f.pa, .int .i64 f.rg, .int .i64 f.fr, .slice f.ba f.bl f.bc] 43)).alloc (.cells #[.int .i64 k, .int .i64 i.d, .int .i64 i.a, .int .i64 i.b, .int .i64 i.n, .string i.nm, .slice i.ar al i.ac, .int .i64 i.to, .int .i64 i.el] 49)).alloc (.cells #[.string F] 9)) (b := w.heap.size + 1 + 1) (o := 0) (v := .int .i64 k) (by first | (simp; done) | (simp; omega)) (by go_simp)
      have q21 := gcell (W := (((w.alloc (.cells #[.map (some m), .map po] 68)).alloc (.cells #[.string f.nm, .int .i64 f.pa, .int .i64 f.rg, .int .i64 f.fr, .slice f.ba f.bl f.bc] 43)).alloc (.cells #[.int .i64 k, .int .i64 i.d, .int .i64 i.a, .int .i64 i.b, .int .i64 i.n, .string i.nm, .slice i.ar al i.ac, .int .i64 i.to, .int .i64 i.el] 49)).alloc (.cells #[.string F] 9)) (b := w.heap.size + 1 + 1) (o := 1) (v := .int .i64 i.d) (by first | (simp; done) | (simp; omega)) (by go_simp)
      have q22 := gcell (W := (((w.alloc (.cells #[.map (some m), .map po] 68)).alloc (.cells #[.string f.nm, .int .i64 f.pa, .int .i64 f.rg, .int .i64 f.fr, .slice f.ba f.bl f.bc] 43)).alloc (.cells #[.int .i64 k, .int .i64 i.d, .int .i64 i.a, .int .i64 i.b, .int .i64 i.n, .string i.nm, .slice i.ar al i.ac, .int .i64 i.to, .int .i64 i.el] 49)).alloc (.cells #[.string F] 9)) (b := w.heap.size + 1 + 1) (o := 2) (v := .int .i64 i.a) (by first | (simp; done) | (simp; omega)) (by go_simp)
      have q23 := gcell (W := (((w.alloc (.cells #[.map (some m), .map po] 68)).alloc (.cells #[.string f.nm, .int .i64 f.pa, .int .i64 f.rg, .int .i64 f.fr, .slice f.ba f.bl f.bc] 43)).alloc (.cells #[.int .i64 k, .int .i64 i.d, .int .i64 i.a, .int .i64 i.b, .int .i64 i.n, .string i.nm, .slice i.ar al i.ac, .int .i64 i.to, .int .i64 i.el] 49)).alloc (.cells #[.string F] 9)) (b := w.heap.size + 1 + 1) (o := 3) (v := .int .i64 i.b) (by first | (simp; done) | (simp; omega)) (by go_simp)
      have q24 := gcell (W := (((w.alloc (.cells #[.map (some m), .map po] 68)).alloc (.cells #[.string f.nm, .int .i64 f.pa, .int .i64 f.rg, .int .i64 f.fr, .slice f.ba f.bl f.bc] 43)).alloc (.cells #[.int .i64 k, .int .i64 i.d, .int .i64 i.a, .int .i64 i.b, .int .i64 i.n, .string i.nm, .slice i.ar al i.ac, .int .i64 i.to, .int .i64 i.el] 49)).alloc (.cells #[.string F] 9)) (b := w.heap.size + 1 + 1) (o := 4) (v := .int .i64 i.n) (by first | (simp; done) | (simp; omega)) (by go_simp)
      have q25 := gcell (W := (((w.alloc (.cells #[.map (some m), .map po] 68)).alloc (.cells #[.string f.nm, .int .i64 f.pa, .int .i64 f.rg, .int .i64 f.fr, .slice f.ba f.bl f.bc] 43)).alloc (.cells #[.int .i64 k, .int .i64 i.d, .int .i64 i.a, .int .i64 i.b, .int .i64 i.n, .string i.nm, .slice i.ar al i.ac, .int .i64 i.to, .int .i64 i.el] 49)).alloc (.cells #[.string F] 9)) (b := w.heap.size + 1 + 1) (o := 5) (v := .string i.nm) (by first | (simp; done) | (simp; omega)) (by go_simp)
      have q26 := gcell (W := (((w.alloc (.cells #[.map (some m), .map po] 68)).alloc (.cells #[.string f.nm, .int .i64 f.pa, .int .i64 f.rg, .int .i64 f.fr, .slice f.ba f.bl f.bc] 43)).alloc (.cells #[.int .i64 k, .int .i64 i.d, .int .i64 i.a, .int .i64 i.b, .int .i64 i.n, .string i.nm, .slice i.ar al i.ac, .int .i64 i.to, .int .i64 i.el] 49)).alloc (.cells #[.string F] 9)) (b := w.heap.size + 1 + 1) (o := 6) (v := .slice i.ar al i.ac) (by first | (simp; done) | (simp; omega)) (by go_simp)
      have q27 := gcell (W := (((w.alloc (.cells #[.map (some m), .map po] 68)).alloc (.cells #[.string f.nm, .int .i64 f.pa, .int .i64 f.rg, .int .i64 f.fr, .slice f.ba f.bl f.bc] 43)).alloc (.cells #[.int .i64 k, .int .i64 i.d, .int .i64 i.a, .int .i64 i.b, .int .i64 i.n, .string i.nm, .slice i.ar al i.ac, .int .i64 i.to, .int .i64 i.el] 49)).alloc (.cells #[.string F] 9)) (b := w.heap.size + 1 + 1) (o := 7) (v := .int .i64 i.to) (by first | (simp; done) | (simp; omega)) (by go_simp)
      have q28 := gcell (W := (((w.alloc (.cells #[.map (some m), .map po] 68)).alloc (.cells #[.string f.nm, .int .i64 f.pa, .int .i64 f.rg, .int .i64 f.fr, .slice f.ba f.bl f.bc] 43)).alloc (.cells #[.int .i64 k, .int .i64 i.d, .int .i64 i.a, .int .i64 i.b, .int .i64 i.n, .string i.nm, .slice i.ar al i.ac, .int .i64 i.to, .int .i64 i.el] 49)).alloc (.cells #[.string F] 9)) (b := w.heap.size + 1 + 1) (o := 8) (v := .int .i64 i.el) (by first | (simp; done) | (simp; omega)) (by go_simp)
      have q30 := gcell (W := (((w.alloc (.cells #[.map (some m), .map po] 68)).alloc (.cells #[.string f.nm, .int .i64 f.pa, .int .i64 f.rg, .int .i64 f.fr, .slice f.ba f.bl f.bc] 43)).alloc (.cells #[.int .i64 k, .int .i64 i.d, .int .i64 i.a, .int .i64 i.b, .int .i64 i.n, .string i.nm, .slice i.ar al i.ac, .int .i64 i.to, .int .i64 i.el] 49)).alloc (.cells #[.string F] 9)) (b := w.heap.size + 1 + 1 + 1) (o := 0) (v := .string F) (by first | (simp; done) | (simp; omega)) (by go_simp)
      clear f2 hF h0
      generalize (((w.alloc (.cells #[.map (some m), .map po] 68)).alloc (.cells #[.string f.nm, .int .i64 f.pa, .int .i64 f.rg, .int .i64 f.fr, .slice f.ba f.bl f.bc] 43)).alloc (.cells #[.int .i64 k, .int .i64 i.d, .int .i64 i.a, .int .i64 i.b, .int .i64 i.n, .string i.nm, .slice i.ar al i.ac, .int .i64 i.to, .int .i64 i.el] 49)).alloc (.cells #[.string F] 9) = W at *
      have h68 : ∀ n os, Calls Tryd.prog 66 #[.string ⟨#[68]⟩, .pointer (some ⟨w.heap.size + 1 + 1 + 1, 0, none⟩)] (Go.Sort.grow (W.drewN n) os) fun e w2 => e = .returned (.bool (hsB F 68)) ∧ ∃ p : GrownBy, w2 = Go.Sort.grow (W.drewN p.n) p.os := fun n os => G.same (has63 F 68 _ _ (q30 n os))
      have b1 : ∀ n os, Calls Tryd.prog 68 #[.int .i64 i.d, .bool (hsB F 68), .int .i64 f.rg] (Go.Sort.grow (W.drewN n) os) fun e w2 => e = .returned (.bool true) ∧ ∃ p : GrownBy, w2 = Go.Sort.grow (W.drewN p.n) p.os := fun n os => by
        have t := below65 i.d (hsB F 68) f.rg (Go.Sort.grow (W.drewN n) os)
        rw [x1] at t
        exact G.same t
      have h65 : ∀ n os, Calls Tryd.prog 66 #[.string ⟨#[65]⟩, .pointer (some ⟨w.heap.size + 1 + 1 + 1, 0, none⟩)] (Go.Sort.grow (W.drewN n) os) fun e w2 => e = .returned (.bool (hsB F 65)) ∧ ∃ p : GrownBy, w2 = Go.Sort.grow (W.drewN p.n) p.os := fun n os => G.same (has63 F 65 _ _ (q30 n os))
      have b2 : ∀ n os, Calls Tryd.prog 68 #[.int .i64 i.a, .bool (hsB F 65), .int .i64 f.rg] (Go.Sort.grow (W.drewN n) os) fun e w2 => e = .returned (.bool true) ∧ ∃ p : GrownBy, w2 = Go.Sort.grow (W.drewN p.n) p.os := fun n os => by
        have t := below65 i.a (hsB F 65) f.rg (Go.Sort.grow (W.drewN n) os)
        rw [x2] at t
        exact G.same t
      have h66 : ∀ n os, Calls Tryd.prog 66 #[.string ⟨#[66]⟩, .pointer (some ⟨w.heap.size + 1 + 1 + 1, 0, none⟩)] (Go.Sort.grow (W.drewN n) os) fun e w2 => e = .returned (.bool (hsB F 66)) ∧ ∃ p : GrownBy, w2 = Go.Sort.grow (W.drewN p.n) p.os := fun n os => G.same (has63 F 66 _ _ (q30 n os))
      have b3 : ∀ n os, Calls Tryd.prog 68 #[.int .i64 i.b, .bool (hsB F 66), .int .i64 f.rg] (Go.Sort.grow (W.drewN n) os) fun e w2 => e = .returned (.bool false) ∧ ∃ p : GrownBy, w2 = Go.Sort.grow (W.drewN p.n) p.os := fun n os => by
        have t := below65 i.b (hsB F 66) f.rg (Go.Sort.grow (W.drewN n) os)
        rw [x3] at t
        exact G.same t
      refine wp_region_quiet_grown (by kernel_rfl) (by exact lex59) ?_
      try dsimp only [List.append]
      repeat (go_big_quiet_step ((first | (go_at_call 66; first | with_reducible exact h68 _ _ | with_reducible exact h65 _ _ | with_reducible exact h66 _ _) | (go_at_call 68; first | with_reducible exact b1 _ _ | with_reducible exact b2 _ _ | with_reducible exact b3 _ _))))
      refine wpQuiet_nil ?_
      intro _ hw'
      obtain ⟨⟨nq, osq⟩, hw''⟩ := hw'
      subst hw''
      go_wp2
      go_ret
      exact ⟨rfl, HGW.out.trans ⟨_, _, rfl⟩⟩
set_option maxRecDepth 100000 in
set_option maxHeartbeats 8000000 in
theorem insp_18 (f : Fnh) (i : Ins) (k m : Nat) (po : Option Nat) (F : ByteArray) (w : World) (hop : i.op = k) (k1 : 1 ≤ k) (k2 : k ≤ 11) (hF : w.cell? ⟨0, k * 2 + 1, none⟩ = some (.string F)) (h0 : 0 < w.heap.size) (hA : ArA w i.ar i.ac i.gs) (hG : ∀ y ∈ i.gs, belB y true f.rg = true) (e7 : ((k : Int) == 7) = false) (x1 : belB i.d (hsB F 68) f.rg = true) (e10 : ((k : Int) == 10) = true) (ea : (i.a == -1) = false) (x2 : belB i.a (hsB F 65) f.rg = true) (x3 : belB i.b (hsB F 66) f.rg = true) (x4 : belB i.to (hsB F 84) f.bl = false) : Calls Tryd.prog 62 #[.agg #[.map (some m), .map po], fnhV f, inV i] w fun e w' => e = .returned (.bool false) ∧ G w w' := by
  have HA : Hid (ArA w i.ar i.ac i.gs) := hA
  have HG : Hid (∀ y ∈ i.gs, belB y true f.rg = true) := hG
  have hac := hA.1
  have hac2 := hA.2.1
  unfold fnhV inV at *
  rw [hop]
  obtain ⟨al, hal⟩ : ∃ al, al = i.gs.length := ⟨_, rfl⟩
  have HL : Hid (al = i.gs.length) := hal
  rw [← hal] at hac ⊢
  clear hal hA hG hop
  go_enter Tryd.func62, Tryd.ntmps62
  go_wp2
  have HW : Hid (Below w.heap.size w ((((w.alloc (.cells #[.map (some m), .map po] 68)).alloc (.cells #[.string f.nm, .int .i64 f.pa, .int .i64 f.rg, .int .i64 f.fr, .slice f.ba f.bl f.bc] 43)).alloc (.cells #[.int .i64 k, .int .i64 i.d, .int .i64 i.a, .int .i64 i.b, .int .i64 i.n, .string i.nm, .slice i.ar al i.ac, .int .i64 i.to, .int .i64 i.el] 49)).alloc (.cells #[.string F] 9))) := ((((G.refl _).alloc _).alloc _).alloc _ |>.alloc _).below
  have f2 : ((((w.alloc (.cells #[.map (some m), .map po] 68)).alloc (.cells #[.string f.nm, .int .i64 f.pa, .int .i64 f.rg, .int .i64 f.fr, .slice f.ba f.bl f.bc] 43)).alloc (.cells #[.int .i64 k, .int .i64 i.d, .int .i64 i.a, .int .i64 i.b, .int .i64 i.n, .string i.nm, .slice i.ar al i.ac, .int .i64 i.to, .int .i64 i.el] 49)).alloc (.cells #[.string F] 9)).cell? ⟨w.heap.size + 1, 2, none⟩ = some (.int .i64 f.rg) := by go_simp
  go_loop [28] (fun v => ∃ j : Nat, j ≤ al ∧ v = .int .i64 j) (fun v => al - (intOf v).toNat)
  case atStart => exact ⟨0, Nat.zero_le _, rfl⟩
  case round =>
    obtain ⟨j, hj, rfl⟩ := hrel
    by_cases hlt : j < al
    · obtain ⟨g, oo, hao, hcc⟩ := (HA.out.below HW.out).2.2 (by have := HL.out; omega)
      obtain ⟨yv, hy⟩ : ∃ yv, i.gs[j]? = some yv := ⟨_, List.getElem?_eq_getElem (by have := HL.out; omega)⟩
      have hcell := hcc j yv hy
      have hB : ∀ W : World, Calls Tryd.prog 68 #[.int .i64 yv, .bool true, .int .i64 f.rg] W fun e w' => e = .returned (.bool true) ∧ w' = W := fun W => by
        have t := below65 yv true f.rg W
        rw [HG.out yv (List.mem_of_getElem? hy)] at t
        exact t
      clear hcc hy
      rw [hao] at *
      go_wp2_with (first | (go_at_call 68; refine (hB _).mono ?_; rintro e w' ⟨rfl, rfl⟩))
      go_round
      case rel => exact ⟨j + 1, by omega, by go_num⟩
      case measure => simp [intOf]; omega
    · obtain rfl : al = j := by omega
      go_wp2
      have HGW : Hid (G w ((((w.alloc (.cells #[.map (some m), .map po] 68)).alloc (.cells #[.string f.nm, .int .i64 f.pa, .int .i64 f.rg, .int .i64 f.fr, .slice f.ba f.bl f.bc] 43)).alloc (.cells #[.int .i64 k, .int .i64 i.d, .int .i64 i.a, .int .i64 i.b, .int .i64 i.n, .string i.nm, .slice i.ar al i.ac, .int .i64 i.to, .int .i64 i.el] 49)).alloc (.cells #[.string F] 9))) := (((G.refl _).alloc _).alloc _).alloc _ |>.alloc _
      have q00 := gcell (W := (((w.alloc (.cells #[.map (some m), .map po] 68)).alloc (.cells #[.string f.nm, .int .i64 f.pa, .int .i64 f.rg, .int .i64 f.fr, .slice f.ba f.bl f.bc] 43)).alloc (.cells #[.int .i64 k, .int .i64 i.d, .int .i64 i.a, .int .i64 i.b, .int .i64 i.n, .string i.nm, .slice i.ar al i.ac, .int .i64 i.to, .int .i64 i.el] 49)).alloc (.cells #[.string F] 9)) (b := w.heap.size) (o := 0) (v := .map (some m)) (by first | (simp; done) | (simp; omega)) (by go_simp)
      have q01 := gcell (W := (((w.alloc (.cells #[.map (some m), .map po] 68)).alloc (.cells #[.string f.nm, .int .i64 f.pa, .int .i64 f.rg, .int .i64 f.fr, .slice f.ba f.bl f.bc] 43)).alloc (.cells #[.int .i64 k, .int .i64 i.d, .int .i64 i.a, .int .i64 i.b, .int .i64 i.n, .string i.nm, .slice i.ar al i.ac, .int .i64 i.to, .int .i64 i.el] 49)).alloc (.cells #[.string F] 9)) (b := w.heap.size) (o := 1) (v := .map po) (by first | (simp; done) | (simp; omega)) (by go_simp)
      have q10 := gcell (W := (((w.alloc (.cells #[.map (some m), .map po] 68)).alloc (.cells #[.string f.nm, .int .i64 f.pa, .int .i64 f.rg, .int .i64 f.fr, .slice f.ba f.bl f.bc] 43)).alloc (.cells #[.int .i64 k, .int .i64 i.d, .int .i64 i.a, .int .i64 i.b, .int .i64 i.n, .string i.nm, .slice i.ar al i.ac, .int .i64 i.to, .int .i64 i.el] 49)).alloc (.cells #[.string F] 9)) (b := w.heap.size + 1) (o := 0) (v := .string f.nm) (by first | (simp; done) | (simp; omega)) (by go_simp)
      have q11 := gcell (W := (((w.alloc (.cells #[.map (some m), .map po] 68)).alloc (.cells #[.string f.nm, .int .i64 f.pa, .int .i64 f.rg, .int .i64 f.fr, .slice f.ba f.bl f.bc] 43)).alloc (.cells #[.int .i64 k, .int .i64 i.d, .int .i64 i.a, .int .i64 i.b, .int .i64 i.n, .string i.nm, .slice i.ar al i.ac, .int .i64 i.to, .int .i64 i.el] 49)).alloc (.cells #[.string F] 9)) (b := w.heap.size + 1) (o := 1) (v := .int .i64 f.pa) (by first | (simp; done) | (simp; omega)) (by go_simp)
      have q12 := gcell (W := (((w.alloc (.cells #[.map (some m), .map po] 68)).alloc (.cells #[.string f.nm, .int .i64 f.pa, .int .i64 f.rg, .int .i64 f.fr, .slice f.ba f.bl f.bc] 43)).alloc (.cells #[.int .i64 k, .int .i64 i.d, .int .i64 i.a, .int .i64 i.b, .int .i64 i.n, .string i.nm, .slice i.ar al i.ac, .int .i64 i.to, .int .i64 i.el] 49)).alloc (.cells #[.string F] 9)) (b := w.heap.size + 1) (o := 2) (v := .int .i64 f.rg) (by first | (simp; done) | (simp; omega)) (by go_simp)
      have q13 := gcell (W := (((w.alloc (.cells #[.map (some m), .map po] 68)).alloc (.cells #[.string f.nm, .int .i64 f.pa, .int .i64 f.rg, .int .i64 f.fr, .slice f.ba f.bl f.bc] 43)).alloc (.cells #[.int .i64 k, .int .i64 i.d, .int .i64 i.a, .int .i64 i.b, .int .i64 i.n, .string i.nm, .slice i.ar al i.ac, .int .i64 i.to, .int .i64 i.el] 49)).alloc (.cells #[.string F] 9)) (b := w.heap.size + 1) (o := 3) (v := .int .i64 f.fr) (by first | (simp; done) | (simp; omega)) (by go_simp)
      have q14 := gcell (W := (((w.alloc (.cells #[.map (some m), .map po] 68)).alloc (.cells #[.string f.nm, .int .i64 f.pa, .int .i64 f.rg, .int .i64 f.fr, .slice f.ba f.bl f.bc] 43)).alloc (.cells #[.int .i64 k, .int .i64 i.d, .int .i64 i.a, .int .i64 i.b, .int .i64 i.n, .string i.nm, .slice i.ar al i.ac, .int .i64 i.to, .int .i64 i.el] 49)).alloc (.cells #[.string F] 9)) (b := w.heap.size + 1) (o := 4) (v := .slice f.ba f.bl f.bc) (by first | (simp; done) | (simp; omega)) (by go_simp)
      have q20 := gcell (W := (((w.alloc (.cells #[.map (some m), .map po] 68)).alloc (.cells #[.string f.nm, .int .i64 f.pa, .int .i64 f.rg, .int .i64 f.fr, .slice f.ba f.bl f.bc] 43)).alloc (.cells #[.int .i64 k, .int .i64 i.d, .int .i64 i.a, .int .i64 i.b, .int .i64 i.n, .string i.nm, .slice i.ar al i.ac, .int .i64 i.to, .int .i64 i.el] 49)).alloc (.cells #[.string F] 9)) (b := w.heap.size + 1 + 1) (o := 0) (v := .int .i64 k) (by first | (simp; done) | (simp; omega)) (by go_simp)
      have q21 := gcell (W := (((w.alloc (.cells #[.map (some m), .map po] 68)).alloc (.cells #[.string f.nm, .int .i64 f.pa, .int .i64 f.rg, .int .i64 f.fr, .slice f.ba f.bl f.bc] 43)).alloc (.cells #[.int .i64 k, .int .i64 i.d, .int .i64 i.a, .int .i64 i.b, .int .i64 i.n, .string i.nm, .slice i.ar al i.ac, .int .i64 i.to, .int .i64 i.el] 49)).alloc (.cells #[.string F] 9)) (b := w.heap.size + 1 + 1) (o := 1) (v := .int .i64 i.d) (by first | (simp; done) | (simp; omega)) (by go_simp)
      have q22 := gcell (W := (((w.alloc (.cells #[.map (some m), .map po] 68)).alloc (.cells #[.string f.nm, .int .i64 f.pa, .int .i64 f.rg, .int .i64 f.fr, .slice f.ba f.bl f.bc] 43)).alloc (.cells #[.int .i64 k, .int .i64 i.d, .int .i64 i.a, .int .i64 i.b, .int .i64 i.n, .string i.nm, .slice i.ar al i.ac, .int .i64 i.to, .int .i64 i.el] 49)).alloc (.cells #[.string F] 9)) (b := w.heap.size + 1 + 1) (o := 2) (v := .int .i64 i.a) (by first | (simp; done) | (simp; omega)) (by go_simp)
      have q23 := gcell (W := (((w.alloc (.cells #[.map (some m), .map po] 68)).alloc (.cells #[.string f.nm, .int .i64 f.pa, .int .i64 f.rg, .int .i64 f.fr, .slice f.ba f.bl f.bc] 43)).alloc (.cells #[.int .i64 k, .int .i64 i.d, .int .i64 i.a, .int .i64 i.b, .int .i64 i.n, .string i.nm, .slice i.ar al i.ac, .int .i64 i.to, .int .i64 i.el] 49)).alloc (.cells #[.string F] 9)) (b := w.heap.size + 1 + 1) (o := 3) (v := .int .i64 i.b) (by first | (simp; done) | (simp; omega)) (by go_simp)
      have q24 := gcell (W := (((w.alloc (.cells #[.map (some m), .map po] 68)).alloc (.cells #[.string f.nm, .int .i64 f.pa, .int .i64 f.rg, .int .i64 f.fr, .slice f.ba f.bl f.bc] 43)).alloc (.cells #[.int .i64 k, .int .i64 i.d, .int .i64 i.a, .int .i64 i.b, .int .i64 i.n, .string i.nm, .slice i.ar al i.ac, .int .i64 i.to, .int .i64 i.el] 49)).alloc (.cells #[.string F] 9)) (b := w.heap.size + 1 + 1) (o := 4) (v := .int .i64 i.n) (by first | (simp; done) | (simp; omega)) (by go_simp)
      have q25 := gcell (W := (((w.alloc (.cells #[.map (some m), .map po] 68)).alloc (.cells #[.string f.nm, .int .i64 f.pa, .int .i64 f.rg, .int .i64 f.fr, .slice f.ba f.bl f.bc] 43)).alloc (.cells #[.int .i64 k, .int .i64 i.d, .int .i64 i.a, .int .i64 i.b, .int .i64 i.n, .string i.nm, .slice i.ar al i.ac, .int .i64 i.to, .int .i64 i.el] 49)).alloc (.cells #[.string F] 9)) (b := w.heap.size + 1 + 1) (o := 5) (v := .string i.nm) (by first | (simp; done) | (simp; omega)) (by go_simp)
      have q26 := gcell (W := (((w.alloc (.cells #[.map (some m), .map po] 68)).alloc (.cells #[.string f.nm, .int .i64 f.pa, .int .i64 f.rg, .int .i64 f.fr, .slice f.ba f.bl f.bc] 43)).alloc (.cells #[.int .i64 k, .int .i64 i.d, .int .i64 i.a, .int .i64 i.b, .int .i64 i.n, .string i.nm, .slice i.ar al i.ac, .int .i64 i.to, .int .i64 i.el] 49)).alloc (.cells #[.string F] 9)) (b := w.heap.size + 1 + 1) (o := 6) (v := .slice i.ar al i.ac) (by first | (simp; done) | (simp; omega)) (by go_simp)
      have q27 := gcell (W := (((w.alloc (.cells #[.map (some m), .map po] 68)).alloc (.cells #[.string f.nm, .int .i64 f.pa, .int .i64 f.rg, .int .i64 f.fr, .slice f.ba f.bl f.bc] 43)).alloc (.cells #[.int .i64 k, .int .i64 i.d, .int .i64 i.a, .int .i64 i.b, .int .i64 i.n, .string i.nm, .slice i.ar al i.ac, .int .i64 i.to, .int .i64 i.el] 49)).alloc (.cells #[.string F] 9)) (b := w.heap.size + 1 + 1) (o := 7) (v := .int .i64 i.to) (by first | (simp; done) | (simp; omega)) (by go_simp)
      have q28 := gcell (W := (((w.alloc (.cells #[.map (some m), .map po] 68)).alloc (.cells #[.string f.nm, .int .i64 f.pa, .int .i64 f.rg, .int .i64 f.fr, .slice f.ba f.bl f.bc] 43)).alloc (.cells #[.int .i64 k, .int .i64 i.d, .int .i64 i.a, .int .i64 i.b, .int .i64 i.n, .string i.nm, .slice i.ar al i.ac, .int .i64 i.to, .int .i64 i.el] 49)).alloc (.cells #[.string F] 9)) (b := w.heap.size + 1 + 1) (o := 8) (v := .int .i64 i.el) (by first | (simp; done) | (simp; omega)) (by go_simp)
      have q30 := gcell (W := (((w.alloc (.cells #[.map (some m), .map po] 68)).alloc (.cells #[.string f.nm, .int .i64 f.pa, .int .i64 f.rg, .int .i64 f.fr, .slice f.ba f.bl f.bc] 43)).alloc (.cells #[.int .i64 k, .int .i64 i.d, .int .i64 i.a, .int .i64 i.b, .int .i64 i.n, .string i.nm, .slice i.ar al i.ac, .int .i64 i.to, .int .i64 i.el] 49)).alloc (.cells #[.string F] 9)) (b := w.heap.size + 1 + 1 + 1) (o := 0) (v := .string F) (by first | (simp; done) | (simp; omega)) (by go_simp)
      clear f2 hF h0
      generalize (((w.alloc (.cells #[.map (some m), .map po] 68)).alloc (.cells #[.string f.nm, .int .i64 f.pa, .int .i64 f.rg, .int .i64 f.fr, .slice f.ba f.bl f.bc] 43)).alloc (.cells #[.int .i64 k, .int .i64 i.d, .int .i64 i.a, .int .i64 i.b, .int .i64 i.n, .string i.nm, .slice i.ar al i.ac, .int .i64 i.to, .int .i64 i.el] 49)).alloc (.cells #[.string F] 9) = W at *
      have h68 : ∀ n os, Calls Tryd.prog 66 #[.string ⟨#[68]⟩, .pointer (some ⟨w.heap.size + 1 + 1 + 1, 0, none⟩)] (Go.Sort.grow (W.drewN n) os) fun e w2 => e = .returned (.bool (hsB F 68)) ∧ ∃ p : GrownBy, w2 = Go.Sort.grow (W.drewN p.n) p.os := fun n os => G.same (has63 F 68 _ _ (q30 n os))
      have b1 : ∀ n os, Calls Tryd.prog 68 #[.int .i64 i.d, .bool (hsB F 68), .int .i64 f.rg] (Go.Sort.grow (W.drewN n) os) fun e w2 => e = .returned (.bool true) ∧ ∃ p : GrownBy, w2 = Go.Sort.grow (W.drewN p.n) p.os := fun n os => by
        have t := below65 i.d (hsB F 68) f.rg (Go.Sort.grow (W.drewN n) os)
        rw [x1] at t
        exact G.same t
      have h65 : ∀ n os, Calls Tryd.prog 66 #[.string ⟨#[65]⟩, .pointer (some ⟨w.heap.size + 1 + 1 + 1, 0, none⟩)] (Go.Sort.grow (W.drewN n) os) fun e w2 => e = .returned (.bool (hsB F 65)) ∧ ∃ p : GrownBy, w2 = Go.Sort.grow (W.drewN p.n) p.os := fun n os => G.same (has63 F 65 _ _ (q30 n os))
      have b2 : ∀ n os, Calls Tryd.prog 68 #[.int .i64 i.a, .bool (hsB F 65), .int .i64 f.rg] (Go.Sort.grow (W.drewN n) os) fun e w2 => e = .returned (.bool true) ∧ ∃ p : GrownBy, w2 = Go.Sort.grow (W.drewN p.n) p.os := fun n os => by
        have t := below65 i.a (hsB F 65) f.rg (Go.Sort.grow (W.drewN n) os)
        rw [x2] at t
        exact G.same t
      have h66 : ∀ n os, Calls Tryd.prog 66 #[.string ⟨#[66]⟩, .pointer (some ⟨w.heap.size + 1 + 1 + 1, 0, none⟩)] (Go.Sort.grow (W.drewN n) os) fun e w2 => e = .returned (.bool (hsB F 66)) ∧ ∃ p : GrownBy, w2 = Go.Sort.grow (W.drewN p.n) p.os := fun n os => G.same (has63 F 66 _ _ (q30 n os))
      have b3 : ∀ n os, Calls Tryd.prog 68 #[.int .i64 i.b, .bool (hsB F 66), .int .i64 f.rg] (Go.Sort.grow (W.drewN n) os) fun e w2 => e = .returned (.bool true) ∧ ∃ p : GrownBy, w2 = Go.Sort.grow (W.drewN p.n) p.os := fun n os => by
        have t := below65 i.b (hsB F 66) f.rg (Go.Sort.grow (W.drewN n) os)
        rw [x3] at t
        exact G.same t
      have h84 : ∀ n os, Calls Tryd.prog 66 #[.string ⟨#[84]⟩, .pointer (some ⟨w.heap.size + 1 + 1 + 1, 0, none⟩)] (Go.Sort.grow (W.drewN n) os) fun e w2 => e = .returned (.bool (hsB F 84)) ∧ ∃ p : GrownBy, w2 = Go.Sort.grow (W.drewN p.n) p.os := fun n os => G.same (has63 F 84 _ _ (q30 n os))
      have b4 : ∀ n os, Calls Tryd.prog 68 #[.int .i64 i.to, .bool (hsB F 84), .int .i64 f.bl] (Go.Sort.grow (W.drewN n) os) fun e w2 => e = .returned (.bool false) ∧ ∃ p : GrownBy, w2 = Go.Sort.grow (W.drewN p.n) p.os := fun n os => by
        have t := below65 i.to (hsB F 84) f.bl (Go.Sort.grow (W.drewN n) os)
        rw [x4] at t
        exact G.same t
      refine wp_region_quiet_grown (by kernel_rfl) (by exact lex59) ?_
      try dsimp only [List.append]
      repeat (go_big_quiet_step ((first | (go_at_call 66; first | with_reducible exact h68 _ _ | with_reducible exact h65 _ _ | with_reducible exact h66 _ _ | with_reducible exact h84 _ _) | (go_at_call 68; first | with_reducible exact b1 _ _ | with_reducible exact b2 _ _ | with_reducible exact b3 _ _ | with_reducible exact b4 _ _))))
      refine wpQuiet_nil ?_
      intro _ hw'
      obtain ⟨⟨nq, osq⟩, hw''⟩ := hw'
      subst hw''
      go_wp2
      go_ret
      exact ⟨rfl, HGW.out.trans ⟨_, _, rfl⟩⟩
set_option maxRecDepth 100000 in
set_option maxHeartbeats 8000000 in
theorem insp_19 (f : Fnh) (i : Ins) (k m : Nat) (po : Option Nat) (F : ByteArray) (w : World) (hop : i.op = k) (k1 : 1 ≤ k) (k2 : k ≤ 11) (hF : w.cell? ⟨0, k * 2 + 1, none⟩ = some (.string F)) (h0 : 0 < w.heap.size) (hA : ArA w i.ar i.ac i.gs) (hG : ∀ y ∈ i.gs, belB y true f.rg = true) (e7 : ((k : Int) == 7) = false) (x1 : belB i.d (hsB F 68) f.rg = true) (e10 : ((k : Int) == 10) = true) (ea : (i.a == -1) = false) (x2 : belB i.a (hsB F 65) f.rg = true) (x3 : belB i.b (hsB F 66) f.rg = true) (x4 : belB i.to (hsB F 84) f.bl = true) (x5 : belB i.el (hsB F 69) f.bl = false) : Calls Tryd.prog 62 #[.agg #[.map (some m), .map po], fnhV f, inV i] w fun e w' => e = .returned (.bool false) ∧ G w w' := by
  have HA : Hid (ArA w i.ar i.ac i.gs) := hA
  have HG : Hid (∀ y ∈ i.gs, belB y true f.rg = true) := hG
  have hac := hA.1
  have hac2 := hA.2.1
  unfold fnhV inV at *
  rw [hop]
  obtain ⟨al, hal⟩ : ∃ al, al = i.gs.length := ⟨_, rfl⟩
  have HL : Hid (al = i.gs.length) := hal
  rw [← hal] at hac ⊢
  clear hal hA hG hop
  go_enter Tryd.func62, Tryd.ntmps62
  go_wp2
  have HW : Hid (Below w.heap.size w ((((w.alloc (.cells #[.map (some m), .map po] 68)).alloc (.cells #[.string f.nm, .int .i64 f.pa, .int .i64 f.rg, .int .i64 f.fr, .slice f.ba f.bl f.bc] 43)).alloc (.cells #[.int .i64 k, .int .i64 i.d, .int .i64 i.a, .int .i64 i.b, .int .i64 i.n, .string i.nm, .slice i.ar al i.ac, .int .i64 i.to, .int .i64 i.el] 49)).alloc (.cells #[.string F] 9))) := ((((G.refl _).alloc _).alloc _).alloc _ |>.alloc _).below
  have f2 : ((((w.alloc (.cells #[.map (some m), .map po] 68)).alloc (.cells #[.string f.nm, .int .i64 f.pa, .int .i64 f.rg, .int .i64 f.fr, .slice f.ba f.bl f.bc] 43)).alloc (.cells #[.int .i64 k, .int .i64 i.d, .int .i64 i.a, .int .i64 i.b, .int .i64 i.n, .string i.nm, .slice i.ar al i.ac, .int .i64 i.to, .int .i64 i.el] 49)).alloc (.cells #[.string F] 9)).cell? ⟨w.heap.size + 1, 2, none⟩ = some (.int .i64 f.rg) := by go_simp
  go_loop [28] (fun v => ∃ j : Nat, j ≤ al ∧ v = .int .i64 j) (fun v => al - (intOf v).toNat)
  case atStart => exact ⟨0, Nat.zero_le _, rfl⟩
  case round =>
    obtain ⟨j, hj, rfl⟩ := hrel
    by_cases hlt : j < al
    · obtain ⟨g, oo, hao, hcc⟩ := (HA.out.below HW.out).2.2 (by have := HL.out; omega)
      obtain ⟨yv, hy⟩ : ∃ yv, i.gs[j]? = some yv := ⟨_, List.getElem?_eq_getElem (by have := HL.out; omega)⟩
      have hcell := hcc j yv hy
      have hB : ∀ W : World, Calls Tryd.prog 68 #[.int .i64 yv, .bool true, .int .i64 f.rg] W fun e w' => e = .returned (.bool true) ∧ w' = W := fun W => by
        have t := below65 yv true f.rg W
        rw [HG.out yv (List.mem_of_getElem? hy)] at t
        exact t
      clear hcc hy
      rw [hao] at *
      go_wp2_with (first | (go_at_call 68; refine (hB _).mono ?_; rintro e w' ⟨rfl, rfl⟩))
      go_round
      case rel => exact ⟨j + 1, by omega, by go_num⟩
      case measure => simp [intOf]; omega
    · obtain rfl : al = j := by omega
      go_wp2
      have HGW : Hid (G w ((((w.alloc (.cells #[.map (some m), .map po] 68)).alloc (.cells #[.string f.nm, .int .i64 f.pa, .int .i64 f.rg, .int .i64 f.fr, .slice f.ba f.bl f.bc] 43)).alloc (.cells #[.int .i64 k, .int .i64 i.d, .int .i64 i.a, .int .i64 i.b, .int .i64 i.n, .string i.nm, .slice i.ar al i.ac, .int .i64 i.to, .int .i64 i.el] 49)).alloc (.cells #[.string F] 9))) := (((G.refl _).alloc _).alloc _).alloc _ |>.alloc _
      have q00 := gcell (W := (((w.alloc (.cells #[.map (some m), .map po] 68)).alloc (.cells #[.string f.nm, .int .i64 f.pa, .int .i64 f.rg, .int .i64 f.fr, .slice f.ba f.bl f.bc] 43)).alloc (.cells #[.int .i64 k, .int .i64 i.d, .int .i64 i.a, .int .i64 i.b, .int .i64 i.n, .string i.nm, .slice i.ar al i.ac, .int .i64 i.to, .int .i64 i.el] 49)).alloc (.cells #[.string F] 9)) (b := w.heap.size) (o := 0) (v := .map (some m)) (by first | (simp; done) | (simp; omega)) (by go_simp)
      have q01 := gcell (W := (((w.alloc (.cells #[.map (some m), .map po] 68)).alloc (.cells #[.string f.nm, .int .i64 f.pa, .int .i64 f.rg, .int .i64 f.fr, .slice f.ba f.bl f.bc] 43)).alloc (.cells #[.int .i64 k, .int .i64 i.d, .int .i64 i.a, .int .i64 i.b, .int .i64 i.n, .string i.nm, .slice i.ar al i.ac, .int .i64 i.to, .int .i64 i.el] 49)).alloc (.cells #[.string F] 9)) (b := w.heap.size) (o := 1) (v := .map po) (by first | (simp; done) | (simp; omega)) (by go_simp)
      have q10 := gcell (W := (((w.alloc (.cells #[.map (some m), .map po] 68)).alloc (.cells #[.string f.nm, .int .i64 f.pa, .int .i64 f.rg, .int .i64 f.fr, .slice f.ba f.bl f.bc] 43)).alloc (.cells #[.int .i64 k, .int .i64 i.d, .int .i64 i.a, .int .i64 i.b, .int .i64 i.n, .string i.nm, .slice i.ar al i.ac, .int .i64 i.to, .int .i64 i.el] 49)).alloc (.cells #[.string F] 9)) (b := w.heap.size + 1) (o := 0) (v := .string f.nm) (by first | (simp; done) | (simp; omega)) (by go_simp)
      have q11 := gcell (W := (((w.alloc (.cells #[.map (some m), .map po] 68)).alloc (.cells #[.string f.nm, .int .i64 f.pa, .int .i64 f.rg, .int .i64 f.fr, .slice f.ba f.bl f.bc] 43)).alloc (.cells #[.int .i64 k, .int .i64 i.d, .int .i64 i.a, .int .i64 i.b, .int .i64 i.n, .string i.nm, .slice i.ar al i.ac, .int .i64 i.to, .int .i64 i.el] 49)).alloc (.cells #[.string F] 9)) (b := w.heap.size + 1) (o := 1) (v := .int .i64 f.pa) (by first | (simp; done) | (simp; omega)) (by go_simp)
      have q12 := gcell (W := (((w.alloc (.cells #[.map (some m), .map po] 68)).alloc (.cells #[.string f.nm, .int .i64 f.pa, .int .i64 f.rg, .int .i64 f.fr, .slice f.ba f.bl f.bc] 43)).alloc (.cells #[.int .i64 k, .int .i64 i.d, .int .i64 i.a, .int .i64 i.b, .int .i64 i.n, .string i.nm, .slice i.ar al i.ac, .int .i64 i.to, .int .i64 i.el] 49)).alloc (.cells #[.string F] 9)) (b := w.heap.size + 1) (o := 2) (v := .int .i64 f.rg) (by first | (simp; done) | (simp; omega)) (by go_simp)
      have q13 := gcell (W := (((w.alloc (.cells #[.map (some m), .map po] 68)).alloc (.cells #[.string f.nm, .int .i64 f.pa, .int .i64 f.rg, .int .i64 f.fr, .slice f.ba f.bl f.bc] 43)).alloc (.cells #[.int .i64 k, .int .i64 i.d, .int .i64 i.a, .int .i64 i.b, .int .i64 i.n, .string i.nm, .slice i.ar al i.ac, .int .i64 i.to, .int .i64 i.el] 49)).alloc (.cells #[.string F] 9)) (b := w.heap.size + 1) (o := 3) (v := .int .i64 f.fr) (by first | (simp; done) | (simp; omega)) (by go_simp)
      have q14 := gcell (W := (((w.alloc (.cells #[.map (some m), .map po] 68)).alloc (.cells #[.string f.nm, .int .i64 f.pa, .int .i64 f.rg, .int .i64 f.fr, .slice f.ba f.bl f.bc] 43)).alloc (.cells #[.int .i64 k, .int .i64 i.d, .int .i64 i.a, .int .i64 i.b, .int .i64 i.n, .string i.nm, .slice i.ar al i.ac, .int .i64 i.to, .int .i64 i.el] 49)).alloc (.cells #[.string F] 9)) (b := w.heap.size + 1) (o := 4) (v := .slice f.ba f.bl f.bc) (by first | (simp; done) | (simp; omega)) (by go_simp)
      have q20 := gcell (W := (((w.alloc (.cells #[.map (some m), .map po] 68)).alloc (.cells #[.string f.nm, .int .i64 f.pa, .int .i64 f.rg, .int .i64 f.fr, .slice f.ba f.bl f.bc] 43)).alloc (.cells #[.int .i64 k, .int .i64 i.d, .int .i64 i.a, .int .i64 i.b, .int .i64 i.n, .string i.nm, .slice i.ar al i.ac, .int .i64 i.to, .int .i64 i.el] 49)).alloc (.cells #[.string F] 9)) (b := w.heap.size + 1 + 1) (o := 0) (v := .int .i64 k) (by first | (simp; done) | (simp; omega)) (by go_simp)
      have q21 := gcell (W := (((w.alloc (.cells #[.map (some m), .map po] 68)).alloc (.cells #[.string f.nm, .int .i64 f.pa, .int .i64 f.rg, .int .i64 f.fr, .slice f.ba f.bl f.bc] 43)).alloc (.cells #[.int .i64 k, .int .i64 i.d, .int .i64 i.a, .int .i64 i.b, .int .i64 i.n, .string i.nm, .slice i.ar al i.ac, .int .i64 i.to, .int .i64 i.el] 49)).alloc (.cells #[.string F] 9)) (b := w.heap.size + 1 + 1) (o := 1) (v := .int .i64 i.d) (by first | (simp; done) | (simp; omega)) (by go_simp)
      have q22 := gcell (W := (((w.alloc (.cells #[.map (some m), .map po] 68)).alloc (.cells #[.string f.nm, .int .i64 f.pa, .int .i64 f.rg, .int .i64 f.fr, .slice f.ba f.bl f.bc] 43)).alloc (.cells #[.int .i64 k, .int .i64 i.d, .int .i64 i.a, .int .i64 i.b, .int .i64 i.n, .string i.nm, .slice i.ar al i.ac, .int .i64 i.to, .int .i64 i.el] 49)).alloc (.cells #[.string F] 9)) (b := w.heap.size + 1 + 1) (o := 2) (v := .int .i64 i.a) (by first | (simp; done) | (simp; omega)) (by go_simp)
      have q23 := gcell (W := (((w.alloc (.cells #[.map (some m), .map po] 68)).alloc (.cells #[.string f.nm, .int .i64 f.pa, .int .i64 f.rg, .int .i64 f.fr, .slice f.ba f.bl f.bc] 43)).alloc (.cells #[.int .i64 k, .int .i64 i.d, .int .i64 i.a, .int .i64 i.b, .int .i64 i.n, .string i.nm, .slice i.ar al i.ac, .int .i64 i.to, .int .i64 i.el] 49)).alloc (.cells #[.string F] 9)) (b := w.heap.size + 1 + 1) (o := 3) (v := .int .i64 i.b) (by first | (simp; done) | (simp; omega)) (by go_simp)
      have q24 := gcell (W := (((w.alloc (.cells #[.map (some m), .map po] 68)).alloc (.cells #[.string f.nm, .int .i64 f.pa, .int .i64 f.rg, .int .i64 f.fr, .slice f.ba f.bl f.bc] 43)).alloc (.cells #[.int .i64 k, .int .i64 i.d, .int .i64 i.a, .int .i64 i.b, .int .i64 i.n, .string i.nm, .slice i.ar al i.ac, .int .i64 i.to, .int .i64 i.el] 49)).alloc (.cells #[.string F] 9)) (b := w.heap.size + 1 + 1) (o := 4) (v := .int .i64 i.n) (by first | (simp; done) | (simp; omega)) (by go_simp)
      have q25 := gcell (W := (((w.alloc (.cells #[.map (some m), .map po] 68)).alloc (.cells #[.string f.nm, .int .i64 f.pa, .int .i64 f.rg, .int .i64 f.fr, .slice f.ba f.bl f.bc] 43)).alloc (.cells #[.int .i64 k, .int .i64 i.d, .int .i64 i.a, .int .i64 i.b, .int .i64 i.n, .string i.nm, .slice i.ar al i.ac, .int .i64 i.to, .int .i64 i.el] 49)).alloc (.cells #[.string F] 9)) (b := w.heap.size + 1 + 1) (o := 5) (v := .string i.nm) (by first | (simp; done) | (simp; omega)) (by go_simp)
      have q26 := gcell (W := (((w.alloc (.cells #[.map (some m), .map po] 68)).alloc (.cells #[.string f.nm, .int .i64 f.pa, .int .i64 f.rg, .int .i64 f.fr, .slice f.ba f.bl f.bc] 43)).alloc (.cells #[.int .i64 k, .int .i64 i.d, .int .i64 i.a, .int .i64 i.b, .int .i64 i.n, .string i.nm, .slice i.ar al i.ac, .int .i64 i.to, .int .i64 i.el] 49)).alloc (.cells #[.string F] 9)) (b := w.heap.size + 1 + 1) (o := 6) (v := .slice i.ar al i.ac) (by first | (simp; done) | (simp; omega)) (by go_simp)
      have q27 := gcell (W := (((w.alloc (.cells #[.map (some m), .map po] 68)).alloc (.cells #[.string f.nm, .int .i64 f.pa, .int .i64 f.rg, .int .i64 f.fr, .slice f.ba f.bl f.bc] 43)).alloc (.cells #[.int .i64 k, .int .i64 i.d, .int .i64 i.a, .int .i64 i.b, .int .i64 i.n, .string i.nm, .slice i.ar al i.ac, .int .i64 i.to, .int .i64 i.el] 49)).alloc (.cells #[.string F] 9)) (b := w.heap.size + 1 + 1) (o := 7) (v := .int .i64 i.to) (by first | (simp; done) | (simp; omega)) (by go_simp)
      have q28 := gcell (W := (((w.alloc (.cells #[.map (some m), .map po] 68)).alloc (.cells #[.string f.nm, .int .i64 f.pa, .int .i64 f.rg, .int .i64 f.fr, .slice f.ba f.bl f.bc] 43)).alloc (.cells #[.int .i64 k, .int .i64 i.d, .int .i64 i.a, .int .i64 i.b, .int .i64 i.n, .string i.nm, .slice i.ar al i.ac, .int .i64 i.to, .int .i64 i.el] 49)).alloc (.cells #[.string F] 9)) (b := w.heap.size + 1 + 1) (o := 8) (v := .int .i64 i.el) (by first | (simp; done) | (simp; omega)) (by go_simp)
      have q30 := gcell (W := (((w.alloc (.cells #[.map (some m), .map po] 68)).alloc (.cells #[.string f.nm, .int .i64 f.pa, .int .i64 f.rg, .int .i64 f.fr, .slice f.ba f.bl f.bc] 43)).alloc (.cells #[.int .i64 k, .int .i64 i.d, .int .i64 i.a, .int .i64 i.b, .int .i64 i.n, .string i.nm, .slice i.ar al i.ac, .int .i64 i.to, .int .i64 i.el] 49)).alloc (.cells #[.string F] 9)) (b := w.heap.size + 1 + 1 + 1) (o := 0) (v := .string F) (by first | (simp; done) | (simp; omega)) (by go_simp)
      clear f2 hF h0
      generalize (((w.alloc (.cells #[.map (some m), .map po] 68)).alloc (.cells #[.string f.nm, .int .i64 f.pa, .int .i64 f.rg, .int .i64 f.fr, .slice f.ba f.bl f.bc] 43)).alloc (.cells #[.int .i64 k, .int .i64 i.d, .int .i64 i.a, .int .i64 i.b, .int .i64 i.n, .string i.nm, .slice i.ar al i.ac, .int .i64 i.to, .int .i64 i.el] 49)).alloc (.cells #[.string F] 9) = W at *
      have h68 : ∀ n os, Calls Tryd.prog 66 #[.string ⟨#[68]⟩, .pointer (some ⟨w.heap.size + 1 + 1 + 1, 0, none⟩)] (Go.Sort.grow (W.drewN n) os) fun e w2 => e = .returned (.bool (hsB F 68)) ∧ ∃ p : GrownBy, w2 = Go.Sort.grow (W.drewN p.n) p.os := fun n os => G.same (has63 F 68 _ _ (q30 n os))
      have b1 : ∀ n os, Calls Tryd.prog 68 #[.int .i64 i.d, .bool (hsB F 68), .int .i64 f.rg] (Go.Sort.grow (W.drewN n) os) fun e w2 => e = .returned (.bool true) ∧ ∃ p : GrownBy, w2 = Go.Sort.grow (W.drewN p.n) p.os := fun n os => by
        have t := below65 i.d (hsB F 68) f.rg (Go.Sort.grow (W.drewN n) os)
        rw [x1] at t
        exact G.same t
      have h65 : ∀ n os, Calls Tryd.prog 66 #[.string ⟨#[65]⟩, .pointer (some ⟨w.heap.size + 1 + 1 + 1, 0, none⟩)] (Go.Sort.grow (W.drewN n) os) fun e w2 => e = .returned (.bool (hsB F 65)) ∧ ∃ p : GrownBy, w2 = Go.Sort.grow (W.drewN p.n) p.os := fun n os => G.same (has63 F 65 _ _ (q30 n os))
      have b2 : ∀ n os, Calls Tryd.prog 68 #[.int .i64 i.a, .bool (hsB F 65), .int .i64 f.rg] (Go.Sort.grow (W.drewN n) os) fun e w2 => e = .returned (.bool true) ∧ ∃ p : GrownBy, w2 = Go.Sort.grow (W.drewN p.n) p.os := fun n os => by
        have t := below65 i.a (hsB F 65) f.rg (Go.Sort.grow (W.drewN n) os)
        rw [x2] at t
        exact G.same t
      have h66 : ∀ n os, Calls Tryd.prog 66 #[.string ⟨#[66]⟩, .pointer (some ⟨w.heap.size + 1 + 1 + 1, 0, none⟩)] (Go.Sort.grow (W.drewN n) os) fun e w2 => e = .returned (.bool (hsB F 66)) ∧ ∃ p : GrownBy, w2 = Go.Sort.grow (W.drewN p.n) p.os := fun n os => G.same (has63 F 66 _ _ (q30 n os))
      have b3 : ∀ n os, Calls Tryd.prog 68 #[.int .i64 i.b, .bool (hsB F 66), .int .i64 f.rg] (Go.Sort.grow (W.drewN n) os) fun e w2 => e = .returned (.bool true) ∧ ∃ p : GrownBy, w2 = Go.Sort.grow (W.drewN p.n) p.os := fun n os => by
        have t := below65 i.b (hsB F 66) f.rg (Go.Sort.grow (W.drewN n) os)
        rw [x3] at t
        exact G.same t
      have h84 : ∀ n os, Calls Tryd.prog 66 #[.string ⟨#[84]⟩, .pointer (some ⟨w.heap.size + 1 + 1 + 1, 0, none⟩)] (Go.Sort.grow (W.drewN n) os) fun e w2 => e = .returned (.bool (hsB F 84)) ∧ ∃ p : GrownBy, w2 = Go.Sort.grow (W.drewN p.n) p.os := fun n os => G.same (has63 F 84 _ _ (q30 n os))
      have b4 : ∀ n os, Calls Tryd.prog 68 #[.int .i64 i.to, .bool (hsB F 84), .int .i64 f.bl] (Go.Sort.grow (W.drewN n) os) fun e w2 => e = .returned (.bool true) ∧ ∃ p : GrownBy, w2 = Go.Sort.grow (W.drewN p.n) p.os := fun n os => by
        have t := below65 i.to (hsB F 84) f.bl (Go.Sort.grow (W.drewN n) os)
        rw [x4] at t
        exact G.same t
      have h69 : ∀ n os, Calls Tryd.prog 66 #[.string ⟨#[69]⟩, .pointer (some ⟨w.heap.size + 1 + 1 + 1, 0, none⟩)] (Go.Sort.grow (W.drewN n) os) fun e w2 => e = .returned (.bool (hsB F 69)) ∧ ∃ p : GrownBy, w2 = Go.Sort.grow (W.drewN p.n) p.os := fun n os => G.same (has63 F 69 _ _ (q30 n os))
      have b5 : ∀ n os, Calls Tryd.prog 68 #[.int .i64 i.el, .bool (hsB F 69), .int .i64 f.bl] (Go.Sort.grow (W.drewN n) os) fun e w2 => e = .returned (.bool false) ∧ ∃ p : GrownBy, w2 = Go.Sort.grow (W.drewN p.n) p.os := fun n os => by
        have t := below65 i.el (hsB F 69) f.bl (Go.Sort.grow (W.drewN n) os)
        rw [x5] at t
        exact G.same t
      refine wp_region_quiet_grown (by kernel_rfl) (by exact lex59) ?_
      try dsimp only [List.append]
      repeat (go_big_quiet_step ((first | (go_at_call 66; first | with_reducible exact h68 _ _ | with_reducible exact h65 _ _ | with_reducible exact h66 _ _ | with_reducible exact h84 _ _ | with_reducible exact h69 _ _) | (go_at_call 68; first | with_reducible exact b1 _ _ | with_reducible exact b2 _ _ | with_reducible exact b3 _ _ | with_reducible exact b4 _ _ | with_reducible exact b5 _ _))))
      refine wpQuiet_nil ?_
      intro _ hw'
      obtain ⟨⟨nq, osq⟩, hw''⟩ := hw'
      subst hw''
      go_wp2
      go_ret
      exact ⟨rfl, HGW.out.trans ⟨_, _, rfl⟩⟩
set_option maxRecDepth 100000 in
set_option maxHeartbeats 8000000 in
theorem insp_20 (f : Fnh) (i : Ins) (k m : Nat) (po : Option Nat) (F : ByteArray) (w : World) (hop : i.op = k) (k1 : 1 ≤ k) (k2 : k ≤ 11) (hF : w.cell? ⟨0, k * 2 + 1, none⟩ = some (.string F)) (h0 : 0 < w.heap.size) (hA : ArA w i.ar i.ac i.gs) (hG : ∀ y ∈ i.gs, belB y true f.rg = true) (e7 : ((k : Int) == 7) = false) (x1 : belB i.d (hsB F 68) f.rg = true) (e10 : ((k : Int) == 10) = true) (ea : (i.a == -1) = false) (x2 : belB i.a (hsB F 65) f.rg = true) (x3 : belB i.b (hsB F 66) f.rg = true) (x4 : belB i.to (hsB F 84) f.bl = true) (x5 : belB i.el (hsB F 69) f.bl = true) (x6 : numB f.fr k i.n = false) : Calls Tryd.prog 62 #[.agg #[.map (some m), .map po], fnhV f, inV i] w fun e w' => e = .returned (.bool false) ∧ G w w' := by
  have hN := fun W => numberRight66 f i W
  rw [hop, x6] at hN
  have HA : Hid (ArA w i.ar i.ac i.gs) := hA
  have HG : Hid (∀ y ∈ i.gs, belB y true f.rg = true) := hG
  have hac := hA.1
  have hac2 := hA.2.1
  unfold fnhV inV at *
  rw [hop]
  rw [hop] at hN
  obtain ⟨al, hal⟩ : ∃ al, al = i.gs.length := ⟨_, rfl⟩
  have HL : Hid (al = i.gs.length) := hal
  rw [← hal] at hac ⊢
  rw [← hal] at hN
  clear hal hA hG hop
  go_enter Tryd.func62, Tryd.ntmps62
  go_wp2
  have HW : Hid (Below w.heap.size w ((((w.alloc (.cells #[.map (some m), .map po] 68)).alloc (.cells #[.string f.nm, .int .i64 f.pa, .int .i64 f.rg, .int .i64 f.fr, .slice f.ba f.bl f.bc] 43)).alloc (.cells #[.int .i64 k, .int .i64 i.d, .int .i64 i.a, .int .i64 i.b, .int .i64 i.n, .string i.nm, .slice i.ar al i.ac, .int .i64 i.to, .int .i64 i.el] 49)).alloc (.cells #[.string F] 9))) := ((((G.refl _).alloc _).alloc _).alloc _ |>.alloc _).below
  have f2 : ((((w.alloc (.cells #[.map (some m), .map po] 68)).alloc (.cells #[.string f.nm, .int .i64 f.pa, .int .i64 f.rg, .int .i64 f.fr, .slice f.ba f.bl f.bc] 43)).alloc (.cells #[.int .i64 k, .int .i64 i.d, .int .i64 i.a, .int .i64 i.b, .int .i64 i.n, .string i.nm, .slice i.ar al i.ac, .int .i64 i.to, .int .i64 i.el] 49)).alloc (.cells #[.string F] 9)).cell? ⟨w.heap.size + 1, 2, none⟩ = some (.int .i64 f.rg) := by go_simp
  go_loop [28] (fun v => ∃ j : Nat, j ≤ al ∧ v = .int .i64 j) (fun v => al - (intOf v).toNat)
  case atStart => exact ⟨0, Nat.zero_le _, rfl⟩
  case round =>
    obtain ⟨j, hj, rfl⟩ := hrel
    by_cases hlt : j < al
    · obtain ⟨g, oo, hao, hcc⟩ := (HA.out.below HW.out).2.2 (by have := HL.out; omega)
      obtain ⟨yv, hy⟩ : ∃ yv, i.gs[j]? = some yv := ⟨_, List.getElem?_eq_getElem (by have := HL.out; omega)⟩
      have hcell := hcc j yv hy
      have hB : ∀ W : World, Calls Tryd.prog 68 #[.int .i64 yv, .bool true, .int .i64 f.rg] W fun e w' => e = .returned (.bool true) ∧ w' = W := fun W => by
        have t := below65 yv true f.rg W
        rw [HG.out yv (List.mem_of_getElem? hy)] at t
        exact t
      clear hcc hy
      rw [hao] at *
      go_wp2_with (first | (go_at_call 68; refine (hB _).mono ?_; rintro e w' ⟨rfl, rfl⟩))
      go_round
      case rel => exact ⟨j + 1, by omega, by go_num⟩
      case measure => simp [intOf]; omega
    · obtain rfl : al = j := by omega
      go_wp2
      have HGW : Hid (G w ((((w.alloc (.cells #[.map (some m), .map po] 68)).alloc (.cells #[.string f.nm, .int .i64 f.pa, .int .i64 f.rg, .int .i64 f.fr, .slice f.ba f.bl f.bc] 43)).alloc (.cells #[.int .i64 k, .int .i64 i.d, .int .i64 i.a, .int .i64 i.b, .int .i64 i.n, .string i.nm, .slice i.ar al i.ac, .int .i64 i.to, .int .i64 i.el] 49)).alloc (.cells #[.string F] 9))) := (((G.refl _).alloc _).alloc _).alloc _ |>.alloc _
      have q00 := gcell (W := (((w.alloc (.cells #[.map (some m), .map po] 68)).alloc (.cells #[.string f.nm, .int .i64 f.pa, .int .i64 f.rg, .int .i64 f.fr, .slice f.ba f.bl f.bc] 43)).alloc (.cells #[.int .i64 k, .int .i64 i.d, .int .i64 i.a, .int .i64 i.b, .int .i64 i.n, .string i.nm, .slice i.ar al i.ac, .int .i64 i.to, .int .i64 i.el] 49)).alloc (.cells #[.string F] 9)) (b := w.heap.size) (o := 0) (v := .map (some m)) (by first | (simp; done) | (simp; omega)) (by go_simp)
      have q01 := gcell (W := (((w.alloc (.cells #[.map (some m), .map po] 68)).alloc (.cells #[.string f.nm, .int .i64 f.pa, .int .i64 f.rg, .int .i64 f.fr, .slice f.ba f.bl f.bc] 43)).alloc (.cells #[.int .i64 k, .int .i64 i.d, .int .i64 i.a, .int .i64 i.b, .int .i64 i.n, .string i.nm, .slice i.ar al i.ac, .int .i64 i.to, .int .i64 i.el] 49)).alloc (.cells #[.string F] 9)) (b := w.heap.size) (o := 1) (v := .map po) (by first | (simp; done) | (simp; omega)) (by go_simp)
      have q10 := gcell (W := (((w.alloc (.cells #[.map (some m), .map po] 68)).alloc (.cells #[.string f.nm, .int .i64 f.pa, .int .i64 f.rg, .int .i64 f.fr, .slice f.ba f.bl f.bc] 43)).alloc (.cells #[.int .i64 k, .int .i64 i.d, .int .i64 i.a, .int .i64 i.b, .int .i64 i.n, .string i.nm, .slice i.ar al i.ac, .int .i64 i.to, .int .i64 i.el] 49)).alloc (.cells #[.string F] 9)) (b := w.heap.size + 1) (o := 0) (v := .string f.nm) (by first | (simp; done) | (simp; omega)) (by go_simp)
      have q11 := gcell (W := (((w.alloc (.cells #[.map (some m), .map po] 68)).alloc (.cells #[.string f.nm, .int .i64 f.pa, .int .i64 f.rg, .int .i64 f.fr, .slice f.ba f.bl f.bc] 43)).alloc (.cells #[.int .i64 k, .int .i64 i.d, .int .i64 i.a, .int .i64 i.b, .int .i64 i.n, .string i.nm, .slice i.ar al i.ac, .int .i64 i.to, .int .i64 i.el] 49)).alloc (.cells #[.string F] 9)) (b := w.heap.size + 1) (o := 1) (v := .int .i64 f.pa) (by first | (simp; done) | (simp; omega)) (by go_simp)
      have q12 := gcell (W := (((w.alloc (.cells #[.map (some m), .map po] 68)).alloc (.cells #[.string f.nm, .int .i64 f.pa, .int .i64 f.rg, .int .i64 f.fr, .slice f.ba f.bl f.bc] 43)).alloc (.cells #[.int .i64 k, .int .i64 i.d, .int .i64 i.a, .int .i64 i.b, .int .i64 i.n, .string i.nm, .slice i.ar al i.ac, .int .i64 i.to, .int .i64 i.el] 49)).alloc (.cells #[.string F] 9)) (b := w.heap.size + 1) (o := 2) (v := .int .i64 f.rg) (by first | (simp; done) | (simp; omega)) (by go_simp)
      have q13 := gcell (W := (((w.alloc (.cells #[.map (some m), .map po] 68)).alloc (.cells #[.string f.nm, .int .i64 f.pa, .int .i64 f.rg, .int .i64 f.fr, .slice f.ba f.bl f.bc] 43)).alloc (.cells #[.int .i64 k, .int .i64 i.d, .int .i64 i.a, .int .i64 i.b, .int .i64 i.n, .string i.nm, .slice i.ar al i.ac, .int .i64 i.to, .int .i64 i.el] 49)).alloc (.cells #[.string F] 9)) (b := w.heap.size + 1) (o := 3) (v := .int .i64 f.fr) (by first | (simp; done) | (simp; omega)) (by go_simp)
      have q14 := gcell (W := (((w.alloc (.cells #[.map (some m), .map po] 68)).alloc (.cells #[.string f.nm, .int .i64 f.pa, .int .i64 f.rg, .int .i64 f.fr, .slice f.ba f.bl f.bc] 43)).alloc (.cells #[.int .i64 k, .int .i64 i.d, .int .i64 i.a, .int .i64 i.b, .int .i64 i.n, .string i.nm, .slice i.ar al i.ac, .int .i64 i.to, .int .i64 i.el] 49)).alloc (.cells #[.string F] 9)) (b := w.heap.size + 1) (o := 4) (v := .slice f.ba f.bl f.bc) (by first | (simp; done) | (simp; omega)) (by go_simp)
      have q20 := gcell (W := (((w.alloc (.cells #[.map (some m), .map po] 68)).alloc (.cells #[.string f.nm, .int .i64 f.pa, .int .i64 f.rg, .int .i64 f.fr, .slice f.ba f.bl f.bc] 43)).alloc (.cells #[.int .i64 k, .int .i64 i.d, .int .i64 i.a, .int .i64 i.b, .int .i64 i.n, .string i.nm, .slice i.ar al i.ac, .int .i64 i.to, .int .i64 i.el] 49)).alloc (.cells #[.string F] 9)) (b := w.heap.size + 1 + 1) (o := 0) (v := .int .i64 k) (by first | (simp; done) | (simp; omega)) (by go_simp)
      have q21 := gcell (W := (((w.alloc (.cells #[.map (some m), .map po] 68)).alloc (.cells #[.string f.nm, .int .i64 f.pa, .int .i64 f.rg, .int .i64 f.fr, .slice f.ba f.bl f.bc] 43)).alloc (.cells #[.int .i64 k, .int .i64 i.d, .int .i64 i.a, .int .i64 i.b, .int .i64 i.n, .string i.nm, .slice i.ar al i.ac, .int .i64 i.to, .int .i64 i.el] 49)).alloc (.cells #[.string F] 9)) (b := w.heap.size + 1 + 1) (o := 1) (v := .int .i64 i.d) (by first | (simp; done) | (simp; omega)) (by go_simp)
      have q22 := gcell (W := (((w.alloc (.cells #[.map (some m), .map po] 68)).alloc (.cells #[.string f.nm, .int .i64 f.pa, .int .i64 f.rg, .int .i64 f.fr, .slice f.ba f.bl f.bc] 43)).alloc (.cells #[.int .i64 k, .int .i64 i.d, .int .i64 i.a, .int .i64 i.b, .int .i64 i.n, .string i.nm, .slice i.ar al i.ac, .int .i64 i.to, .int .i64 i.el] 49)).alloc (.cells #[.string F] 9)) (b := w.heap.size + 1 + 1) (o := 2) (v := .int .i64 i.a) (by first | (simp; done) | (simp; omega)) (by go_simp)
      have q23 := gcell (W := (((w.alloc (.cells #[.map (some m), .map po] 68)).alloc (.cells #[.string f.nm, .int .i64 f.pa, .int .i64 f.rg, .int .i64 f.fr, .slice f.ba f.bl f.bc] 43)).alloc (.cells #[.int .i64 k, .int .i64 i.d, .int .i64 i.a, .int .i64 i.b, .int .i64 i.n, .string i.nm, .slice i.ar al i.ac, .int .i64 i.to, .int .i64 i.el] 49)).alloc (.cells #[.string F] 9)) (b := w.heap.size + 1 + 1) (o := 3) (v := .int .i64 i.b) (by first | (simp; done) | (simp; omega)) (by go_simp)
      have q24 := gcell (W := (((w.alloc (.cells #[.map (some m), .map po] 68)).alloc (.cells #[.string f.nm, .int .i64 f.pa, .int .i64 f.rg, .int .i64 f.fr, .slice f.ba f.bl f.bc] 43)).alloc (.cells #[.int .i64 k, .int .i64 i.d, .int .i64 i.a, .int .i64 i.b, .int .i64 i.n, .string i.nm, .slice i.ar al i.ac, .int .i64 i.to, .int .i64 i.el] 49)).alloc (.cells #[.string F] 9)) (b := w.heap.size + 1 + 1) (o := 4) (v := .int .i64 i.n) (by first | (simp; done) | (simp; omega)) (by go_simp)
      have q25 := gcell (W := (((w.alloc (.cells #[.map (some m), .map po] 68)).alloc (.cells #[.string f.nm, .int .i64 f.pa, .int .i64 f.rg, .int .i64 f.fr, .slice f.ba f.bl f.bc] 43)).alloc (.cells #[.int .i64 k, .int .i64 i.d, .int .i64 i.a, .int .i64 i.b, .int .i64 i.n, .string i.nm, .slice i.ar al i.ac, .int .i64 i.to, .int .i64 i.el] 49)).alloc (.cells #[.string F] 9)) (b := w.heap.size + 1 + 1) (o := 5) (v := .string i.nm) (by first | (simp; done) | (simp; omega)) (by go_simp)
      have q26 := gcell (W := (((w.alloc (.cells #[.map (some m), .map po] 68)).alloc (.cells #[.string f.nm, .int .i64 f.pa, .int .i64 f.rg, .int .i64 f.fr, .slice f.ba f.bl f.bc] 43)).alloc (.cells #[.int .i64 k, .int .i64 i.d, .int .i64 i.a, .int .i64 i.b, .int .i64 i.n, .string i.nm, .slice i.ar al i.ac, .int .i64 i.to, .int .i64 i.el] 49)).alloc (.cells #[.string F] 9)) (b := w.heap.size + 1 + 1) (o := 6) (v := .slice i.ar al i.ac) (by first | (simp; done) | (simp; omega)) (by go_simp)
      have q27 := gcell (W := (((w.alloc (.cells #[.map (some m), .map po] 68)).alloc (.cells #[.string f.nm, .int .i64 f.pa, .int .i64 f.rg, .int .i64 f.fr, .slice f.ba f.bl f.bc] 43)).alloc (.cells #[.int .i64 k, .int .i64 i.d, .int .i64 i.a, .int .i64 i.b, .int .i64 i.n, .string i.nm, .slice i.ar al i.ac, .int .i64 i.to, .int .i64 i.el] 49)).alloc (.cells #[.string F] 9)) (b := w.heap.size + 1 + 1) (o := 7) (v := .int .i64 i.to) (by first | (simp; done) | (simp; omega)) (by go_simp)
      have q28 := gcell (W := (((w.alloc (.cells #[.map (some m), .map po] 68)).alloc (.cells #[.string f.nm, .int .i64 f.pa, .int .i64 f.rg, .int .i64 f.fr, .slice f.ba f.bl f.bc] 43)).alloc (.cells #[.int .i64 k, .int .i64 i.d, .int .i64 i.a, .int .i64 i.b, .int .i64 i.n, .string i.nm, .slice i.ar al i.ac, .int .i64 i.to, .int .i64 i.el] 49)).alloc (.cells #[.string F] 9)) (b := w.heap.size + 1 + 1) (o := 8) (v := .int .i64 i.el) (by first | (simp; done) | (simp; omega)) (by go_simp)
      have q30 := gcell (W := (((w.alloc (.cells #[.map (some m), .map po] 68)).alloc (.cells #[.string f.nm, .int .i64 f.pa, .int .i64 f.rg, .int .i64 f.fr, .slice f.ba f.bl f.bc] 43)).alloc (.cells #[.int .i64 k, .int .i64 i.d, .int .i64 i.a, .int .i64 i.b, .int .i64 i.n, .string i.nm, .slice i.ar al i.ac, .int .i64 i.to, .int .i64 i.el] 49)).alloc (.cells #[.string F] 9)) (b := w.heap.size + 1 + 1 + 1) (o := 0) (v := .string F) (by first | (simp; done) | (simp; omega)) (by go_simp)
      clear f2 hF h0
      generalize (((w.alloc (.cells #[.map (some m), .map po] 68)).alloc (.cells #[.string f.nm, .int .i64 f.pa, .int .i64 f.rg, .int .i64 f.fr, .slice f.ba f.bl f.bc] 43)).alloc (.cells #[.int .i64 k, .int .i64 i.d, .int .i64 i.a, .int .i64 i.b, .int .i64 i.n, .string i.nm, .slice i.ar al i.ac, .int .i64 i.to, .int .i64 i.el] 49)).alloc (.cells #[.string F] 9) = W at *
      have h68 : ∀ n os, Calls Tryd.prog 66 #[.string ⟨#[68]⟩, .pointer (some ⟨w.heap.size + 1 + 1 + 1, 0, none⟩)] (Go.Sort.grow (W.drewN n) os) fun e w2 => e = .returned (.bool (hsB F 68)) ∧ ∃ p : GrownBy, w2 = Go.Sort.grow (W.drewN p.n) p.os := fun n os => G.same (has63 F 68 _ _ (q30 n os))
      have b1 : ∀ n os, Calls Tryd.prog 68 #[.int .i64 i.d, .bool (hsB F 68), .int .i64 f.rg] (Go.Sort.grow (W.drewN n) os) fun e w2 => e = .returned (.bool true) ∧ ∃ p : GrownBy, w2 = Go.Sort.grow (W.drewN p.n) p.os := fun n os => by
        have t := below65 i.d (hsB F 68) f.rg (Go.Sort.grow (W.drewN n) os)
        rw [x1] at t
        exact G.same t
      have h65 : ∀ n os, Calls Tryd.prog 66 #[.string ⟨#[65]⟩, .pointer (some ⟨w.heap.size + 1 + 1 + 1, 0, none⟩)] (Go.Sort.grow (W.drewN n) os) fun e w2 => e = .returned (.bool (hsB F 65)) ∧ ∃ p : GrownBy, w2 = Go.Sort.grow (W.drewN p.n) p.os := fun n os => G.same (has63 F 65 _ _ (q30 n os))
      have b2 : ∀ n os, Calls Tryd.prog 68 #[.int .i64 i.a, .bool (hsB F 65), .int .i64 f.rg] (Go.Sort.grow (W.drewN n) os) fun e w2 => e = .returned (.bool true) ∧ ∃ p : GrownBy, w2 = Go.Sort.grow (W.drewN p.n) p.os := fun n os => by
        have t := below65 i.a (hsB F 65) f.rg (Go.Sort.grow (W.drewN n) os)
        rw [x2] at t
        exact G.same t
      have h66 : ∀ n os, Calls Tryd.prog 66 #[.string ⟨#[66]⟩, .pointer (some ⟨w.heap.size + 1 + 1 + 1, 0, none⟩)] (Go.Sort.grow (W.drewN n) os) fun e w2 => e = .returned (.bool (hsB F 66)) ∧ ∃ p : GrownBy, w2 = Go.Sort.grow (W.drewN p.n) p.os := fun n os => G.same (has63 F 66 _ _ (q30 n os))
      have b3 : ∀ n os, Calls Tryd.prog 68 #[.int .i64 i.b, .bool (hsB F 66), .int .i64 f.rg] (Go.Sort.grow (W.drewN n) os) fun e w2 => e = .returned (.bool true) ∧ ∃ p : GrownBy, w2 = Go.Sort.grow (W.drewN p.n) p.os := fun n os => by
        have t := below65 i.b (hsB F 66) f.rg (Go.Sort.grow (W.drewN n) os)
        rw [x3] at t
        exact G.same t
      have h84 : ∀ n os, Calls Tryd.prog 66 #[.string ⟨#[84]⟩, .pointer (some ⟨w.heap.size + 1 + 1 + 1, 0, none⟩)] (Go.Sort.grow (W.drewN n) os) fun e w2 => e = .returned (.bool (hsB F 84)) ∧ ∃ p : GrownBy, w2 = Go.Sort.grow (W.drewN p.n) p.os := fun n os => G.same (has63 F 84 _ _ (q30 n os))
      have b4 : ∀ n os, Calls Tryd.prog 68 #[.int .i64 i.to, .bool (hsB F 84), .int .i64 f.bl] (Go.Sort.grow (W.drewN n) os) fun e w2 => e = .returned (.bool true) ∧ ∃ p : GrownBy, w2 = Go.Sort.grow (W.drewN p.n) p.os := fun n os => by
        have t := below65 i.to (hsB F 84) f.bl (Go.Sort.grow (W.drewN n) os)
        rw [x4] at t
        exact G.same t
      have h69 : ∀ n os, Calls Tryd.prog 66 #[.string ⟨#[69]⟩, .pointer (some ⟨w.heap.size + 1 + 1 + 1, 0, none⟩)] (Go.Sort.grow (W.drewN n) os) fun e w2 => e = .returned (.bool (hsB F 69)) ∧ ∃ p : GrownBy, w2 = Go.Sort.grow (W.drewN p.n) p.os := fun n os => G.same (has63 F 69 _ _ (q30 n os))
      have b5 : ∀ n os, Calls Tryd.prog 68 #[.int .i64 i.el, .bool (hsB F 69), .int .i64 f.bl] (Go.Sort.grow (W.drewN n) os) fun e w2 => e = .returned (.bool true) ∧ ∃ p : GrownBy, w2 = Go.Sort.grow (W.drewN p.n) p.os := fun n os => by
        have t := below65 i.el (hsB F 69) f.bl (Go.Sort.grow (W.drewN n) os)
        rw [x5] at t
        exact G.same t
      replace hN := fun n os => G.to (w := W) (n := n) (os := os) (hN _)
      refine wp_region_quiet_grown (by kernel_rfl) (by exact lex59) ?_
      try dsimp only [List.append]
      repeat (go_big_quiet_step ((first | (go_at_call 66; first | with_reducible exact h68 _ _ | with_reducible exact h65 _ _ | with_reducible exact h66 _ _ | with_reducible exact h84 _ _ | with_reducible exact h69 _ _) | (go_at_call 68; first | with_reducible exact b1 _ _ | with_reducible exact b2 _ _ | with_reducible exact b3 _ _ | with_reducible exact b4 _ _ | with_reducible exact b5 _ _) | (go_at_call 69; with_reducible exact hN _ _))))
      refine wpQuiet_nil ?_
      intro _ hw'
      obtain ⟨⟨nq, osq⟩, hw''⟩ := hw'
      subst hw''
      go_wp2
      go_ret
      exact ⟨rfl, HGW.out.trans ⟨_, _, rfl⟩⟩
set_option maxRecDepth 100000 in
set_option maxHeartbeats 8000000 in
theorem insp_22 (f : Fnh) (i : Ins) (k m : Nat) (po : Option Nat) (F : ByteArray) (w : World) (hop : i.op = k) (k1 : 1 ≤ k) (k2 : k ≤ 11) (hF : w.cell? ⟨0, k * 2 + 1, none⟩ = some (.string F)) (h0 : 0 < w.heap.size) (hA : ArA w i.ar i.ac i.gs) (hG : ∀ y ∈ i.gs, belB y true f.rg = true) (e7 : ((k : Int) == 7) = false) (x1 : belB i.d (hsB F 68) f.rg = true) (e10 : ((k : Int) == 10) = false) (x2 : belB i.a (hsB F 65) f.rg = true) (x3 : belB i.b (hsB F 66) f.rg = false) : Calls Tryd.prog 62 #[.agg #[.map (some m), .map po], fnhV f, inV i] w fun e w' => e = .returned (.bool false) ∧ G w w' := by
  have HA : Hid (ArA w i.ar i.ac i.gs) := hA
  have HG : Hid (∀ y ∈ i.gs, belB y true f.rg = true) := hG
  have hac := hA.1
  have hac2 := hA.2.1
  unfold fnhV inV at *
  rw [hop]
  obtain ⟨al, hal⟩ : ∃ al, al = i.gs.length := ⟨_, rfl⟩
  have HL : Hid (al = i.gs.length) := hal
  rw [← hal] at hac ⊢
  clear hal hA hG hop
  go_enter Tryd.func62, Tryd.ntmps62
  go_wp2
  have HW : Hid (Below w.heap.size w ((((w.alloc (.cells #[.map (some m), .map po] 68)).alloc (.cells #[.string f.nm, .int .i64 f.pa, .int .i64 f.rg, .int .i64 f.fr, .slice f.ba f.bl f.bc] 43)).alloc (.cells #[.int .i64 k, .int .i64 i.d, .int .i64 i.a, .int .i64 i.b, .int .i64 i.n, .string i.nm, .slice i.ar al i.ac, .int .i64 i.to, .int .i64 i.el] 49)).alloc (.cells #[.string F] 9))) := ((((G.refl _).alloc _).alloc _).alloc _ |>.alloc _).below
  have f2 : ((((w.alloc (.cells #[.map (some m), .map po] 68)).alloc (.cells #[.string f.nm, .int .i64 f.pa, .int .i64 f.rg, .int .i64 f.fr, .slice f.ba f.bl f.bc] 43)).alloc (.cells #[.int .i64 k, .int .i64 i.d, .int .i64 i.a, .int .i64 i.b, .int .i64 i.n, .string i.nm, .slice i.ar al i.ac, .int .i64 i.to, .int .i64 i.el] 49)).alloc (.cells #[.string F] 9)).cell? ⟨w.heap.size + 1, 2, none⟩ = some (.int .i64 f.rg) := by go_simp
  go_loop [28] (fun v => ∃ j : Nat, j ≤ al ∧ v = .int .i64 j) (fun v => al - (intOf v).toNat)
  case atStart => exact ⟨0, Nat.zero_le _, rfl⟩
  case round =>
    obtain ⟨j, hj, rfl⟩ := hrel
    by_cases hlt : j < al
    · obtain ⟨g, oo, hao, hcc⟩ := (HA.out.below HW.out).2.2 (by have := HL.out; omega)
      obtain ⟨yv, hy⟩ : ∃ yv, i.gs[j]? = some yv := ⟨_, List.getElem?_eq_getElem (by have := HL.out; omega)⟩
      have hcell := hcc j yv hy
      have hB : ∀ W : World, Calls Tryd.prog 68 #[.int .i64 yv, .bool true, .int .i64 f.rg] W fun e w' => e = .returned (.bool true) ∧ w' = W := fun W => by
        have t := below65 yv true f.rg W
        rw [HG.out yv (List.mem_of_getElem? hy)] at t
        exact t
      clear hcc hy
      rw [hao] at *
      go_wp2_with (first | (go_at_call 68; refine (hB _).mono ?_; rintro e w' ⟨rfl, rfl⟩))
      go_round
      case rel => exact ⟨j + 1, by omega, by go_num⟩
      case measure => simp [intOf]; omega
    · obtain rfl : al = j := by omega
      go_wp2
      have HGW : Hid (G w ((((w.alloc (.cells #[.map (some m), .map po] 68)).alloc (.cells #[.string f.nm, .int .i64 f.pa, .int .i64 f.rg, .int .i64 f.fr, .slice f.ba f.bl f.bc] 43)).alloc (.cells #[.int .i64 k, .int .i64 i.d, .int .i64 i.a, .int .i64 i.b, .int .i64 i.n, .string i.nm, .slice i.ar al i.ac, .int .i64 i.to, .int .i64 i.el] 49)).alloc (.cells #[.string F] 9))) := (((G.refl _).alloc _).alloc _).alloc _ |>.alloc _
      have q00 := gcell (W := (((w.alloc (.cells #[.map (some m), .map po] 68)).alloc (.cells #[.string f.nm, .int .i64 f.pa, .int .i64 f.rg, .int .i64 f.fr, .slice f.ba f.bl f.bc] 43)).alloc (.cells #[.int .i64 k, .int .i64 i.d, .int .i64 i.a, .int .i64 i.b, .int .i64 i.n, .string i.nm, .slice i.ar al i.ac, .int .i64 i.to, .int .i64 i.el] 49)).alloc (.cells #[.string F] 9)) (b := w.heap.size) (o := 0) (v := .map (some m)) (by first | (simp; done) | (simp; omega)) (by go_simp)
      have q01 := gcell (W := (((w.alloc (.cells #[.map (some m), .map po] 68)).alloc (.cells #[.string f.nm, .int .i64 f.pa, .int .i64 f.rg, .int .i64 f.fr, .slice f.ba f.bl f.bc] 43)).alloc (.cells #[.int .i64 k, .int .i64 i.d, .int .i64 i.a, .int .i64 i.b, .int .i64 i.n, .string i.nm, .slice i.ar al i.ac, .int .i64 i.to, .int .i64 i.el] 49)).alloc (.cells #[.string F] 9)) (b := w.heap.size) (o := 1) (v := .map po) (by first | (simp; done) | (simp; omega)) (by go_simp)
      have q10 := gcell (W := (((w.alloc (.cells #[.map (some m), .map po] 68)).alloc (.cells #[.string f.nm, .int .i64 f.pa, .int .i64 f.rg, .int .i64 f.fr, .slice f.ba f.bl f.bc] 43)).alloc (.cells #[.int .i64 k, .int .i64 i.d, .int .i64 i.a, .int .i64 i.b, .int .i64 i.n, .string i.nm, .slice i.ar al i.ac, .int .i64 i.to, .int .i64 i.el] 49)).alloc (.cells #[.string F] 9)) (b := w.heap.size + 1) (o := 0) (v := .string f.nm) (by first | (simp; done) | (simp; omega)) (by go_simp)
      have q11 := gcell (W := (((w.alloc (.cells #[.map (some m), .map po] 68)).alloc (.cells #[.string f.nm, .int .i64 f.pa, .int .i64 f.rg, .int .i64 f.fr, .slice f.ba f.bl f.bc] 43)).alloc (.cells #[.int .i64 k, .int .i64 i.d, .int .i64 i.a, .int .i64 i.b, .int .i64 i.n, .string i.nm, .slice i.ar al i.ac, .int .i64 i.to, .int .i64 i.el] 49)).alloc (.cells #[.string F] 9)) (b := w.heap.size + 1) (o := 1) (v := .int .i64 f.pa) (by first | (simp; done) | (simp; omega)) (by go_simp)
      have q12 := gcell (W := (((w.alloc (.cells #[.map (some m), .map po] 68)).alloc (.cells #[.string f.nm, .int .i64 f.pa, .int .i64 f.rg, .int .i64 f.fr, .slice f.ba f.bl f.bc] 43)).alloc (.cells #[.int .i64 k, .int .i64 i.d, .int .i64 i.a, .int .i64 i.b, .int .i64 i.n, .string i.nm, .slice i.ar al i.ac, .int .i64 i.to, .int .i64 i.el] 49)).alloc (.cells #[.string F] 9)) (b := w.heap.size + 1) (o := 2) (v := .int .i64 f.rg) (by first | (simp; done) | (simp; omega)) (by go_simp)
      have q13 := gcell (W := (((w.alloc (.cells #[.map (some m), .map po] 68)).alloc (.cells #[.string f.nm, .int .i64 f.pa, .int .i64 f.rg, .int .i64 f.fr, .slice f.ba f.bl f.bc] 43)).alloc (.cells #[.int .i64 k, .int .i64 i.d, .int .i64 i.a, .int .i64 i.b, .int .i64 i.n, .string i.nm, .slice i.ar al i.ac, .int .i64 i.to, .int .i64 i.el] 49)).alloc (.cells #[.string F] 9)) (b := w.heap.size + 1) (o := 3) (v := .int .i64 f.fr) (by first | (simp; done) | (simp; omega)) (by go_simp)
      have q14 := gcell (W := (((w.alloc (.cells #[.map (some m), .map po] 68)).alloc (.cells #[.string f.nm, .int .i64 f.pa, .int .i64 f.rg, .int .i64 f.fr, .slice f.ba f.bl f.bc] 43)).alloc (.cells #[.int .i64 k, .int .i64 i.d, .int .i64 i.a, .int .i64 i.b, .int .i64 i.n, .string i.nm, .slice i.ar al i.ac, .int .i64 i.to, .int .i64 i.el] 49)).alloc (.cells #[.string F] 9)) (b := w.heap.size + 1) (o := 4) (v := .slice f.ba f.bl f.bc) (by first | (simp; done) | (simp; omega)) (by go_simp)
      have q20 := gcell (W := (((w.alloc (.cells #[.map (some m), .map po] 68)).alloc (.cells #[.string f.nm, .int .i64 f.pa, .int .i64 f.rg, .int .i64 f.fr, .slice f.ba f.bl f.bc] 43)).alloc (.cells #[.int .i64 k, .int .i64 i.d, .int .i64 i.a, .int .i64 i.b, .int .i64 i.n, .string i.nm, .slice i.ar al i.ac, .int .i64 i.to, .int .i64 i.el] 49)).alloc (.cells #[.string F] 9)) (b := w.heap.size + 1 + 1) (o := 0) (v := .int .i64 k) (by first | (simp; done) | (simp; omega)) (by go_simp)
      have q21 := gcell (W := (((w.alloc (.cells #[.map (some m), .map po] 68)).alloc (.cells #[.string f.nm, .int .i64 f.pa, .int .i64 f.rg, .int .i64 f.fr, .slice f.ba f.bl f.bc] 43)).alloc (.cells #[.int .i64 k, .int .i64 i.d, .int .i64 i.a, .int .i64 i.b, .int .i64 i.n, .string i.nm, .slice i.ar al i.ac, .int .i64 i.to, .int .i64 i.el] 49)).alloc (.cells #[.string F] 9)) (b := w.heap.size + 1 + 1) (o := 1) (v := .int .i64 i.d) (by first | (simp; done) | (simp; omega)) (by go_simp)
      have q22 := gcell (W := (((w.alloc (.cells #[.map (some m), .map po] 68)).alloc (.cells #[.string f.nm, .int .i64 f.pa, .int .i64 f.rg, .int .i64 f.fr, .slice f.ba f.bl f.bc] 43)).alloc (.cells #[.int .i64 k, .int .i64 i.d, .int .i64 i.a, .int .i64 i.b, .int .i64 i.n, .string i.nm, .slice i.ar al i.ac, .int .i64 i.to, .int .i64 i.el] 49)).alloc (.cells #[.string F] 9)) (b := w.heap.size + 1 + 1) (o := 2) (v := .int .i64 i.a) (by first | (simp; done) | (simp; omega)) (by go_simp)
      have q23 := gcell (W := (((w.alloc (.cells #[.map (some m), .map po] 68)).alloc (.cells #[.string f.nm, .int .i64 f.pa, .int .i64 f.rg, .int .i64 f.fr, .slice f.ba f.bl f.bc] 43)).alloc (.cells #[.int .i64 k, .int .i64 i.d, .int .i64 i.a, .int .i64 i.b, .int .i64 i.n, .string i.nm, .slice i.ar al i.ac, .int .i64 i.to, .int .i64 i.el] 49)).alloc (.cells #[.string F] 9)) (b := w.heap.size + 1 + 1) (o := 3) (v := .int .i64 i.b) (by first | (simp; done) | (simp; omega)) (by go_simp)
      have q24 := gcell (W := (((w.alloc (.cells #[.map (some m), .map po] 68)).alloc (.cells #[.string f.nm, .int .i64 f.pa, .int .i64 f.rg, .int .i64 f.fr, .slice f.ba f.bl f.bc] 43)).alloc (.cells #[.int .i64 k, .int .i64 i.d, .int .i64 i.a, .int .i64 i.b, .int .i64 i.n, .string i.nm, .slice i.ar al i.ac, .int .i64 i.to, .int .i64 i.el] 49)).alloc (.cells #[.string F] 9)) (b := w.heap.size + 1 + 1) (o := 4) (v := .int .i64 i.n) (by first | (simp; done) | (simp; omega)) (by go_simp)
      have q25 := gcell (W := (((w.alloc (.cells #[.map (some m), .map po] 68)).alloc (.cells #[.string f.nm, .int .i64 f.pa, .int .i64 f.rg, .int .i64 f.fr, .slice f.ba f.bl f.bc] 43)).alloc (.cells #[.int .i64 k, .int .i64 i.d, .int .i64 i.a, .int .i64 i.b, .int .i64 i.n, .string i.nm, .slice i.ar al i.ac, .int .i64 i.to, .int .i64 i.el] 49)).alloc (.cells #[.string F] 9)) (b := w.heap.size + 1 + 1) (o := 5) (v := .string i.nm) (by first | (simp; done) | (simp; omega)) (by go_simp)
      have q26 := gcell (W := (((w.alloc (.cells #[.map (some m), .map po] 68)).alloc (.cells #[.string f.nm, .int .i64 f.pa, .int .i64 f.rg, .int .i64 f.fr, .slice f.ba f.bl f.bc] 43)).alloc (.cells #[.int .i64 k, .int .i64 i.d, .int .i64 i.a, .int .i64 i.b, .int .i64 i.n, .string i.nm, .slice i.ar al i.ac, .int .i64 i.to, .int .i64 i.el] 49)).alloc (.cells #[.string F] 9)) (b := w.heap.size + 1 + 1) (o := 6) (v := .slice i.ar al i.ac) (by first | (simp; done) | (simp; omega)) (by go_simp)
      have q27 := gcell (W := (((w.alloc (.cells #[.map (some m), .map po] 68)).alloc (.cells #[.string f.nm, .int .i64 f.pa, .int .i64 f.rg, .int .i64 f.fr, .slice f.ba f.bl f.bc] 43)).alloc (.cells #[.int .i64 k, .int .i64 i.d, .int .i64 i.a, .int .i64 i.b, .int .i64 i.n, .string i.nm, .slice i.ar al i.ac, .int .i64 i.to, .int .i64 i.el] 49)).alloc (.cells #[.string F] 9)) (b := w.heap.size + 1 + 1) (o := 7) (v := .int .i64 i.to) (by first | (simp; done) | (simp; omega)) (by go_simp)
      have q28 := gcell (W := (((w.alloc (.cells #[.map (some m), .map po] 68)).alloc (.cells #[.string f.nm, .int .i64 f.pa, .int .i64 f.rg, .int .i64 f.fr, .slice f.ba f.bl f.bc] 43)).alloc (.cells #[.int .i64 k, .int .i64 i.d, .int .i64 i.a, .int .i64 i.b, .int .i64 i.n, .string i.nm, .slice i.ar al i.ac, .int .i64 i.to, .int .i64 i.el] 49)).alloc (.cells #[.string F] 9)) (b := w.heap.size + 1 + 1) (o := 8) (v := .int .i64 i.el) (by first | (simp; done) | (simp; omega)) (by go_simp)
      have q30 := gcell (W := (((w.alloc (.cells #[.map (some m), .map po] 68)).alloc (.cells #[.string f.nm, .int .i64 f.pa, .int .i64 f.rg, .int .i64 f.fr, .slice f.ba f.bl f.bc] 43)).alloc (.cells #[.int .i64 k, .int .i64 i.d, .int .i64 i.a, .int .i64 i.b, .int .i64 i.n, .string i.nm, .slice i.ar al i.ac, .int .i64 i.to, .int .i64 i.el] 49)).alloc (.cells #[.string F] 9)) (b := w.heap.size + 1 + 1 + 1) (o := 0) (v := .string F) (by first | (simp; done) | (simp; omega)) (by go_simp)
      clear f2 hF h0
      generalize (((w.alloc (.cells #[.map (some m), .map po] 68)).alloc (.cells #[.string f.nm, .int .i64 f.pa, .int .i64 f.rg, .int .i64 f.fr, .slice f.ba f.bl f.bc] 43)).alloc (.cells #[.int .i64 k, .int .i64 i.d, .int .i64 i.a, .int .i64 i.b, .int .i64 i.n, .string i.nm, .slice i.ar al i.ac, .int .i64 i.to, .int .i64 i.el] 49)).alloc (.cells #[.string F] 9) = W at *
      have h68 : ∀ n os, Calls Tryd.prog 66 #[.string ⟨#[68]⟩, .pointer (some ⟨w.heap.size + 1 + 1 + 1, 0, none⟩)] (Go.Sort.grow (W.drewN n) os) fun e w2 => e = .returned (.bool (hsB F 68)) ∧ ∃ p : GrownBy, w2 = Go.Sort.grow (W.drewN p.n) p.os := fun n os => G.same (has63 F 68 _ _ (q30 n os))
      have b1 : ∀ n os, Calls Tryd.prog 68 #[.int .i64 i.d, .bool (hsB F 68), .int .i64 f.rg] (Go.Sort.grow (W.drewN n) os) fun e w2 => e = .returned (.bool true) ∧ ∃ p : GrownBy, w2 = Go.Sort.grow (W.drewN p.n) p.os := fun n os => by
        have t := below65 i.d (hsB F 68) f.rg (Go.Sort.grow (W.drewN n) os)
        rw [x1] at t
        exact G.same t
      have h65 : ∀ n os, Calls Tryd.prog 66 #[.string ⟨#[65]⟩, .pointer (some ⟨w.heap.size + 1 + 1 + 1, 0, none⟩)] (Go.Sort.grow (W.drewN n) os) fun e w2 => e = .returned (.bool (hsB F 65)) ∧ ∃ p : GrownBy, w2 = Go.Sort.grow (W.drewN p.n) p.os := fun n os => G.same (has63 F 65 _ _ (q30 n os))
      have b2 : ∀ n os, Calls Tryd.prog 68 #[.int .i64 i.a, .bool (hsB F 65), .int .i64 f.rg] (Go.Sort.grow (W.drewN n) os) fun e w2 => e = .returned (.bool true) ∧ ∃ p : GrownBy, w2 = Go.Sort.grow (W.drewN p.n) p.os := fun n os => by
        have t := below65 i.a (hsB F 65) f.rg (Go.Sort.grow (W.drewN n) os)
        rw [x2] at t
        exact G.same t
      have h66 : ∀ n os, Calls Tryd.prog 66 #[.string ⟨#[66]⟩, .pointer (some ⟨w.heap.size + 1 + 1 + 1, 0, none⟩)] (Go.Sort.grow (W.drewN n) os) fun e w2 => e = .returned (.bool (hsB F 66)) ∧ ∃ p : GrownBy, w2 = Go.Sort.grow (W.drewN p.n) p.os := fun n os => G.same (has63 F 66 _ _ (q30 n os))
      have b3 : ∀ n os, Calls Tryd.prog 68 #[.int .i64 i.b, .bool (hsB F 66), .int .i64 f.rg] (Go.Sort.grow (W.drewN n) os) fun e w2 => e = .returned (.bool false) ∧ ∃ p : GrownBy, w2 = Go.Sort.grow (W.drewN p.n) p.os := fun n os => by
        have t := below65 i.b (hsB F 66) f.rg (Go.Sort.grow (W.drewN n) os)
        rw [x3] at t
        exact G.same t
      refine wp_region_quiet_grown (by kernel_rfl) (by exact lex59) ?_
      try dsimp only [List.append]
      repeat (go_big_quiet_step ((first | (go_at_call 66; first | with_reducible exact h68 _ _ | with_reducible exact h65 _ _ | with_reducible exact h66 _ _) | (go_at_call 68; first | with_reducible exact b1 _ _ | with_reducible exact b2 _ _ | with_reducible exact b3 _ _))))
      refine wpQuiet_nil ?_
      intro _ hw'
      obtain ⟨⟨nq, osq⟩, hw''⟩ := hw'
      subst hw''
      go_wp2
      go_ret
      exact ⟨rfl, HGW.out.trans ⟨_, _, rfl⟩⟩
set_option maxRecDepth 100000 in
set_option maxHeartbeats 8000000 in
theorem insp_23 (f : Fnh) (i : Ins) (k m : Nat) (po : Option Nat) (F : ByteArray) (w : World) (hop : i.op = k) (k1 : 1 ≤ k) (k2 : k ≤ 11) (hF : w.cell? ⟨0, k * 2 + 1, none⟩ = some (.string F)) (h0 : 0 < w.heap.size) (hA : ArA w i.ar i.ac i.gs) (hG : ∀ y ∈ i.gs, belB y true f.rg = true) (e7 : ((k : Int) == 7) = false) (x1 : belB i.d (hsB F 68) f.rg = true) (e10 : ((k : Int) == 10) = false) (x2 : belB i.a (hsB F 65) f.rg = true) (x3 : belB i.b (hsB F 66) f.rg = true) (x4 : belB i.to (hsB F 84) f.bl = false) : Calls Tryd.prog 62 #[.agg #[.map (some m), .map po], fnhV f, inV i] w fun e w' => e = .returned (.bool false) ∧ G w w' := by
  have HA : Hid (ArA w i.ar i.ac i.gs) := hA
  have HG : Hid (∀ y ∈ i.gs, belB y true f.rg = true) := hG
  have hac := hA.1
  have hac2 := hA.2.1
  unfold fnhV inV at *
  rw [hop]
  obtain ⟨al, hal⟩ : ∃ al, al = i.gs.length := ⟨_, rfl⟩
  have HL : Hid (al = i.gs.length) := hal
  rw [← hal] at hac ⊢
  clear hal hA hG hop
  go_enter Tryd.func62, Tryd.ntmps62
  go_wp2
  have HW : Hid (Below w.heap.size w ((((w.alloc (.cells #[.map (some m), .map po] 68)).alloc (.cells #[.string f.nm, .int .i64 f.pa, .int .i64 f.rg, .int .i64 f.fr, .slice f.ba f.bl f.bc] 43)).alloc (.cells #[.int .i64 k, .int .i64 i.d, .int .i64 i.a, .int .i64 i.b, .int .i64 i.n, .string i.nm, .slice i.ar al i.ac, .int .i64 i.to, .int .i64 i.el] 49)).alloc (.cells #[.string F] 9))) := ((((G.refl _).alloc _).alloc _).alloc _ |>.alloc _).below
  have f2 : ((((w.alloc (.cells #[.map (some m), .map po] 68)).alloc (.cells #[.string f.nm, .int .i64 f.pa, .int .i64 f.rg, .int .i64 f.fr, .slice f.ba f.bl f.bc] 43)).alloc (.cells #[.int .i64 k, .int .i64 i.d, .int .i64 i.a, .int .i64 i.b, .int .i64 i.n, .string i.nm, .slice i.ar al i.ac, .int .i64 i.to, .int .i64 i.el] 49)).alloc (.cells #[.string F] 9)).cell? ⟨w.heap.size + 1, 2, none⟩ = some (.int .i64 f.rg) := by go_simp
  go_loop [28] (fun v => ∃ j : Nat, j ≤ al ∧ v = .int .i64 j) (fun v => al - (intOf v).toNat)
  case atStart => exact ⟨0, Nat.zero_le _, rfl⟩
  case round =>
    obtain ⟨j, hj, rfl⟩ := hrel
    by_cases hlt : j < al
    · obtain ⟨g, oo, hao, hcc⟩ := (HA.out.below HW.out).2.2 (by have := HL.out; omega)
      obtain ⟨yv, hy⟩ : ∃ yv, i.gs[j]? = some yv := ⟨_, List.getElem?_eq_getElem (by have := HL.out; omega)⟩
      have hcell := hcc j yv hy
      have hB : ∀ W : World, Calls Tryd.prog 68 #[.int .i64 yv, .bool true, .int .i64 f.rg] W fun e w' => e = .returned (.bool true) ∧ w' = W := fun W => by
        have t := below65 yv true f.rg W
        rw [HG.out yv (List.mem_of_getElem? hy)] at t
        exact t
      clear hcc hy
      rw [hao] at *
      go_wp2_with (first | (go_at_call 68; refine (hB _).mono ?_; rintro e w' ⟨rfl, rfl⟩))
      go_round
      case rel => exact ⟨j + 1, by omega, by go_num⟩
      case measure => simp [intOf]; omega
    · obtain rfl : al = j := by omega
      go_wp2
      have HGW : Hid (G w ((((w.alloc (.cells #[.map (some m), .map po] 68)).alloc (.cells #[.string f.nm, .int .i64 f.pa, .int .i64 f.rg, .int .i64 f.fr, .slice f.ba f.bl f.bc] 43)).alloc (.cells #[.int .i64 k, .int .i64 i.d, .int .i64 i.a, .int .i64 i.b, .int .i64 i.n, .string i.nm, .slice i.ar al i.ac, .int .i64 i.to, .int .i64 i.el] 49)).alloc (.cells #[.string F] 9))) := (((G.refl _).alloc _).alloc _).alloc _ |>.alloc _
      have q00 := gcell (W := (((w.alloc (.cells #[.map (some m), .map po] 68)).alloc (.cells #[.string f.nm, .int .i64 f.pa, .int .i64 f.rg, .int .i64 f.fr, .slice f.ba f.bl f.bc] 43)).alloc (.cells #[.int .i64 k, .int .i64 i.d, .int .i64 i.a, .int .i64 i.b, .int .i64 i.n, .string i.nm, .slice i.ar al i.ac, .int .i64 i.to, .int .i64 i.el] 49)).alloc (.cells #[.string F] 9)) (b := w.heap.size) (o := 0) (v := .map (some m)) (by first | (simp; done) | (simp; omega)) (by go_simp)
      have q01 := gcell (W := (((w.alloc (.cells #[.map (some m), .map po] 68)).alloc (.cells #[.string f.nm, .int .i64 f.pa, .int .i64 f.rg, .int .i64 f.fr, .slice f.ba f.bl f.bc] 43)).alloc (.cells #[.int .i64 k, .int .i64 i.d, .int .i64 i.a, .int .i64 i.b, .int .i64 i.n, .string i.nm, .slice i.ar al i.ac, .int .i64 i.to, .int .i64 i.el] 49)).alloc (.cells #[.string F] 9)) (b := w.heap.size) (o := 1) (v := .map po) (by first | (simp; done) | (simp; omega)) (by go_simp)
      have q10 := gcell (W := (((w.alloc (.cells #[.map (some m), .map po] 68)).alloc (.cells #[.string f.nm, .int .i64 f.pa, .int .i64 f.rg, .int .i64 f.fr, .slice f.ba f.bl f.bc] 43)).alloc (.cells #[.int .i64 k, .int .i64 i.d, .int .i64 i.a, .int .i64 i.b, .int .i64 i.n, .string i.nm, .slice i.ar al i.ac, .int .i64 i.to, .int .i64 i.el] 49)).alloc (.cells #[.string F] 9)) (b := w.heap.size + 1) (o := 0) (v := .string f.nm) (by first | (simp; done) | (simp; omega)) (by go_simp)
      have q11 := gcell (W := (((w.alloc (.cells #[.map (some m), .map po] 68)).alloc (.cells #[.string f.nm, .int .i64 f.pa, .int .i64 f.rg, .int .i64 f.fr, .slice f.ba f.bl f.bc] 43)).alloc (.cells #[.int .i64 k, .int .i64 i.d, .int .i64 i.a, .int .i64 i.b, .int .i64 i.n, .string i.nm, .slice i.ar al i.ac, .int .i64 i.to, .int .i64 i.el] 49)).alloc (.cells #[.string F] 9)) (b := w.heap.size + 1) (o := 1) (v := .int .i64 f.pa) (by first | (simp; done) | (simp; omega)) (by go_simp)
      have q12 := gcell (W := (((w.alloc (.cells #[.map (some m), .map po] 68)).alloc (.cells #[.string f.nm, .int .i64 f.pa, .int .i64 f.rg, .int .i64 f.fr, .slice f.ba f.bl f.bc] 43)).alloc (.cells #[.int .i64 k, .int .i64 i.d, .int .i64 i.a, .int .i64 i.b, .int .i64 i.n, .string i.nm, .slice i.ar al i.ac, .int .i64 i.to, .int .i64 i.el] 49)).alloc (.cells #[.string F] 9)) (b := w.heap.size + 1) (o := 2) (v := .int .i64 f.rg) (by first | (simp; done) | (simp; omega)) (by go_simp)
      have q13 := gcell (W := (((w.alloc (.cells #[.map (some m), .map po] 68)).alloc (.cells #[.string f.nm, .int .i64 f.pa, .int .i64 f.rg, .int .i64 f.fr, .slice f.ba f.bl f.bc] 43)).alloc (.cells #[.int .i64 k, .int .i64 i.d, .int .i64 i.a, .int .i64 i.b, .int .i64 i.n, .string i.nm, .slice i.ar al i.ac, .int .i64 i.to, .int .i64 i.el] 49)).alloc (.cells #[.string F] 9)) (b := w.heap.size + 1) (o := 3) (v := .int .i64 f.fr) (by first | (simp; done) | (simp; omega)) (by go_simp)
      have q14 := gcell (W := (((w.alloc (.cells #[.map (some m), .map po] 68)).alloc (.cells #[.string f.nm, .int .i64 f.pa, .int .i64 f.rg, .int .i64 f.fr, .slice f.ba f.bl f.bc] 43)).alloc (.cells #[.int .i64 k, .int .i64 i.d, .int .i64 i.a, .int .i64 i.b, .int .i64 i.n, .string i.nm, .slice i.ar al i.ac, .int .i64 i.to, .int .i64 i.el] 49)).alloc (.cells #[.string F] 9)) (b := w.heap.size + 1) (o := 4) (v := .slice f.ba f.bl f.bc) (by first | (simp; done) | (simp; omega)) (by go_simp)
      have q20 := gcell (W := (((w.alloc (.cells #[.map (some m), .map po] 68)).alloc (.cells #[.string f.nm, .int .i64 f.pa, .int .i64 f.rg, .int .i64 f.fr, .slice f.ba f.bl f.bc] 43)).alloc (.cells #[.int .i64 k, .int .i64 i.d, .int .i64 i.a, .int .i64 i.b, .int .i64 i.n, .string i.nm, .slice i.ar al i.ac, .int .i64 i.to, .int .i64 i.el] 49)).alloc (.cells #[.string F] 9)) (b := w.heap.size + 1 + 1) (o := 0) (v := .int .i64 k) (by first | (simp; done) | (simp; omega)) (by go_simp)
      have q21 := gcell (W := (((w.alloc (.cells #[.map (some m), .map po] 68)).alloc (.cells #[.string f.nm, .int .i64 f.pa, .int .i64 f.rg, .int .i64 f.fr, .slice f.ba f.bl f.bc] 43)).alloc (.cells #[.int .i64 k, .int .i64 i.d, .int .i64 i.a, .int .i64 i.b, .int .i64 i.n, .string i.nm, .slice i.ar al i.ac, .int .i64 i.to, .int .i64 i.el] 49)).alloc (.cells #[.string F] 9)) (b := w.heap.size + 1 + 1) (o := 1) (v := .int .i64 i.d) (by first | (simp; done) | (simp; omega)) (by go_simp)
      have q22 := gcell (W := (((w.alloc (.cells #[.map (some m), .map po] 68)).alloc (.cells #[.string f.nm, .int .i64 f.pa, .int .i64 f.rg, .int .i64 f.fr, .slice f.ba f.bl f.bc] 43)).alloc (.cells #[.int .i64 k, .int .i64 i.d, .int .i64 i.a, .int .i64 i.b, .int .i64 i.n, .string i.nm, .slice i.ar al i.ac, .int .i64 i.to, .int .i64 i.el] 49)).alloc (.cells #[.string F] 9)) (b := w.heap.size + 1 + 1) (o := 2) (v := .int .i64 i.a) (by first | (simp; done) | (simp; omega)) (by go_simp)
      have q23 := gcell (W := (((w.alloc (.cells #[.map (some m), .map po] 68)).alloc (.cells #[.string f.nm, .int .i64 f.pa, .int .i64 f.rg, .int .i64 f.fr, .slice f.ba f.bl f.bc] 43)).alloc (.cells #[.int .i64 k, .int .i64 i.d, .int .i64 i.a, .int .i64 i.b, .int .i64 i.n, .string i.nm, .slice i.ar al i.ac, .int .i64 i.to, .int .i64 i.el] 49)).alloc (.cells #[.string F] 9)) (b := w.heap.size + 1 + 1) (o := 3) (v := .int .i64 i.b) (by first | (simp; done) | (simp; omega)) (by go_simp)
      have q24 := gcell (W := (((w.alloc (.cells #[.map (some m), .map po] 68)).alloc (.cells #[.string f.nm, .int .i64 f.pa, .int .i64 f.rg, .int .i64 f.fr, .slice f.ba f.bl f.bc] 43)).alloc (.cells #[.int .i64 k, .int .i64 i.d, .int .i64 i.a, .int .i64 i.b, .int .i64 i.n, .string i.nm, .slice i.ar al i.ac, .int .i64 i.to, .int .i64 i.el] 49)).alloc (.cells #[.string F] 9)) (b := w.heap.size + 1 + 1) (o := 4) (v := .int .i64 i.n) (by first | (simp; done) | (simp; omega)) (by go_simp)
      have q25 := gcell (W := (((w.alloc (.cells #[.map (some m), .map po] 68)).alloc (.cells #[.string f.nm, .int .i64 f.pa, .int .i64 f.rg, .int .i64 f.fr, .slice f.ba f.bl f.bc] 43)).alloc (.cells #[.int .i64 k, .int .i64 i.d, .int .i64 i.a, .int .i64 i.b, .int .i64 i.n, .string i.nm, .slice i.ar al i.ac, .int .i64 i.to, .int .i64 i.el] 49)).alloc (.cells #[.string F] 9)) (b := w.heap.size + 1 + 1) (o := 5) (v := .string i.nm) (by first | (simp; done) | (simp; omega)) (by go_simp)
      have q26 := gcell (W := (((w.alloc (.cells #[.map (some m), .map po] 68)).alloc (.cells #[.string f.nm, .int .i64 f.pa, .int .i64 f.rg, .int .i64 f.fr, .slice f.ba f.bl f.bc] 43)).alloc (.cells #[.int .i64 k, .int .i64 i.d, .int .i64 i.a, .int .i64 i.b, .int .i64 i.n, .string i.nm, .slice i.ar al i.ac, .int .i64 i.to, .int .i64 i.el] 49)).alloc (.cells #[.string F] 9)) (b := w.heap.size + 1 + 1) (o := 6) (v := .slice i.ar al i.ac) (by first | (simp; done) | (simp; omega)) (by go_simp)
      have q27 := gcell (W := (((w.alloc (.cells #[.map (some m), .map po] 68)).alloc (.cells #[.string f.nm, .int .i64 f.pa, .int .i64 f.rg, .int .i64 f.fr, .slice f.ba f.bl f.bc] 43)).alloc (.cells #[.int .i64 k, .int .i64 i.d, .int .i64 i.a, .int .i64 i.b, .int .i64 i.n, .string i.nm, .slice i.ar al i.ac, .int .i64 i.to, .int .i64 i.el] 49)).alloc (.cells #[.string F] 9)) (b := w.heap.size + 1 + 1) (o := 7) (v := .int .i64 i.to) (by first | (simp; done) | (simp; omega)) (by go_simp)
      have q28 := gcell (W := (((w.alloc (.cells #[.map (some m), .map po] 68)).alloc (.cells #[.string f.nm, .int .i64 f.pa, .int .i64 f.rg, .int .i64 f.fr, .slice f.ba f.bl f.bc] 43)).alloc (.cells #[.int .i64 k, .int .i64 i.d, .int .i64 i.a, .int .i64 i.b, .int .i64 i.n, .string i.nm, .slice i.ar al i.ac, .int .i64 i.to, .int .i64 i.el] 49)).alloc (.cells #[.string F] 9)) (b := w.heap.size + 1 + 1) (o := 8) (v := .int .i64 i.el) (by first | (simp; done) | (simp; omega)) (by go_simp)
      have q30 := gcell (W := (((w.alloc (.cells #[.map (some m), .map po] 68)).alloc (.cells #[.string f.nm, .int .i64 f.pa, .int .i64 f.rg, .int .i64 f.fr, .slice f.ba f.bl f.bc] 43)).alloc (.cells #[.int .i64 k, .int .i64 i.d, .int .i64 i.a, .int .i64 i.b, .int .i64 i.n, .string i.nm, .slice i.ar al i.ac, .int .i64 i.to, .int .i64 i.el] 49)).alloc (.cells #[.string F] 9)) (b := w.heap.size + 1 + 1 + 1) (o := 0) (v := .string F) (by first | (simp; done) | (simp; omega)) (by go_simp)
      clear f2 hF h0
      generalize (((w.alloc (.cells #[.map (some m), .map po] 68)).alloc (.cells #[.string f.nm, .int .i64 f.pa, .int .i64 f.rg, .int .i64 f.fr, .slice f.ba f.bl f.bc] 43)).alloc (.cells #[.int .i64 k, .int .i64 i.d, .int .i64 i.a, .int .i64 i.b, .int .i64 i.n, .string i.nm, .slice i.ar al i.ac, .int .i64 i.to, .int .i64 i.el] 49)).alloc (.cells #[.string F] 9) = W at *
      have h68 : ∀ n os, Calls Tryd.prog 66 #[.string ⟨#[68]⟩, .pointer (some ⟨w.heap.size + 1 + 1 + 1, 0, none⟩)] (Go.Sort.grow (W.drewN n) os) fun e w2 => e = .returned (.bool (hsB F 68)) ∧ ∃ p : GrownBy, w2 = Go.Sort.grow (W.drewN p.n) p.os := fun n os => G.same (has63 F 68 _ _ (q30 n os))
      have b1 : ∀ n os, Calls Tryd.prog 68 #[.int .i64 i.d, .bool (hsB F 68), .int .i64 f.rg] (Go.Sort.grow (W.drewN n) os) fun e w2 => e = .returned (.bool true) ∧ ∃ p : GrownBy, w2 = Go.Sort.grow (W.drewN p.n) p.os := fun n os => by
        have t := below65 i.d (hsB F 68) f.rg (Go.Sort.grow (W.drewN n) os)
        rw [x1] at t
        exact G.same t
      have h65 : ∀ n os, Calls Tryd.prog 66 #[.string ⟨#[65]⟩, .pointer (some ⟨w.heap.size + 1 + 1 + 1, 0, none⟩)] (Go.Sort.grow (W.drewN n) os) fun e w2 => e = .returned (.bool (hsB F 65)) ∧ ∃ p : GrownBy, w2 = Go.Sort.grow (W.drewN p.n) p.os := fun n os => G.same (has63 F 65 _ _ (q30 n os))
      have b2 : ∀ n os, Calls Tryd.prog 68 #[.int .i64 i.a, .bool (hsB F 65), .int .i64 f.rg] (Go.Sort.grow (W.drewN n) os) fun e w2 => e = .returned (.bool true) ∧ ∃ p : GrownBy, w2 = Go.Sort.grow (W.drewN p.n) p.os := fun n os => by
        have t := below65 i.a (hsB F 65) f.rg (Go.Sort.grow (W.drewN n) os)
        rw [x2] at t
        exact G.same t
      have h66 : ∀ n os, Calls Tryd.prog 66 #[.string ⟨#[66]⟩, .pointer (some ⟨w.heap.size + 1 + 1 + 1, 0, none⟩)] (Go.Sort.grow (W.drewN n) os) fun e w2 => e = .returned (.bool (hsB F 66)) ∧ ∃ p : GrownBy, w2 = Go.Sort.grow (W.drewN p.n) p.os := fun n os => G.same (has63 F 66 _ _ (q30 n os))
      have b3 : ∀ n os, Calls Tryd.prog 68 #[.int .i64 i.b, .bool (hsB F 66), .int .i64 f.rg] (Go.Sort.grow (W.drewN n) os) fun e w2 => e = .returned (.bool true) ∧ ∃ p : GrownBy, w2 = Go.Sort.grow (W.drewN p.n) p.os := fun n os => by
        have t := below65 i.b (hsB F 66) f.rg (Go.Sort.grow (W.drewN n) os)
        rw [x3] at t
        exact G.same t
      have h84 : ∀ n os, Calls Tryd.prog 66 #[.string ⟨#[84]⟩, .pointer (some ⟨w.heap.size + 1 + 1 + 1, 0, none⟩)] (Go.Sort.grow (W.drewN n) os) fun e w2 => e = .returned (.bool (hsB F 84)) ∧ ∃ p : GrownBy, w2 = Go.Sort.grow (W.drewN p.n) p.os := fun n os => G.same (has63 F 84 _ _ (q30 n os))
      have b4 : ∀ n os, Calls Tryd.prog 68 #[.int .i64 i.to, .bool (hsB F 84), .int .i64 f.bl] (Go.Sort.grow (W.drewN n) os) fun e w2 => e = .returned (.bool false) ∧ ∃ p : GrownBy, w2 = Go.Sort.grow (W.drewN p.n) p.os := fun n os => by
        have t := below65 i.to (hsB F 84) f.bl (Go.Sort.grow (W.drewN n) os)
        rw [x4] at t
        exact G.same t
      refine wp_region_quiet_grown (by kernel_rfl) (by exact lex59) ?_
      try dsimp only [List.append]
      repeat (go_big_quiet_step ((first | (go_at_call 66; first | with_reducible exact h68 _ _ | with_reducible exact h65 _ _ | with_reducible exact h66 _ _ | with_reducible exact h84 _ _) | (go_at_call 68; first | with_reducible exact b1 _ _ | with_reducible exact b2 _ _ | with_reducible exact b3 _ _ | with_reducible exact b4 _ _))))
      refine wpQuiet_nil ?_
      intro _ hw'
      obtain ⟨⟨nq, osq⟩, hw''⟩ := hw'
      subst hw''
      go_wp2
      go_ret
      exact ⟨rfl, HGW.out.trans ⟨_, _, rfl⟩⟩
end Go.Proofs.YtdppoblbenbafaaDoor
