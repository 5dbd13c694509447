/- A number is printed, in whatever run. A block of the heap is asked for, in whatever run. The runtime's print, called. The runtime's functions, called. -/
import Derived.Test.YtdppoblbenbafaaDoorXAI
import Derived.Lib.ItoaLen
import Derived.Deep.RegionHeld3
import Derived.Test.YtdppoblbenbafaaDoorXAK
namespace Go.Proofs.YtdppoblbenbafaaDoor
section
open Go.RowKit Go.Shelf
theorem kept_cell {e : TypeId} {w w' : World} {b : Nat} {t : TypeId} {cs : List Value} {x : Option Nat} (h : Lib.OthersKept e x w w') (hb : Bk w b t cs) (hn : some b ≠ x) (ht : t ≠ e) : Bk w' b t cs := h b _ hb hn (fun c fz e => ht (by cases e; rfl))
theorem itoa_len (v : Int) (h0 : -9223372036854775808 ≤ v) (h1 : v ≤ 9223372036854775807) : (Lib.itoa v).length ≤ 64 := by
  have := Lib.itoa_length_le v h0 h1
  omega
set_option maxRecDepth 20000 in
set_option maxHeartbeats 2000000 in
theorem print54g (R B no : Nat) (v : Int) (r : Rs) (ox : List Value) (w : World) (hR : Rb w R r) (hBR : B ≤ R) (hO : w.ownsRow B 5 1 r.ov no ox) (hB : B ≤ w.heap.size) (hno : no ≤ 1000000000) (v0 : -9223372036854775808 ≤ v) (v1 : v ≤ 9223372036854775807) (hT : Lib.TabBelow Tryd.prog B w "internal/strconv.uint64pow10" .u64 Lib.pow10Tab) : Calls Tryd.prog 54 #[.pointer (some ⟨R, 0, none⟩), .int .i64 v] w fun e w' => e = .returned (.int .i64 0) ∧ ∃ ov, Rb w' R { r with ov := ov } ∧ w'.ownsRow B 5 1 ov (no + (Lib.itoa v).length + 1) (ox ++ (Lib.byteCells (Lib.itoa v) ++ [.int .u8 10])) ∧ Below B w w' ∧ Lib.OthersKept 5 (some R) w w' := by
  have hL := itoa_len v v0 v1
  have hC : Hid (Calls Tryd.prog 64 #[r.ov, .int .i64 v, .int .i64 10] w fun e w' => ∃ v', e = .returned v' ∧ w'.ownsRow B 5 1 v' (no + (Lib.itoa v).length) (ox ++ Lib.byteCells (Lib.itoa v)) ∧ Below B w w' ∧ Lib.OthersKept 5 none w w') := Tryd.strconv_AppendInt_10 B no v v0 v1 r.ov ox w hO hB (by omega) hT
  obtain ⟨i5, AN⟩ := info5'
  have AN : Hid (Tryd.prog.info? 5 = some i5 ∧ i5.zero = some (.int .u8 0) ∧ i5.size = 1 ∧ i5.bytes = 1) := AN
  have HR : Hid (Rb w R r) := hR
  have HH : Hid (no + (Lib.itoa v).length ≤ 1000000064 ∧ B ≤ w.heap.size ∧ B ≤ R) := ⟨by omega, hB, hBR⟩
  have r11 := hR.cell (j := 11) rfl
  clear hR hO hB hno hT hL v0 v1 hBR
  generalize Lib.itoa v = L at *
  go_enter Tryd.func54, Tryd.ntmps54
  go_wp2_with fail
  refine hC.out.mono ?_
  rintro e w1 ⟨v', rfl, ho, hb, hk⟩
  have HO : Hid (w1.ownsRow B 5 1 v' (no + L.length) (ox ++ Lib.byteCells L)) := ho
  have HB : Hid (Below B w w1) := hb
  have HK : Hid (Lib.OthersKept 5 none w w1) := hk
  have hR1 := kept_cell hk HR.out (by simp) (by decide)
  have HR1 : Hid (Rb w1 R r) := hR1
  have k11 := hR1.cell (j := 11) rfl
  have f11 := hR1.fz 11
  have hz := hR1.lt
  clear ho hb hk hR1
  go_wp2_with (at_builtin; refine wpList_append_own _ rfl _ _ 23 rfl B 5 i5 (.int .u8 0) 1 1 Tryd.underlying23 AN.out.1 AN.out.2.1 AN.out.2.2.1 AN.out.2.2.2 rfl (by decide) _ _ _ rfl (HO.out.alloc _) ⟨w1.heap.size, 0, none⟩ 1 1 [.int .u8 10] rfl (by rfl) (by intro j q hj; cases j with | zero => cases hj; exact new_one _ _ _ | succ j => cases hj) (by intro q hq; simp at hq; subst hq; rfl) (by unfold maxLen; have := HH.out.1; omega) (by have := HH.out.1; omega) (by have := HB.out.size; have := HH.out.2.1; simp; omega) ?_)
  rintro v2 w2 ho2 hg2 _
  obtain ⟨g, cap, rfl⟩ : ∃ g cap, v2 = .slice (some ⟨g, 0, none⟩) (no + L.length + 1) cap := by
    obtain ⟨_, ⟨_, h0⟩ | ⟨g, cap, cur, e, _⟩⟩ := ho2
    · cases h0
    · exact ⟨g, cap, e⟩
  have HO2 : Hid (w2.ownsRow B 5 1 (.slice (some ⟨g, 0, none⟩) (no + L.length + 1) cap) (no + L.length + 1) (ox ++ (Lib.byteCells L ++ [.int .u8 10]))) := ho2
  have hn2 : ∀ k t cs, t ≠ 5 → Bk w1 k t cs → Bk w2 k t cs := fun k t cs ht hk => grown_bk hg2 (hk.alloc _) (fun e => own_ne HO.out hk ht e.symm)
  have HK2 : Hid (Below B w w2 ∧ Lib.OthersKept 5 none w w2) := ⟨below_grown HH.out.2.1 (HB.out.alloc (Nat.le_trans HH.out.2.1 HB.out.size) _) hg2 (fun g hg => own_base HO.out hg), fun k o hk hn ho => by
    have h1 := HK.out k o hk hn ho
    have hlt := (Array.getElem?_eq_some_iff.1 h1).1
    have hne : some k ≠ v'.ownBlock := fun e => by
      obtain ⟨_, cur, hc⟩ := own_block HO.out e.symm
      unfold Bk at hc
      rw [h1] at hc
      cases hc
      exact ho _ _ rfl
    rw [hg2.block k (by simp; omega) hne, show (w1.alloc (.cells #[.int .u8 10] 5)).heap[k]? = w1.heap[k]? from ((Below.refl w1.heap.size w1).alloc (Nat.le_refl _) _).block k hlt]
    exact h1⟩
  have hR2 : Rb w2 R r := hn2 R 60 _ (by decide) HR1.out
  have HR2 : Hid (Rb w2 R r) := hR2
  have j11 := hR2.cell (j := 11) rfl
  have y11 := hR2.fz 11
  have hz2 := hR2.lt
  clear ho2 hg2 hn2 hR2 k11 f11 hz r11
  go_wp2
  go_ret
  refine ⟨rfl, .slice (some ⟨g, 0, none⟩) (no + L.length + 1) cap, HR2.out.set 11 _, own_set HO2.out (own_ne HO2.out HR2.out (by decide)), ?_, ?_⟩
  · exact below_grown HH.out.2.1 HK2.out.1 (grown_set w2 R 11 _) (fun k e => by cases e; exact HH.out.2.2)
  · intro k o hk hn ho
    rw [(grown_set w2 R 11 _).block k (Array.getElem?_eq_some_iff.1 (HK2.out.2 k o hk (by simp) ho)).1 hn]
    exact HK2.out.2 k o hk (by simp) ho
end
section
open Go.RowKit Go.Shelf
set_option maxHeartbeats 2000000 in
theorem alloc_bad (R : Nat) (n : Int) (r : Rs) (w : World) (hR : Rb w R r) (h0 : 0 ≤ r.hp) (h1 : r.hp ≤ 1000000) (hb : n < 0 ∨ 64 < n ∨ 8192 < r.hp + n) : Calls Tryd.prog 56 #[.pointer (some ⟨R, 0, none⟩), .int .i64 n] w fun e w' => e = .returned (.int .i64 0) ∧ ∃ k, w' = ((w.setCell ⟨R, 9, none⟩ (.int .i64 1)).setCell ⟨R, 10, none⟩ (.int .i64 110)).drewN k := by
  have r7 := hR.cell (j := 7) rfl
  have hE : ∀ k, Hid (Calls Tryd.prog 21 #[.pointer (some ⟨R, 0, none⟩), .int .i64 1, .int .i64 110] (w.drewN k) fun e w' => e = .returned (.tuple #[]) ∧ w' = ((w.drewN k).setCell ⟨R, 9, none⟩ (.int .i64 1)).setCell ⟨R, 10, none⟩ (.int .i64 110)) := fun k => end36 R 1 110 (rsC r) _ (hR.drewN k).cl rfl
  clear hR
  by_cases hn : n < 0
  · go_enter Tryd.func56, Tryd.ntmps56
    go_wp2_with (first | (go_at_call 21; refine (hE 0).out.mono ?_; rintro e w' ⟨rfl, rfl⟩))
    go_ret
    exact ⟨rfl, 0, rfl⟩
  · by_cases hm : 64 < n
    · go_enter Tryd.func56, Tryd.ntmps56
      go_wp2_with (first | (go_at_call 21; refine (hE 0).out.mono ?_; rintro e w' ⟨rfl, rfl⟩))
      go_ret
      exact ⟨rfl, 0, rfl⟩
    · have hq : 8192 < r.hp + n := by omega
      have e1 : IntKind.i64.wrap n = n := wrapI _ (by omega) (by omega)
      have e2 : IntKind.i64.wrap (r.hp + n) = r.hp + n := wrapI _ (by omega) (by omega)
      go_enter Tryd.func56, Tryd.ntmps56
      go_wp2_with (first | (go_at_call 21; refine (hE 0).out.mono ?_; rintro e w' ⟨rfl, rfl⟩))
      go_ret
      exact ⟨rfl, 0, rfl⟩
set_option maxHeartbeats 2000000 in
theorem alloc_ok (R B np n : Nat) (r : Rs) (px : List Value) (w : World) (hR : Rb w R r) (hP : w.ownsRow B 96 3 r.pv np px) (hB : B ≤ w.heap.size) (hnp : np ≤ 1000000) (n0 : 0 ≤ r.nx) (n1 : r.nx ≤ 1099511627776) (h0 : 0 ≤ r.hp) (hn : n ≤ 64) (hq : r.hp + n ≤ 8192) : Calls Tryd.prog 56 #[.pointer (some ⟨R, 0, none⟩), .int .i64 n] w fun e w' => e = .returned (.int .i64 r.nx) ∧ ∃ g pv, Onl (fun b => b = R ∨ r.pv.ownBlock = some b) w w' ∧ Rb w' R { r with pv := pv, hp := r.hp + n, nx := r.nx + 8 * ((n : Int) + 1) } ∧ w'.ownsRow B 96 3 pv (np + 1) (px ++ [.int .i64 2, .int .i64 r.nx, .slice (some ⟨g, 0, none⟩) n n]) ∧ Bk w' g 2 (List.replicate n (.int .i64 0)) ∧ w.heap.size ≤ g := by
  have r7 := hR.cell (j := 7) rfl
  have z7 := hR.fz 7
  have HG : Hid (Calls Tryd.prog 40 #[.pointer (some ⟨R, 4, none⟩), .int .i64 2, .int .i64 n] (w.setCell ⟨R, 7, none⟩ (.int .i64 (r.hp + n))) fun e w' => e = .returned (.int .i64 r.nx) ∧ ∃ g pv, Onl (fun b => b = R ∨ r.pv.ownBlock = some b) (w.setCell ⟨R, 7, none⟩ (.int .i64 (r.hp + n))) w' ∧ Rb w' R { r with hp := r.hp + n, pv := pv, nx := r.nx + 8 * ((n : Int) + 1) } ∧ w'.ownsRow B 96 3 pv (np + 1) (px ++ [.int .i64 2, .int .i64 r.nx, .slice (some ⟨g, 0, none⟩) n n]) ∧ Bk w' g 2 (List.replicate n (.int .i64 0)) ∧ (w.setCell ⟨R, 7, none⟩ (.int .i64 (r.hp + n))).heap.size ≤ g) := begin40g R B np n 2 { r with hp := r.hp + n } px _ (hR.set 7 _) (own_set hP (own_ne hP hR (by decide))) (by simpa using hB) (by omega) hnp n0 n1
  have e1 : IntKind.i64.wrap (n : Int) = (n : Int) := wrapI _ (by omega) (by omega)
  have e2 : IntKind.i64.wrap (r.hp + n) = r.hp + n := wrapI _ (by omega) (by omega)
  have q1 : ¬ ((n : Int) < 0) := by omega
  have q2 : ¬ (64 < (n : Int)) := by omega
  have q3 : ¬ (8192 < r.hp + (n : Int)) := by omega
  clear hR hP hB hnp n0 n1 h0 hn hq
  go_enter Tryd.func56, Tryd.ntmps56
  go_wp2_with (first | (go_at_call 40; refine HG.out.mono ?_; rintro e w' ⟨rfl, g, pv, ho, hr, hp, hq, hge⟩))
  go_ret
  exact ⟨rfl, g, pv, ((Onl.of_below (Below.refl _ w)).set (S := fun b => b = R ∨ r.pv.ownBlock = some b) (b := R) (.inl rfl)).trans ho, hr, hp, hq, by simpa using hge⟩
end
section
open Go.RowKit Go.Shelf
theorem make1 (w : World) : (Instr.makeSlice 78 (.int .i64 1) (.int .i64 1)).run Tryd.prog w = .ok (.slice (some ⟨w.heap.size, 0, none⟩) 1 1) (w.alloc (.cells #[.int .i64 0] 2)) := by kernel_rfl
set_option maxRecDepth 20000 in
set_option maxHeartbeats 2000000 in
theorem call43 (R C Q ca x z y : Nat) (at_ : Int) (f : List Value) (w : World) (hC : Cl w C [.slice (some ⟨y, 0, none⟩) 1 1, .slice (some ⟨Q, 0, none⟩) 1 1, .int .i64 65536, .int .i64 0, .int .i64 0, .int .i64 at_, .int .i64 (-1)]) (hQ : Cl w Q [.int .i64 7]) (hR : Cl w R f) (hf : f.length = 13) (h3 : f[3]? = some (.slice (some ⟨C, 0, none⟩) 1 ca)) (h11 : f[11]? = some (.slice none 0 0)) (hI : Ib w x z) (hxR : x ≠ R) : Calls Tryd.prog 44 #[.pointer (some ⟨R, 0, none⟩), .pointer (some ⟨x, 9, none⟩)] w fun e w' => e = .returned (.tuple #[]) ∧ ∃ g cap, Onl (fun b => b = R) w w' ∧ Cl w' R (f.set 11 (.slice (some ⟨g, 0, none⟩) 2 cap)) ∧ Cl w' g [.int .u8 55, .int .u8 10] ∧ w.heap.size ≤ g := by
  have hI40 : Hid (Calls Tryd.prog 41 #[.pointer (some ⟨R, 0, none⟩)] w fun e w' => e = .returned (.pointer (some ⟨C, 0, none⟩)) ∧ ∃ n, w' = w.drewN n) := innermost40 R C ca w (hR.cell h3)
  have HC : Hid (Cl w C [.slice (some ⟨y, 0, none⟩) 1 1, .slice (some ⟨Q, 0, none⟩) 1 1, .int .i64 65536, .int .i64 0, .int .i64 0, .int .i64 at_, .int .i64 (-1)]) := hC
  have HQ : Hid (Cl w Q [.int .i64 7]) := hQ
  have HR : Hid (Cl w R f) := hR
  have HI : Hid (Ib w x z) := hI
  have HF : Hid (f.length = 13) := hf
  have HX : Hid (x ≠ R) := hxR
  have H11 : Hid (f[11]? = some (.slice none 0 0)) := h11
  have HPr : Hid (∀ W, Below w.heap.size w W → Calls Tryd.prog 54 #[.pointer (some ⟨R, 0, none⟩), .int .i64 7] W fun e w' => e = .returned (.int .i64 0) ∧ ∃ g cap w4, Below w.heap.size w w4 ∧ w' = w4.setCell ⟨R, 11, none⟩ (.slice (some ⟨g, 0, none⟩) 2 cap) ∧ Cl w4 g [.int .u8 55, .int .u8 10] ∧ w.heap.size ≤ g) := fun W hW => (print51 R W ((hR.below hW).cell h11) (hR.below hW).lt ((hR.below hW).fz 11)).mono fun e w' ⟨h1, g, cap, w4, h2, h3, h4, h5⟩ => ⟨h1, g, cap, w4, hW.trans (h2.mono hW.size), h3, h4, Nat.le_trans hW.size h5⟩
  clear hC hQ hR hf h3 h11 hI hxR
  go_enter Tryd.func44, Tryd.ntmps44
  go_wp2_with fail
  refine hI40.out.mono ?_
  rintro e w1 ⟨rfl, n1, hw1⟩
  have hb1 : Below w.heap.size w w1 := by rw [hw1]; exact below_drewN (Below.refl _ _) n1
  have HB1 : Hid (Below w.heap.size w w1) := hb1
  have hC1 := HC.out.below hb1
  have hQ1 := HQ.out.below hb1
  have hI1 := HI.out.below hb1
  have k1 := hC1.cell (j := 1) rfl
  have k1' := acell hC1.lt k1
  have q0 := hQ1.cell (j := 0) rfl
  have q0' := acell hQ1.lt q0
  have i1 := hI1.at_ 10 _ rfl
  have i5 := hI1.at_ 14 _ rfl
  have i6 := hI1.at_ 15 _ rfl
  have i1' := acell hI1.lx i1
  have i5' := acell hI1.lx i5
  have i6' := acell hI1.lx i6
  have a0 := hI1.ar
  have a0' := acell hI1.lz a0
  have e1 : ¬ x = w1.heap.size := by have := hI1.lx; omega
  have e2 : ¬ w1.heap.size = x := by have := hI1.lx; omega
  have e3 : ¬ C = w1.heap.size := by have := hC1.lt; omega
  have e4 : ¬ w1.heap.size = C := by have := hC1.lt; omega
  have mk := make1 w1
  clear hw1 hb1 hC1 hQ1 hI1
  go_wp2
  refine wp_loop_rounds 2 ?_
  rw [rounds_succ]
  go_wp2
  rw [rounds_succ]
  go_wp2
  go_region_with (first | (go_at_call 54; refine (HPr.out _ (by first | exact (HB1.out.alloc HB1.out.size _).drew | exact (HB1.out.alloc HB1.out.size _))).mono ?_; rintro e w3 ⟨rfl, g, cap, w4, hb4, hw3, hcl, hge⟩; have dx : w3.cell? ⟨x, 10, none⟩ = some (.int .i64 (-1)) := (by rw [hw3, World.cell?_of_block ((grown_set w4 R 11 _).block x (HI.out.below hb4).lx (fun e => HX.out (by cases e; rfl)))]; exact (HI.out.below hb4).at_ 10 _ rfl); have HE : Hid (Onl (fun b => b = R) w w3 ∧ Cl w3 R (f.set 11 (.slice (some ⟨g, 0, none⟩) 2 cap)) ∧ Cl w3 g [.int .u8 55, .int .u8 10] ∧ w.heap.size ≤ g) := (by rw [hw3]; exact ⟨(Onl.of_below hb4).set (S := fun b => b = R) (b := R) rfl, (HR.out.below hb4).set (by have := HF.out; omega) _, hcl.other (fun e => by have := HR.out.lt; omega), hge⟩); clear hb4 hw3 hcl hge) | (go_at_call 53; refine (answer_none R 0 _).mono ?_; rintro e w5 ⟨rfl, rfl⟩))
  all_goals (
    go_wp2
    go_returns
    exact ⟨rfl, g, cap, HE.out⟩)
end
section
open Go.RowKit Go.Shelf
set_option maxRecDepth 20000 in
set_option maxHeartbeats 2000000 in
theorem call_read (R C ca n x o ac : Nat) (ar : Option Addr) (d v : Int) (T Q : World → Prop) (w : World) (h3 : w.cell? ⟨R, 3, none⟩ = some (.slice (some ⟨C, 0, none⟩) (n + 1) ca)) (hn : n < 1000000) (i1 : w.cell? ⟨x, o + 1, none⟩ = some (.int .i64 d)) (i5 : w.cell? ⟨x, o + 5, none⟩ = some (.string ⟨#[114, 116, 46, 114, 101, 97, 100]⟩)) (i6 : w.cell? ⟨x, o + 6, none⟩ = some (.slice ar 0 ac)) (hop : ∀ W, Below w.heap.size w W → Calls Tryd.prog 55 #[.pointer (some ⟨R, 0, none⟩)] W fun e w' => e = .returned (.int .i64 v) ∧ w'.cell? ⟨x, o + 1, none⟩ = some (.int .i64 d) ∧ T w') (han : ∀ W, T W → Calls Tryd.prog 53 #[.pointer (some ⟨R, 0, none⟩), .int .i64 d, .int .i64 v] W fun e w' => e = .returned (.tuple #[]) ∧ Q w') : Calls Tryd.prog 44 #[.pointer (some ⟨R, 0, none⟩), .pointer (some ⟨x, o, none⟩)] w fun e w' => e = .returned (.tuple #[]) ∧ Q w' := by
  have hI : Hid (Calls Tryd.prog 41 #[.pointer (some ⟨R, 0, none⟩)] w fun e w' => e = .returned (.pointer (some ⟨C, n * 7, none⟩)) ∧ ∃ k, w' = w.drewN k) := innermost41g R C ca n w h3 hn
  have HOp : Hid (∀ W, Below w.heap.size w W → Calls Tryd.prog 55 #[.pointer (some ⟨R, 0, none⟩)] W fun e w' => e = .returned (.int .i64 v) ∧ w'.cell? ⟨x, o + 1, none⟩ = some (.int .i64 d) ∧ T w') := hop
  have HAn : Hid (∀ W, T W → Calls Tryd.prog 53 #[.pointer (some ⟨R, 0, none⟩), .int .i64 d, .int .i64 v] W fun e w' => e = .returned (.tuple #[]) ∧ Q w') := han
  have li1 := World.block_lt_of_cell? _ _ i1
  have li5 := World.block_lt_of_cell? _ _ i5
  have li6 := World.block_lt_of_cell? _ _ i6
  clear hop han h3
  go_enter Tryd.func44, Tryd.ntmps44
  go_wp2_with fail
  refine hI.out.mono ?_
  rintro e w1 ⟨rfl, n1, hw1⟩
  have HB1 : Hid (Below w.heap.size w w1) := by show Below _ _ _; rw [hw1]; exact below_drewN (Below.refl _ _) n1
  have ki1 := dcell i1 n1
  have ki5 := dcell i5 n1
  have ki6 := dcell i6 n1
  rw [← hw1] at ki1 ki5 ki6
  have hsz : w1.heap.size = w.heap.size := by rw [hw1]; rfl
  have fi1 := acell (World.block_lt_of_cell? _ _ ki1) ki1
  have fi5 := acell (World.block_lt_of_cell? _ _ ki5) ki5
  have fi6 := acell (World.block_lt_of_cell? _ _ ki6) ki6
  have mk := make0 w1
  have gx : ¬ x = w1.heap.size := by have := World.block_lt_of_cell? _ _ ki1; exact Nat.ne_of_lt this
  have gx' : ¬ w1.heap.size = x := fun e => gx e.symm
  clear hw1 hsz i1 i5 i6 li1 li5 li6
  go_wp2
  refine wp_loop_rounds 1 ?_
  rw [rounds_succ]
  go_wp2
  go_region_with (first | (go_at_call 55; refine (HOp.out _ (by first | exact (HB1.out.alloc HB1.out.size _).drew | exact (HB1.out.alloc HB1.out.size _))).mono ?_; rintro e w3 ⟨rfl, dx, hT⟩; have HT : Hid (T w3) := hT; clear hT) | (go_at_call 53; refine (HAn.out _ HT.out).mono ?_; rintro e w5 ⟨rfl, hq⟩))
  all_goals (
    go_wp2
    go_returns
    exact ⟨rfl, hq⟩)
set_option maxRecDepth 20000 in
set_option maxHeartbeats 2000000 in
theorem call_print (R C ca n x o ac : Nat) (m rc q z zo a : Nat) (va : Int) (d v : Int) (T Q : World → Prop) (w : World) (h3 : w.cell? ⟨R, 3, none⟩ = some (.slice (some ⟨C, 0, none⟩) (n + 1) ca)) (hn : n < 1000000) (c1 : w.cell? ⟨C, n * 7 + 1, none⟩ = some (.slice (some ⟨q, 0, none⟩) m rc)) (ha : a < m) (qa : w.cell? ⟨q, a, none⟩ = some (.int .i64 va)) (az : w.cell? ⟨z, zo, none⟩ = some (.int .i64 a)) (i1 : w.cell? ⟨x, o + 1, none⟩ = some (.int .i64 d)) (i5 : w.cell? ⟨x, o + 5, none⟩ = some (.string ⟨#[114, 116, 46, 112, 114, 105, 110, 116]⟩)) (i6 : w.cell? ⟨x, o + 6, none⟩ = some (.slice (some ⟨z, zo, none⟩) 1 ac)) (hop : ∀ W, Below w.heap.size w W → Calls Tryd.prog 54 #[.pointer (some ⟨R, 0, none⟩), .int .i64 va] W fun e w' => e = .returned (.int .i64 v) ∧ w'.cell? ⟨x, o + 1, none⟩ = some (.int .i64 d) ∧ T w') (han : ∀ W, T W → Calls Tryd.prog 53 #[.pointer (some ⟨R, 0, none⟩), .int .i64 d, .int .i64 v] W fun e w' => e = .returned (.tuple #[]) ∧ Q w') : Calls Tryd.prog 44 #[.pointer (some ⟨R, 0, none⟩), .pointer (some ⟨x, o, none⟩)] w fun e w' => e = .returned (.tuple #[]) ∧ Q w' := by
  have hI : Hid (Calls Tryd.prog 41 #[.pointer (some ⟨R, 0, none⟩)] w fun e w' => e = .returned (.pointer (some ⟨C, n * 7, none⟩)) ∧ ∃ k, w' = w.drewN k) := innermost41g R C ca n w h3 hn
  have HOp : Hid (∀ W, Below w.heap.size w W → Calls Tryd.prog 54 #[.pointer (some ⟨R, 0, none⟩), .int .i64 va] W fun e w' => e = .returned (.int .i64 v) ∧ w'.cell? ⟨x, o + 1, none⟩ = some (.int .i64 d) ∧ T w') := hop
  have HAn : Hid (∀ W, T W → Calls Tryd.prog 53 #[.pointer (some ⟨R, 0, none⟩), .int .i64 d, .int .i64 v] W fun e w' => e = .returned (.tuple #[]) ∧ Q w') := han
  have li1 := World.block_lt_of_cell? _ _ i1
  have li5 := World.block_lt_of_cell? _ _ i5
  have li6 := World.block_lt_of_cell? _ _ i6
  have lc1 := World.block_lt_of_cell? _ _ c1
  have lqa := World.block_lt_of_cell? _ _ qa
  have laz := World.block_lt_of_cell? _ _ az
  clear hop han h3
  go_enter Tryd.func44, Tryd.ntmps44
  go_wp2_with fail
  refine hI.out.mono ?_
  rintro e w1 ⟨rfl, n1, hw1⟩
  have HB1 : Hid (Below w.heap.size w w1) := by show Below _ _ _; rw [hw1]; exact below_drewN (Below.refl _ _) n1
  have ki1 := dcell i1 n1
  have ki5 := dcell i5 n1
  have ki6 := dcell i6 n1
  have kc1 := dcell c1 n1
  have kqa := dcell qa n1
  have kaz := dcell az n1
  rw [← hw1] at ki1 ki5 ki6 kc1 kqa kaz
  have hsz : w1.heap.size = w.heap.size := by rw [hw1]; rfl
  have fi1 := acell (World.block_lt_of_cell? _ _ ki1) ki1
  have fi5 := acell (World.block_lt_of_cell? _ _ ki5) ki5
  have fi6 := acell (World.block_lt_of_cell? _ _ ki6) ki6
  have fc1 := acell (World.block_lt_of_cell? _ _ kc1) kc1
  have fqa := acell (World.block_lt_of_cell? _ _ kqa) kqa
  have faz := acell (World.block_lt_of_cell? _ _ kaz) kaz
  have mk := make1 w1
  have gC : ¬ C = w1.heap.size := by have := World.block_lt_of_cell? _ _ kc1; exact Nat.ne_of_lt this
  have gC' : ¬ w1.heap.size = C := fun e => gC e.symm
  have gq : ¬ q = w1.heap.size := by have := World.block_lt_of_cell? _ _ kqa; exact Nat.ne_of_lt this
  have gq' : ¬ w1.heap.size = q := fun e => gq e.symm
  have gx : ¬ x = w1.heap.size := by have := World.block_lt_of_cell? _ _ ki1; exact Nat.ne_of_lt this
  have gx' : ¬ w1.heap.size = x := fun e => gx e.symm
  have gz : ¬ z = w1.heap.size := by have := World.block_lt_of_cell? _ _ kaz; exact Nat.ne_of_lt this
  have gz' : ¬ w1.heap.size = z := fun e => gz e.symm
  clear hw1 hsz i1 i5 i6 c1 qa az li1 li5 li6 lc1 lqa laz
  go_wp2
  refine wp_loop_rounds 2 ?_
  rw [rounds_succ]
  go_wp2
  rw [rounds_succ]
  go_wp2
  go_region_with (first | (go_at_call 54; refine (HOp.out _ (by first | exact (HB1.out.alloc HB1.out.size _).drew | exact (HB1.out.alloc HB1.out.size _))).mono ?_; rintro e w3 ⟨rfl, dx, hT⟩; have HT : Hid (T w3) := hT; clear hT) | (go_at_call 53; refine (HAn.out _ HT.out).mono ?_; rintro e w5 ⟨rfl, hq⟩))
  all_goals (
    go_wp2
    go_returns
    exact ⟨rfl, hq⟩)
set_option maxRecDepth 20000 in
set_option maxHeartbeats 2000000 in
theorem call_alloc (R C ca n x o ac : Nat) (m rc q z zo a : Nat) (va : Int) (d v : Int) (T Q : World → Prop) (w : World) (h3 : w.cell? ⟨R, 3, none⟩ = some (.slice (some ⟨C, 0, none⟩) (n + 1) ca)) (hn : n < 1000000) (c1 : w.cell? ⟨C, n * 7 + 1, none⟩ = some (.slice (some ⟨q, 0, none⟩) m rc)) (ha : a < m) (qa : w.cell? ⟨q, a, none⟩ = some (.int .i64 va)) (az : w.cell? ⟨z, zo, none⟩ = some (.int .i64 a)) (i1 : w.cell? ⟨x, o + 1, none⟩ = some (.int .i64 d)) (i5 : w.cell? ⟨x, o + 5, none⟩ = some (.string ⟨#[114, 116, 46, 97, 108, 108, 111, 99]⟩)) (i6 : w.cell? ⟨x, o + 6, none⟩ = some (.slice (some ⟨z, zo, none⟩) 1 ac)) (hop : ∀ W, Below w.heap.size w W → Calls Tryd.prog 56 #[.pointer (some ⟨R, 0, none⟩), .int .i64 va] W fun e w' => e = .returned (.int .i64 v) ∧ w'.cell? ⟨x, o + 1, none⟩ = some (.int .i64 d) ∧ T w') (han : ∀ W, T W → Calls Tryd.prog 53 #[.pointer (some ⟨R, 0, none⟩), .int .i64 d, .int .i64 v] W fun e w' => e = .returned (.tuple #[]) ∧ Q w') : Calls Tryd.prog 44 #[.pointer (some ⟨R, 0, none⟩), .pointer (some ⟨x, o, none⟩)] w fun e w' => e = .returned (.tuple #[]) ∧ Q w' := by
  have hI : Hid (Calls Tryd.prog 41 #[.pointer (some ⟨R, 0, none⟩)] w fun e w' => e = .returned (.pointer (some ⟨C, n * 7, none⟩)) ∧ ∃ k, w' = w.drewN k) := innermost41g R C ca n w h3 hn
  have HOp : Hid (∀ W, Below w.heap.size w W → Calls Tryd.prog 56 #[.pointer (some ⟨R, 0, none⟩), .int .i64 va] W fun e w' => e = .returned (.int .i64 v) ∧ w'.cell? ⟨x, o + 1, none⟩ = some (.int .i64 d) ∧ T w') := hop
  have HAn : Hid (∀ W, T W → Calls Tryd.prog 53 #[.pointer (some ⟨R, 0, none⟩), .int .i64 d, .int .i64 v] W fun e w' => e = .returned (.tuple #[]) ∧ Q w') := han
  have li1 := World.block_lt_of_cell? _ _ i1
  have li5 := World.block_lt_of_cell? _ _ i5
  have li6 := World.block_lt_of_cell? _ _ i6
  have lc1 := World.block_lt_of_cell? _ _ c1
  have lqa := World.block_lt_of_cell? _ _ qa
  have laz := World.block_lt_of_cell? _ _ az
  clear hop han h3
  go_enter Tryd.func44, Tryd.ntmps44
  go_wp2_with fail
  refine hI.out.mono ?_
  rintro e w1 ⟨rfl, n1, hw1⟩
  have HB1 : Hid (Below w.heap.size w w1) := by show Below _ _ _; rw [hw1]; exact below_drewN (Below.refl _ _) n1
  have ki1 := dcell i1 n1
  have ki5 := dcell i5 n1
  have ki6 := dcell i6 n1
  have kc1 := dcell c1 n1
  have kqa := dcell qa n1
  have kaz := dcell az n1
  rw [← hw1] at ki1 ki5 ki6 kc1 kqa kaz
  have hsz : w1.heap.size = w.heap.size := by rw [hw1]; rfl
  have fi1 := acell (World.block_lt_of_cell? _ _ ki1) ki1
  have fi5 := acell (World.block_lt_of_cell? _ _ ki5) ki5
  have fi6 := acell (World.block_lt_of_cell? _ _ ki6) ki6
  have fc1 := acell (World.block_lt_of_cell? _ _ kc1) kc1
  have fqa := acell (World.block_lt_of_cell? _ _ kqa) kqa
  have faz := acell (World.block_lt_of_cell? _ _ kaz) kaz
  have mk := make1 w1
  have gC : ¬ C = w1.heap.size := by have := World.block_lt_of_cell? _ _ kc1; exact Nat.ne_of_lt this
  have gC' : ¬ w1.heap.size = C := fun e => gC e.symm
  have gq : ¬ q = w1.heap.size := by have := World.block_lt_of_cell? _ _ kqa; exact Nat.ne_of_lt this
  have gq' : ¬ w1.heap.size = q := fun e => gq e.symm
  have gx : ¬ x = w1.heap.size := by have := World.block_lt_of_cell? _ _ ki1; exact Nat.ne_of_lt this
  have gx' : ¬ w1.heap.size = x := fun e => gx e.symm
  have gz : ¬ z = w1.heap.size := by have := World.block_lt_of_cell? _ _ kaz; exact Nat.ne_of_lt this
  have gz' : ¬ w1.heap.size = z := fun e => gz e.symm
  clear hw1 hsz i1 i5 i6 c1 qa az li1 li5 li6 lc1 lqa laz
  go_wp2
  refine wp_loop_rounds 2 ?_
  rw [rounds_succ]
  go_wp2
  rw [rounds_succ]
  go_wp2
  go_region_with (first | (go_at_call 56; refine (HOp.out _ (by first | exact (HB1.out.alloc HB1.out.size _).drew | exact (HB1.out.alloc HB1.out.size _))).mono ?_; rintro e w3 ⟨rfl, dx, hT⟩; have HT : Hid (T w3) := hT; clear hT) | (go_at_call 53; refine (HAn.out _ HT.out).mono ?_; rintro e w5 ⟨rfl, hq⟩))
  all_goals (
    go_wp2
    go_returns
    exact ⟨rfl, hq⟩)
end
end Go.Proofs.YtdppoblbenbafaaDoor
