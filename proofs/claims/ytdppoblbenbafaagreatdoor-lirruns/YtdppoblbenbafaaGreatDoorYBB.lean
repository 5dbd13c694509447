/- The document's own return to a call. The document's own call begins. The document's own little functions. -/
import Derived.Test.YtdppoblbenbafaaGreatDoorYBA
import Derived.Test.YtdppoblbenbafaaGreatDoorYAU
import Derived.Test.YtdppoblbenbafaaGreatDoorYAB
import Derived.Test.YtdppoblbenbafaaGreatDoorYAE
namespace Go.Proofs.YtdppoblbenbafaaGreatDoor
section
open Go.RowKit Go.Shelf
set_option maxRecDepth 20000
set_option maxHeartbeats 4000000
theorem rback_more (R C ca P np pa k q m kob : Nat) (f b i v : Int) (an q2 : Nat) (f2 ob2 b2 i2 an2 : Int) (rg : List Int) (u : Int) (r : Rq) (cs os : List Value) (w : World) (h : BakF R C ca P np pa (k + 1) q m kob f b i an r cs os w) (h2 : ∀ t v, (fmC f2 q2 rg.length ob2 b2 i2 an2)[t]? = some v → cs[k * 6 + t]? = some v) (hq : Bk w q2 2 (rg.map (Value.int .i64))) (hu : rg[an]? = some u) : Calls Tryz.prog 74 #[.pointer (some ⟨R, 0, none⟩), .int .i64 v] w fun e w' => e = .returned (.tuple #[]) ∧ BakG R C P q2 kob k ca r cs os (rg.set an v) w w' := by
  have H : Hid (BakF R C ca P np pa (k + 1) q m kob f b i an r cs os w) := h
  have HQ : Hid (Bk w q2 2 (rg.map (Value.int .i64))) := hq
  have r4 := h.rb.cell (j := 4) (v := .slice (some ⟨C, 0, none⟩) (k + 1 + 1) ca) (by rw [← h.cv]; rfl)
  have r3 := h.rb.cell (j := 3) (v := .slice (some ⟨P, 0, none⟩) np pa) (by rw [← h.ob]; rfl)
  have z4 := h.rb.fz 4
  have c0 := h.bc.cell (j := (k + 1) * 6) (h.fc 0 _ rfl)
  have c1 := h.bc.cell (h.fc 1 _ rfl)
  have c2 := h.bc.cell (h.fc 2 _ rfl)
  have c3 := h.bc.cell (h.fc 3 _ rfl)
  have c4 := h.bc.cell (h.fc 4 _ rfl)
  have c5 := h.bc.cell (h.fc 5 _ rfl)
  have g1 := h.bc.cell (h2 1 _ rfl)
  have qu := hq.cell (j := an) (v := .int .i64 u) (by rw [List.getElem?_map, hu]; rfl)
  have zu := hq.fz an
  obtain ⟨uo, huo⟩ := h.ed
  have o3 := h.bo.cell huo
  have y3 := h.bo.fz (kob * 4 + 3)
  have n1 : ¬ P = R := h.bo.ne h.rb (by decide)
  have n2 : ¬ R = P := fun e => n1 e.symm
  have n3 : ¬ P = C := h.bo.ne h.bc (by decide)
  have n4 : ¬ C = P := fun e => n3 e.symm
  have n5 : ¬ R = C := h.rb.ne h.bc (by decide)
  have n6 : ¬ C = R := fun e => n5 e.symm
  have n7 : ¬ q2 = R := hq.ne h.rb (by decide)
  have n8 : ¬ R = q2 := fun e => n7 e.symm
  have n9 : ¬ q2 = P := hq.ne h.bo (by decide)
  have n10 : ¬ P = q2 := fun e => n9 e.symm
  have n11 : ¬ C = q2 := fun e => (hq.ne h.bc (by decide)) e.symm
  have lP := h.bo.lt
  have lR := h.rb.lt
  have lC := h.bc.lt
  have lq := hq.lt
  have hkn : (kob : Int) < np := by have := h.lt; omega
  have hk6 : k < 1000000 := by have := h.hn; omega
  have hcc : k + 1 ≤ ca := by have := h.hc; omega
  have hcI : ((k : Int) + 1) ≤ ca := by omega
  have ha : an < rg.length := (List.getElem?_eq_some_iff.1 hu).1
  have haI : (an : Int) < rg.length := by omega
  have e1 : IntKind.i64.wrap ((k : Int) + 1 + 1 - 1) = (k : Int) + 1 := by rw [wrapI _ (by omega) (by omega)]; omega
  have e2 : IntKind.i64.wrap ((k : Int) + 1 - 1) = (k : Int) := by rw [wrapI _ (by omega) (by omega)]; omega
  have w1 := wrapN1 k (by omega)
  have w2 := wrapN k (by omega)
  clear h huo hq hu h2
  go_enter Tryz.func74, Tryz.ntmps74
  go_wp2
  go_region
  go_wp2
  go_region
  go_wp2
  go_region
  go_wp2
  go_region
  go_wp2
  go_returns
  refine ⟨rfl, ⟨((((((((Onl.of_below (Below.refl _ _)).set (S := fun b => b = R ∨ b = P ∨ b = q2) (b := P) (.inr (.inl rfl))).set (b := R) (.inl rfl)).set (b := q2) (.inr (.inr rfl))).alloc _).drewN 1).drewN 1).drewN 1).drewN 1, ((((((H.out.rb.other n2).set 4 _).other n8).alloc _).drew.drew).drew).drew, ((((((H.out.bo.set _ _).other n1).other n10).alloc _).drew.drew).drew).drew, ((((((H.out.bc.other n4).other n6).other n11).alloc _).drew.drew).drew).drew, ?_⟩⟩
  rw [List.map_set]
  exact ((((((HQ.out.other n9).other n7).set an (.int .i64 v)).alloc _).drew.drew).drew).drew
theorem rback_none (R C ca P np pa k q m kob : Nat) (f b i v : Int) (an : Int) (han : an < 0) (q2 : Nat) (f2 ob2 b2 i2 an2 : Int) (rg : List Int) (r : Rq) (cs os : List Value) (w : World) (h : BakF R C ca P np pa (k + 1) q m kob f b i an r cs os w) (h2 : ∀ t v, (fmC f2 q2 rg.length ob2 b2 i2 an2)[t]? = some v → cs[k * 6 + t]? = some v) (hq : Bk w q2 2 (rg.map (Value.int .i64))) : Calls Tryz.prog 74 #[.pointer (some ⟨R, 0, none⟩), .int .i64 v] w fun e w' => e = .returned (.tuple #[]) ∧ BakG R C P q2 kob k ca r cs os rg w w' := by
  have H : Hid (BakF R C ca P np pa (k + 1) q m kob f b i an r cs os w) := h
  have HQ : Hid (Bk w q2 2 (rg.map (Value.int .i64))) := hq
  have r4 := h.rb.cell (j := 4) (v := .slice (some ⟨C, 0, none⟩) (k + 1 + 1) ca) (by rw [← h.cv]; rfl)
  have r3 := h.rb.cell (j := 3) (v := .slice (some ⟨P, 0, none⟩) np pa) (by rw [← h.ob]; rfl)
  have z4 := h.rb.fz 4
  have c0 := h.bc.cell (j := (k + 1) * 6) (h.fc 0 _ rfl)
  have c1 := h.bc.cell (h.fc 1 _ rfl)
  have c2 := h.bc.cell (h.fc 2 _ rfl)
  have c3 := h.bc.cell (h.fc 3 _ rfl)
  have c4 := h.bc.cell (h.fc 4 _ rfl)
  have c5 := h.bc.cell (h.fc 5 _ rfl)
  have g1 := h.bc.cell (h2 1 _ rfl)
  obtain ⟨uo, huo⟩ := h.ed
  have o3 := h.bo.cell huo
  have y3 := h.bo.fz (kob * 4 + 3)
  have n1 : ¬ P = R := h.bo.ne h.rb (by decide)
  have n2 : ¬ R = P := fun e => n1 e.symm
  have n3 : ¬ P = C := h.bo.ne h.bc (by decide)
  have n4 : ¬ C = P := fun e => n3 e.symm
  have n5 : ¬ R = C := h.rb.ne h.bc (by decide)
  have n6 : ¬ C = R := fun e => n5 e.symm
  have n7 : ¬ q2 = R := hq.ne h.rb (by decide)
  have n8 : ¬ R = q2 := fun e => n7 e.symm
  have n9 : ¬ q2 = P := hq.ne h.bo (by decide)
  have n10 : ¬ P = q2 := fun e => n9 e.symm
  have n11 : ¬ C = q2 := fun e => (hq.ne h.bc (by decide)) e.symm
  have lP := h.bo.lt
  have lR := h.rb.lt
  have lC := h.bc.lt
  have lq := hq.lt
  have hkn : (kob : Int) < np := by have := h.lt; omega
  have hk6 : k < 1000000 := by have := h.hn; omega
  have hcc : k + 1 ≤ ca := by have := h.hc; omega
  have hcI : ((k : Int) + 1) ≤ ca := by omega
  have e1 : IntKind.i64.wrap ((k : Int) + 1 + 1 - 1) = (k : Int) + 1 := by rw [wrapI _ (by omega) (by omega)]; omega
  have e2 : IntKind.i64.wrap ((k : Int) + 1 - 1) = (k : Int) := by rw [wrapI _ (by omega) (by omega)]; omega
  have w1 := wrapN1 k (by omega)
  have w2 := wrapN k (by omega)
  clear h huo hq h2
  go_enter Tryz.func74, Tryz.ntmps74
  go_wp2
  go_region
  go_wp2
  go_region
  go_wp2
  go_region
  go_wp2
  go_returns
  refine ⟨rfl, ⟨((((((Onl.of_below (Below.refl _ _)).set (S := fun b => b = R ∨ b = P ∨ b = q2) (b := P) (.inr (.inl rfl))).set (b := R) (.inl rfl)).alloc _).drewN 1).drewN 1).drewN 1, (((((H.out.rb.other n2).set 4 _).alloc _).drew).drew).drew, (((((H.out.bo.set _ _).other n1).alloc _).drew).drew).drew, (((((H.out.bc.other n4).other n6).alloc _).drew).drew).drew, (((((HQ.out.other n9).other n7).alloc _).drew).drew).drew⟩⟩
end
section
open Go.RowKit Go.Shelf
set_option maxRecDepth 20000
set_option maxHeartbeats 4000000
theorem rcall_deep (R k nc : Nat) (ca : Nat) (cp : Option Addr) (av : Value) (ans : Int) (r : Rq) (w : World) (hR : Rqb w R r) (hcv : r.cv = .slice cp nc ca) (hn : 1000 ≤ nc) : Calls Tryz.prog 31 #[.pointer (some ⟨R, 0, none⟩), .int .i64 k, av, .int .i64 ans] w fun e w' => e = .returned (.tuple #[]) ∧ Onl (fun b => b = R) w w' ∧ Rqb w' R { r with en := 2, cd := 0, ovr := true } := by
  have HS : Hid (Calls Tryz.prog 32 #[.pointer (some ⟨R, 0, none⟩), .int .i64 2, .int .i64 0] w fun e w' => e = .returned (.tuple #[]) ∧ Onl (fun b => b = R) w w' ∧ Rqb w' R { r with en := 2, cd := 0, ovr := true }) := rstop32 R 2 0 r w hR
  have r4 := hR.cell (j := 4) (v := .slice cp nc ca) (by rw [← hcv]; rfl)
  have hn' : (1000 : Int) ≤ nc := by omega
  clear hR hcv
  go_enter Tryz.func31, Tryz.ntmps31
  go_wp2_with (first | (go_at_call 32; refine HS.out.mono ?_; rintro e w1 ⟨rfl, ho, hr⟩))
  go_returns
  exact ⟨rfl, ho, hr⟩
theorem info109 : (Tryz.prog.info? 109).map (fun i => (i.zero, i.size, i.bytes)) = some (some (.agg #[.int .i64 0, .slice none 0 0, .int .i64 0, .int .i64 0, .int .i64 0, .int .i64 0]), 6, 64) := by kernel_rfl
theorem info109' : ∃ i, Tryz.prog.info? 109 = some i ∧ i.zero = some (.agg #[.int .i64 0, .slice none 0 0, .int .i64 0, .int .i64 0, .int .i64 0, .int .i64 0]) ∧ i.size = 6 ∧ i.bytes = 64 := by
  have h := info109
  cases hi : Tryz.prog.info? 109 with
  | none => rw [hi] at h; cases h
  | some i => rw [hi] at h; simp at h; exact ⟨i, rfl, h⟩
/-- What a call's beginning leaves. -/
structure EnQ (R B nc np m fr k : Nat) (ans : Int) (r : Rq) (xs px rg : List Value) (w w' : World) : Prop where
  out : ∃ cv ob gw, Onl (fun b => b = R ∨ r.ob.ownBlock = some b ∨ r.cv.ownBlock = some b) w w' ∧ Rqb w' R { r with cv := cv, ob := ob, nx := r.nx + 8 * ((fr : Int) + 1) } ∧ w'.ownsRow B 109 6 cv (nc + 1) (xs ++ fmC k w.heap.size m np 0 0 ans) ∧ w'.ownsRow B 146 4 ob (np + 1) (px ++ [.int .i64 r.nx, .slice (some ⟨gw, 0, none⟩) fr fr, .bool false, .bool false]) ∧ Bk w' w.heap.size 2 rg ∧ Bk w' gw 2 (List.replicate fr (.int .i64 0)) ∧ w.heap.size + 2 ≤ gw
theorem rcall31 (R B k nc np g o pl pc m fr : Nat) (ans na : Int) (av : Value) (r : Rq) (xs px rg : List Value) (w V : World) (hR : Rqb w R r) (hpg : r.pg = .slice (some ⟨g, o, none⟩) pl pc) (hk : k < pl) (f2 : w.cell? ⟨g, o + k * 5 + 2, none⟩ = some (.int .i64 m)) (f3 : w.cell? ⟨g, o + k * 5 + 3, none⟩ = some (.int .i64 fr)) (hC : w.ownsRow B 109 6 r.cv nc xs) (hP : w.ownsRow B 146 4 r.ob np px) (hB : B ≤ w.heap.size) (hm : m ≤ 4096) (hfr : fr ≤ 4096) (hnc : nc < 1000) (hnp : np ≤ 1000000) (n0 : 0 ≤ r.nx) (n1 : r.nx ≤ 1099511627776) (hcp : (Builtin.copy_ #[107, 107] 3 #[.slice (some ⟨w.heap.size, 0, none⟩) m m, av]).run Tryz.prog ((w.alloc (.cells (Array.replicate m (.int .i64 0)) 2)).alloc (.cells #[.int .i64 k, .slice (some ⟨w.heap.size, 0, none⟩) m m, .int .i64 0, .int .i64 0, .int .i64 0, .int .i64 ans] 109)) = .ok (.int .i64 na) V) (hV : Onl (fun b => b = w.heap.size) ((w.alloc (.cells (Array.replicate m (.int .i64 0)) 2)).alloc (.cells #[.int .i64 k, .slice (some ⟨w.heap.size, 0, none⟩) m m, .int .i64 0, .int .i64 0, .int .i64 0, .int .i64 ans] 109)) V) (hVq : Bk V w.heap.size 2 rg) : Calls Tryz.prog 31 #[.pointer (some ⟨R, 0, none⟩), .int .i64 k, av, .int .i64 ans] w fun e w' => e = .returned (.tuple #[]) ∧ EnQ R B nc np m fr k ans r xs px rg w w' := by
  have r0 : w.cell? ⟨R, 0, none⟩ = some (.slice (some ⟨g, o, none⟩) pl pc) := hpg ▸ hR.cell (j := 0) rfl
  obtain ⟨cp, ca, hcv⟩ : ∃ cp ca, r.cv = .slice cp nc ca := by
    obtain ⟨_, ⟨h1, h2⟩ | ⟨g', cap, cur, e1, _⟩⟩ := hC
    · exact ⟨none, 0, by rw [h2, h1]⟩
    · exact ⟨_, _, e1⟩
  have r4 := hR.cell (j := 4) (v := .slice cp nc ca) (by rw [← hcv]; rfl)
  have hnc' : ¬ (1000 : Int) ≤ nc := by omega
  have hk' : (k : Int) < pl := by omega
  have mk : ∀ W, (Instr.makeSlice 107 (.int .i64 m) (.int .i64 m)).run Tryz.prog W = .ok (.slice (some ⟨W.heap.size, 0, none⟩) m m) (W.alloc (.cells (Array.replicate m (.int .i64 0)) 2)) := fun W => by have := mkI m W hm; simpa using this
  obtain ⟨i9, AN0⟩ := info109'
  have AN : Hid (Tryz.prog.info? 109 = some i9 ∧ i9.zero = some (.agg #[.int .i64 0, .slice none 0 0, .int .i64 0, .int .i64 0, .int .i64 0, .int .i64 0]) ∧ i9.size = 6 ∧ i9.bytes = 64) := AN0
  have hW0 : Below w.heap.size w ((w.alloc (.cells (Array.replicate m (.int .i64 0)) 2)).alloc (.cells #[.int .i64 k, .slice (some ⟨w.heap.size, 0, none⟩) m m, .int .i64 0, .int .i64 0, .int .i64 0, .int .i64 ans] 109)) := ((Below.refl _ _).alloc (Nat.le_refl _) _).alloc (by simp) _
  have hs0 : ((w.alloc (.cells (Array.replicate m (.int .i64 0)) 2)).alloc (.cells #[.int .i64 k, .slice (some ⟨w.heap.size, 0, none⟩) m m, .int .i64 0, .int .i64 0, .int .i64 0, .int .i64 ans] 109)).heap.size = w.heap.size + 2 := by simp
  have hRl := hR.lt
  have hsV : V.heap.size ≥ w.heap.size + 2 := by have := hV.size; omega
  have hWV : Below w.heap.size w V := Onl.below (Nat.le_refl _) hW0 hV (fun b e => by omega)
  have hX0 : Bk ((w.alloc (.cells (Array.replicate m (.int .i64 0)) 2)).alloc (.cells #[.int .i64 k, .slice (some ⟨w.heap.size, 0, none⟩) m m, .int .i64 0, .int .i64 0, .int .i64 0, .int .i64 ans] 109)) (w.heap.size + 1) 109 [.int .i64 k, .slice (some ⟨w.heap.size, 0, none⟩) m m, .int .i64 0, .int .i64 0, .int .i64 0, .int .i64 ans] := by
    have := Bk.new (w.alloc (.cells (Array.replicate m (.int .i64 0)) 2)) [.int .i64 k, .slice (some ⟨w.heap.size, 0, none⟩) m m, .int .i64 0, .int .i64 0, .int .i64 0, .int .i64 ans] 109
    simpa using this
  have HX : Hid (Bk V (w.heap.size + 1) 109 [.int .i64 k, .slice (some ⟨w.heap.size, 0, none⟩) m m, .int .i64 0, .int .i64 0, .int .i64 0, .int .i64 ans]) := hX0.onl hV (by omega)
  have HRV : Hid (Rqb V R r) := hR.below hWV
  have HCV : Hid (V.ownsRow B 109 6 r.cv nc xs) := own_keep hC (fun b hb => hWV.block b (own_lt hC hb))
  have HPV : Hid (V.ownsRow B 146 4 r.ob np px) := own_keep hP (fun b hb => hWV.block b (own_lt hP hb))
  have HQV : Hid (Bk V w.heap.size 2 rg) := hVq
  have HOV : Hid (Onl (fun b => b = R ∨ r.ob.ownBlock = some b ∨ r.cv.ownBlock = some b) w V) := Onl.of_below hWV
  have HN : Hid (B ≤ w.heap.size ∧ fr ≤ 4096 ∧ nc < 1000 ∧ np ≤ 1000000 ∧ 0 ≤ r.nx ∧ r.nx ≤ 1099511627776 ∧ R < w.heap.size ∧ w.heap.size + 2 ≤ V.heap.size) := ⟨hB, hfr, hnc, hnp, n0, n1, hRl, hsV⟩
  have HNE : Hid (r.cv.ownBlock ≠ some R ∧ r.ob.ownBlock ≠ some R ∧ (∀ b, r.cv.ownBlock = some b → r.ob.ownBlock ≠ some b) ∧ (∀ b, r.cv.ownBlock = some b → b < w.heap.size) ∧ (∀ b, r.ob.ownBlock = some b → b < w.heap.size)) := ⟨own_ne hC hR (by decide), own_ne hP hR (by decide), fun b hb => by obtain ⟨_, cur, hc⟩ := own_block hC hb; exact own_ne hP hc (by decide), fun b hb => own_lt hC hb, fun b hb => own_lt hP hb⟩
  have HBg : Hid (∀ W, Below V.heap.size V W → Calls Tryz.prog 73 #[.pointer (some ⟨R, 0, none⟩), .int .i64 fr, .bool false] W fun e w' => e = .returned (.int .i64 np) ∧ ∃ gw ob, Onl (fun b => b = R ∨ r.ob.ownBlock = some b) V w' ∧ Rqb w' R { r with ob := ob, nx := r.nx + 8 * ((fr : Int) + 1) } ∧ w'.ownsRow B 146 4 ob (np + 1) (px ++ [.int .i64 r.nx, .slice (some ⟨gw, 0, none⟩) fr fr, .bool false, .bool false]) ∧ Bk w' gw 2 (List.replicate fr (.int .i64 0)) ∧ V.heap.size ≤ gw) := fun W hW => (rmake73 R B np fr false r px W (HRV.out.below hW) (own_keep HPV.out (fun b hb => hW.block b (own_lt HPV.out hb))) (by have := hW.size; omega) hfr hnp n0 n1).mono fun e w' ⟨h1, gw, ob, h2, h3, h4, h5, h6⟩ => ⟨h1, gw, ob, (Onl.of_below hW).trans h2, h3, h4, h5, Nat.le_trans hW.size h6⟩
  have v0 := (hR.below hWV).cell (j := 0) (v := .slice (some ⟨g, o, none⟩) pl pc) (by rw [← hpg]; rfl)
  have vf3 : V.cell? ⟨g, o + k * 5 + 3, none⟩ = some (.int .i64 fr) := (World.cell?_of_block (hWV.block g (World.block_lt_of_cell? _ _ f3))).trans f3
  have HCa : Hid (r.cv = .slice cp nc ca) := hcv
  clear hR hpg hC hP hB hm hfr hnc hnp n0 n1 hV hVq hWV hW0 hs0 hsV hRl AN0 hk hX0 hcv f3
  go_enter Tryz.func31, Tryz.ntmps31
  go_wp2_with fail
  refine (HBg.out _ (by first | exact (Below.refl _ _).drew | exact (Below.refl _ _))).mono ?_
  rintro e w2 ⟨rfl, gw, ob, ho, hr, hp, hq, hge⟩
  have HO2 : Hid (Onl (fun b => b = R ∨ r.ob.ownBlock = some b) V w2) := ho
  have HR2 : Hid (Rqb w2 R { r with ob := ob, nx := r.nx + 8 * ((fr : Int) + 1) }) := hr
  have HP2 : Hid (w2.ownsRow B 146 4 ob (np + 1) (px ++ [.int .i64 r.nx, .slice (some ⟨gw, 0, none⟩) fr fr, .bool false, .bool false]) ∧ Bk w2 gw 2 (List.replicate fr (.int .i64 0)) ∧ V.heap.size ≤ gw) := ⟨hp, hq, hge⟩
  clear ho hr hp hq hge
  have hX2 : Bk w2 (w.heap.size + 1) 109 [.int .i64 k, .slice (some ⟨w.heap.size, 0, none⟩) m m, .int .i64 0, .int .i64 0, .int .i64 0, .int .i64 ans] := HX.out.onl HO2.out (fun e => by rcases e with e | e; (have := HN.out.2.2.2.2.2.2.1; omega); (have := HNE.out.2.2.2.2 _ e; omega))
  have HX2 : Hid (Bk w2 (w.heap.size + 1) 109 [.int .i64 k, .slice (some ⟨w.heap.size, 0, none⟩) m m, .int .i64 0, .int .i64 0, .int .i64 0, .int .i64 ans]) := hX2
  have HQ2 : Hid (Bk w2 w.heap.size 2 rg) := HQV.out.onl HO2.out (fun e => by rcases e with e | e; (have := HN.out.2.2.2.2.2.2.1; omega); (have := HNE.out.2.2.2.2 _ e; omega))
  have HC2 : Hid (w2.ownsRow B 109 6 r.cv nc xs) := own_onl HCV.out HO2.out (fun b hb e => by rcases e with e | e; (subst e; exact HNE.out.1 hb); exact HNE.out.2.2.1 b hb e)
  have HS2 : Hid (V.heap.size ≤ w2.heap.size) := HO2.out.size
  -- the number of the part
  have x0 := hX2.cell (j := 0) rfl
  have x1 := hX2.cell (j := 1) rfl
  have x2 := hX2.cell (j := 2) rfl
  have x3 := hX2.cell (j := 3) rfl
  have x4 := hX2.cell (j := 4) rfl
  have x5 := hX2.cell (j := 5) rfl
  have zx2 := hX2.fz 2
  have lx := hX2.lt
  have u4 := HR2.out.cell (j := 4) (v := .slice cp nc ca) (by rw [← HCa.out]; rfl)
  have zu4 := HR2.out.fz 4
  have lR := HR2.out.lt
  have nRx : ¬ R = w.heap.size + 1 := by have := HN.out.2.2.2.2.2.2.1; omega
  have nxR : ¬ w.heap.size + 1 = R := fun e => nRx e.symm
  clear hX2 r0 f2 mk hcp hk' hnc' r4 v0 vf3
  go_wp2
  have nfr : ∀ b, (∃ t cs, Bk w2 b t cs ∧ t ≠ 109) → ¬ b = w.heap.size + 1 := fun b ⟨t, cs, hb, ht⟩ => hb.ne HX2.out ht
  obtain ⟨W4, hW4⟩ : ∃ W4, W4 = w2.setCell ⟨w.heap.size + 1, 2, none⟩ (.int .i64 np) := ⟨_, rfl⟩
  have HX4 : Hid (Bk W4 (w.heap.size + 1) 109 [.int .i64 k, .slice (some ⟨w.heap.size, 0, none⟩) m m, .int .i64 np, .int .i64 0, .int .i64 0, .int .i64 ans]) := by rw [hW4]; exact HX2.out.set 2 _
  have HR4 : Hid (Rqb W4 R { r with ob := ob, nx := r.nx + 8 * ((fr : Int) + 1) }) := by rw [hW4]; exact HR2.out.other nRx
  have HC4 : Hid (W4.ownsRow B 109 6 r.cv nc xs) := by
    rw [hW4]
    refine own_set HC2.out (fun e => ?_)
    have := HNE.out.2.2.2.1 _ e
    omega
  have HP4 : Hid (W4.ownsRow B 146 4 ob (np + 1) (px ++ [.int .i64 r.nx, .slice (some ⟨gw, 0, none⟩) fr fr, .bool false, .bool false]) ∧ Bk W4 gw 2 (List.replicate fr (.int .i64 0)) ∧ V.heap.size ≤ gw) := by
    rw [hW4]
    exact ⟨own_set HP2.out.1 (own_ne HP2.out.1 HX2.out (by decide)), HP2.out.2.1.other (HP2.out.2.1.ne HX2.out (by decide)), HP2.out.2.2⟩
  have HQ4 : Hid (Bk W4 w.heap.size 2 rg) := by rw [hW4]; exact HQ2.out.other (by omega)
  have HO4 : Hid (Onl (fun b => b = R ∨ r.ob.ownBlock = some b ∨ b = w.heap.size + 1) V W4) := by rw [hW4]; exact (HO2.out.mono fun b h => h.imp id .inl).set (.inr (.inr rfl))
  have HS4 : Hid (V.heap.size ≤ W4.heap.size) := HO4.out.size
  rw [← hW4]
  clear hW4 x0 x1 x2 x3 x4 x5 zx2 lx u4 zu4 lR nfr
  have x0 := HX4.out.cell (j := 0) rfl
  have x1 := HX4.out.cell (j := 1) rfl
  have x2 := HX4.out.cell (j := 2) rfl
  have x3 := HX4.out.cell (j := 3) rfl
  have x4 := HX4.out.cell (j := 4) rfl
  have x5 := HX4.out.cell (j := 5) rfl
  have u4 := HR4.out.cell (j := 4) (v := r.cv) rfl
  have lR := HR4.out.lt
  go_region_law
    (first | (refine step_append_lies _ rfl (.tmp 48) (.tmp 50) 68 rfl B 109 i9 (.agg #[.int .i64 0, .slice none 0 0, .int .i64 0, .int .i64 0, .int .i64 0, .int .i64 0]) 6 64 Tryz.underlying68 AN.out.1 AN.out.2.1 AN.out.2.2.1 AN.out.2.2.2 rfl (by decide) r.cv nc xs rfl (by first | exact own_keep HC4.out (fun b hb => ((Below.refl W4.heap.size W4).alloc (Nat.le_refl _) _).block b (own_lt HC4.out hb)) | exact own_keep HC4.out (fun b hb => ((Below.refl W4.heap.size W4).drew.alloc (Nat.le_refl _) _).block b (own_lt HC4.out hb))) ⟨W4.heap.size, 0, none⟩ 1 1 (fmC k w.heap.size m np 0 0 ans) rfl rfl (World.news_of_block (cs := (fmC k w.heap.size m np 0 0 ans).toArray) (t := 109) (fr := (0, 0)) (by first | exact nb1 W4 _ | exact nb1 W4.drew _)) (by intro u hu; simp [fmC] at hu; rcases hu with rfl | rfl | rfl | rfl | rfl <;> rfl) (by decide) (by unfold maxLen; have := HN.out.2.2.1; omega) (by have := HN.out.2.2.1; omega) (by have := HN.out.1; have := HN.out.2.2.2.2.2.2.2; have := HS4.out; simp; omega) _ rfl ?_; intro gc cap w3 hown hgrow hat hl3; have HZ : Hid (Onl (fun b => r.cv.ownBlock = some b) W4 w3 ∧ w3.ownsRow B 109 6 (.slice (some ⟨gc, 0, none⟩) (nc + 1) cap) (nc + 1) (xs ++ fmC k w.heap.size m np 0 0 ans) ∧ gc ≠ R) := (by refine ⟨?_, hown, ?_⟩; (first | exact ((Onl.of_below (Below.refl _ W4)).alloc _).trans (onl_grown hgrow) | exact ((Onl.of_below (Below.refl _ W4).drew).alloc _).trans (onl_grown hgrow)); (intro e; subst e; rcases hat with h | h; exact HNE.out.1 h; (have := HR4.out.lt; simp at h; omega))); have t4 := (HR4.out.onl HZ.out.1 HNE.out.1).cell (j := 4) rfl; have t4' := (HR4.out.onl HZ.out.1 HNE.out.1).fz 4; clear hown hgrow hat))
  all_goals (
    go_wp2
    go_returns
    obtain ⟨z1, z2, z3⟩ := HZ.out
    obtain ⟨p1, p2, p3⟩ := HP4.out
    have hRl := HN.out.2.2.2.2.2.2.1
    have hVs := HN.out.2.2.2.2.2.2.2
    have t1 := (HOV.out.mono (T := fun b => (b = R ∨ r.ob.ownBlock = some b ∨ r.cv.ownBlock = some b) ∨ b = w.heap.size + 1) fun b h => .inl h).trans (HO4.out.mono fun b h => by rcases h with h | h | h; exact .inl (.inl h); exact .inl (.inr (.inl h)); exact .inr h)
    have t2 : Onl (fun b => b = R ∨ r.ob.ownBlock = some b ∨ r.cv.ownBlock = some b) w W4 := ⟨t1.os, t1.tape, t1.output, t1.size, fun b hb hx => t1.block b hb (fun e => by rcases e with e | e; exact hx e; omega)⟩
    refine ⟨rfl, ⟨.slice (some ⟨gc, 0, none⟩) (nc + 1) cap, ob, gw, ?_, ?_, ?_, ?_, ?_, ?_, ?_⟩⟩
    · exact (t2.trans (z1.mono fun b h => .inr (.inr h))).set (S := fun b => b = R ∨ r.ob.ownBlock = some b ∨ r.cv.ownBlock = some b) (b := R) (.inl rfl)
    · exact (HR4.out.onl z1 HNE.out.1).set 4 (.slice (some ⟨gc, 0, none⟩) (nc + 1) cap)
    · exact own_set z2 (fun e => z3 (by cases e; rfl))
    · refine own_set (own_onl p1 z1 (fun b hb e => ?_)) (own_ne p1 HR4.out (by decide))
      obtain ⟨_, cur, hc⟩ := own_block HC4.out e
      exact own_ne p1 hc (by decide) hb
    · exact (HQ4.out.onl z1 (fun e => by have := HNE.out.2.2.2.1 _ e; omega)).other (by omega)
    · exact (p2.onl z1 (fun e => by have := HNE.out.2.2.2.1 _ e; omega)).other (by omega)
    · omega)
end
section
open Go.RowKit Go.Shelf
set_option maxHeartbeats 2000000
theorem rhas94 (s : ByteArray) (c : UInt8) (w : World) (hs : s.size ≤ maxLen) : Calls Tryz.prog 94 #[.string s, .int .u8 (c.toNat : Int)] w fun e w' => e = .returned (.bool (s.data.toList.contains c)) ∧ w' = w := by
  unfold maxLen at hs
  have HS : Hid (s.data.toList.length = s.size) := by show _ = _; simp
  obtain ⟨R, hR⟩ : ∃ R, R = s.data.toList.contains c := ⟨_, rfl⟩
  have HR : Hid (R = s.data.toList.contains c) := hR
  rw [← hR]
  clear hR
  go_enter Tryz.func94, Tryz.ntmps94
  go_wp2
  go_loop [5] (fun i => ∃ k : Nat, k ≤ s.size ∧ i = .int .i64 k ∧ (s.data.toList.take k).contains c = false) (fun i => s.size - (intOf i).toNat)
  case atStart => exact ⟨0, Nat.zero_le _, rfl, rfl⟩
  case round =>
    obtain ⟨k, hk, rfl, ha⟩ := hrel
    have HA : Hid ((s.data.toList.take k).contains c = false) := ha
    clear ha
    by_cases hlt : k < s.size
    · have HT : Hid (s.data.toList.take (k + 1) = s.data.toList.take k ++ [s[k]]) := take_snoc s k hlt
      by_cases hd : s[k] = c
      · have hq : ((s[k].toNat : Int) == (c.toNat : Int)) = true := by rw [hd]; simp
        have HF : Hid (true = R) := by
          show _ = _
          rw [HR.out, eq_comm, List.contains_iff_mem, ← hd]
          exact Array.getElem_mem_toList _
        clear hd
        go_wp2
        go_ret
        exact ⟨ret_bool HF.out, rfl⟩
      · have hq : ((s[k].toNat : Int) == (c.toNat : Int)) = false := by
          simp
          intro e
          exact hd (UInt8.toNat_inj.1 (by omega))
        have HD : Hid (¬ s[k] = c) := hd
        clear hd
        go_wp2
        go_round
        case rel =>
          refine ⟨k + 1, by omega, by go_num, ?_⟩
          rw [HT.out]
          have h1 := HA.out
          have h2 := HD.out
          simp at h1 ⊢
          exact ⟨h1, fun e => h2 e.symm⟩
        case measure => simp [intOf]; omega
    · go_wp2
      go_ret
      exact ⟨ret_bool (by rw [HR.out, ← HA.out, List.take_of_length_le (by rw [HS.out]; omega)]), rfl⟩
/-- Is it a register? -/
def rgB (rg r : Int) : Bool := decide (0 ≤ r) && decide (r < rg)
theorem rreg95 (f : Fnh) (r : Int) (w : World) : Calls Tryz.prog 95 #[fnhV f, .int .i64 r] w fun e w' => e = .returned (.bool (rgB f.rg r)) ∧ G w w' := by
  unfold fnhV
  go_enter Tryz.func95, Tryz.ntmps95
  go_wp2
  all_goals go_ret
  all_goals exact ⟨ret_bool (by rw [Bool.eq_iff_iff]; simp [rgB]; omega), (G.refl _).alloc _⟩
theorem rend66 (c : Int) (w : World) : Calls Tryz.prog 66 #[.int .i64 c] w fun e w' => e = .returned (.bool (endB c)) ∧ w' = w := by
  go_enter Tryz.func66, Tryz.ntmps66
  go_wp2
  all_goals go_ret
  all_goals exact ⟨ret_bool (by rw [Bool.eq_iff_iff]; simp [endB]; omega), rfl⟩
/-- How many arguments a function of the runtime has; below 0: it is none. -/
def blN (l : List UInt8) : Int := match rtA l with
  | some n => n
  | none => -1
theorem rbuilt67 (s : ByteArray) (w : World) : Calls Tryz.prog 67 #[.string s] w fun e w' => e = .returned (.int .i64 (blN s.toList)) ∧ w' = w := by
  by_cases h0 : s.toList = [114, 116, 46, 114, 101, 97, 100]
  · have HV : blN s.toList = 0 := by rw [h0]; rfl
    rw [HV]
    clear HV
    obtain rfl := ba_of h0
    clear h0
    go_enter Tryz.func67, Tryz.ntmps67
    go_wp2
    go_ret
    exact ⟨rfl, rfl⟩
  by_cases h1 : s.toList = [114, 116, 46, 112, 114, 105, 110, 116]
  · have HV : blN s.toList = 1 := by rw [h1]; rfl
    rw [HV]
    clear HV
    obtain rfl := ba_of h1
    clear h1
    go_enter Tryz.func67, Tryz.ntmps67
    go_wp2
    go_ret
    exact ⟨rfl, rfl⟩
  by_cases h2 : s.toList = [114, 116, 46, 97, 108, 108, 111, 99]
  · have HV : blN s.toList = 1 := by rw [h2]; rfl
    rw [HV]
    clear HV
    obtain rfl := ba_of h2
    clear h2
    go_enter Tryz.func67, Tryz.ntmps67
    go_wp2
    go_ret
    exact ⟨rfl, rfl⟩
  by_cases h3 : s.toList = [114, 116, 46, 102, 114, 101, 101]
  · have HV : blN s.toList = 2 := by rw [h3]; rfl
    rw [HV]
    clear HV
    obtain rfl := ba_of h3
    clear h3
    go_enter Tryz.func67, Tryz.ntmps67
    go_wp2
    go_ret
    exact ⟨rfl, rfl⟩
  have HV : Hid (blN s.toList = -1) := by
    show _ = _
    unfold blN rtA
    rw [if_neg h0, if_neg h1, if_neg h2, if_neg h3]
  have q0 : (s.toList == [114, 116, 46, 114, 101, 97, 100]) = false := by simpa using h0
  have q1 : (s.toList == [114, 116, 46, 112, 114, 105, 110, 116]) = false := by simpa using h1
  have q2 : (s.toList == [114, 116, 46, 97, 108, 108, 111, 99]) = false := by simpa using h2
  have q3 : (s.toList == [114, 116, 46, 102, 114, 101, 101]) = false := by simpa using h3
  clear h0 h1 h2 h3
  generalize blN s.toList = R at *
  go_enter Tryz.func67, Tryz.ntmps67
  go_wp2
  go_ret
  exact ⟨ret_int HV.out.symm, rfl⟩
/-- Which fields an operation has. -/
def fmL (k : Int) : List UInt8 := if k = 1 then [68, 78] else if k = 2 then [68, 65] else if k = 3 then [68, 65, 66, 83] else if k = 4 then [68, 65, 78] else if k = 5 then [65, 66, 78] else if k = 6 then [68, 78] else if k = 7 then [100, 83, 82] else if k = 8 then [84] else if k = 9 then [65, 84, 69] else if k = 10 then [97] else if k = 11 then [78] else []
theorem rform92 (k : Int) (w : World) : Calls Tryz.prog 92 #[.int .i64 k] w fun e w' => e = .returned (.string ⟨(fmL k).toArray⟩) ∧ w' = w := by
  by_cases h : 1 ≤ k ∧ k ≤ 11
  · obtain rfl | rfl | rfl | rfl | rfl | rfl | rfl | rfl | rfl | rfl | rfl : k = 1 ∨ k = 2 ∨ k = 3 ∨ k = 4 ∨ k = 5 ∨ k = 6 ∨ k = 7 ∨ k = 8 ∨ k = 9 ∨ k = 10 ∨ k = 11 := by omega
    all_goals
      go_enter Tryz.func92, Tryz.ntmps92
      go_wp2
      go_ret
      exact ⟨rfl, rfl⟩
  · have HV : Hid (fmL k = []) := by
      show _ = _
      unfold fmL
      rw [if_neg (by omega), if_neg (by omega), if_neg (by omega), if_neg (by omega), if_neg (by omega), if_neg (by omega), if_neg (by omega), if_neg (by omega), if_neg (by omega), if_neg (by omega), if_neg (by omega)]
    have q1 : (k == 1) = false := by simp; omega
    have q2 : (k == 2) = false := by simp; omega
    have q3 : (k == 3) = false := by simp; omega
    have q4 : (k == 4) = false := by simp; omega
    have q5 : (k == 5) = false := by simp; omega
    have q6 : (k == 6) = false := by simp; omega
    have q7 : (k == 7) = false := by simp; omega
    have q8 : (k == 8) = false := by simp; omega
    have q9 : (k == 9) = false := by simp; omega
    have q10 : (k == 10) = false := by simp; omega
    have q11 : (k == 11) = false := by simp; omega
    clear h
    generalize fmL k = R at *
    go_enter Tryz.func92, Tryz.ntmps92
    go_wp2
    go_ret
    exact ⟨by rw [HV.out]; rfl, rfl⟩
end
end Go.Proofs.YtdppoblbenbafaaGreatDoor
