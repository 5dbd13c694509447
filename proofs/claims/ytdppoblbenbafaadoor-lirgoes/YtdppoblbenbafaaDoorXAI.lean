/- Ended parts are let go. A run of whatever program: what it has in memory. A frame begins. A part of memory begins. A part of memory begins, in whatever run. The first part that has ended. -/
import Derived.Test.YtdppoblbenbafaaDoorXAH
namespace Go.Proofs.YtdppoblbenbafaaDoor
section
open Go.RowKit Go.Shelf
/-- All blocks stay but those of S. -/
structure Onl (S : Nat → Prop) (w W : World) : Prop where
  os : W.os = w.os
  tape : W.tape = w.tape
  output : W.output = w.output
  size : w.heap.size ≤ W.heap.size
  block : ∀ k, k < w.heap.size → ¬ S k → W.heap[k]? = w.heap[k]?
theorem Onl.of_below {S : Nat → Prop} {w W : World} (h : Below w.heap.size w W) : Onl S w W := ⟨h.os, h.tape, h.output, h.size, fun k hk _ => h.block k hk⟩
theorem Onl.trans {S : Nat → Prop} {w W W' : World} (h : Onl S w W) (k : Onl S W W') : Onl S w W' := ⟨k.os.trans h.os, k.tape.trans h.tape, k.output.trans h.output, Nat.le_trans h.size k.size, fun i hi hx => (k.block i (Nat.lt_of_lt_of_le hi h.size) hx).trans (h.block i hi hx)⟩
theorem Onl.mono {S T : Nat → Prop} {w W : World} (h : Onl S w W) (k : ∀ i, S i → T i) : Onl T w W := ⟨h.os, h.tape, h.output, h.size, fun i hi hx => h.block i hi (fun s => hx (k i s))⟩
theorem Onl.set {S : Nat → Prop} {w W : World} (h : Onl S w W) {b o : Nat} {v : Value} (hb : S b) : Onl S w (W.setCell ⟨b, o, none⟩ v) :=
  h.trans (by have hg := grown_set W b o v; exact ⟨hg.os, hg.tape, hg.output, hg.size, fun k hk hx => hg.block k hk (fun e => hx (by cases e; exact hb))⟩)
theorem Onl.alloc {S : Nat → Prop} {w W : World} (h : Onl S w W) (o : Obj) : Onl S w (W.alloc o) := h.trans (Onl.of_below ((Below.refl _ W).alloc (Nat.le_refl _) o))
theorem Onl.drewN {S : Nat → Prop} {w W : World} (h : Onl S w W) (n : Nat) : Onl S w (W.drewN n) := h.trans (Onl.of_below (below_drewN (Below.refl _ _) n))
theorem Cl.onl {S : Nat → Prop} {W W' : World} {b : Nat} {f : List Value} (h : Cl W b f) (o : Onl S W W') (hs : ¬ S b) : Cl W' b f := h.keep (o.block b h.lt hs)
theorem Onl.below {S : Nat → Prop} {B : Nat} {w W W' : World} (hB : B ≤ w.heap.size) (h : Below B w W) (o : Onl S W W') (hs : ∀ b, S b → B ≤ b) : Below B w W' :=
  ⟨o.os.trans h.os, o.tape.trans h.tape, o.output.trans h.output, Nat.le_trans h.size o.size, fun i hi => (o.block i (Nat.lt_of_lt_of_le (Nat.lt_of_lt_of_le hi hB) h.size) (fun s => by have := hs i s; omega)).trans (h.block i hi)⟩
theorem Cl.drewN {W : World} {b : Nat} {f : List Value} (h : Cl W b f) (n : Nat) : Cl (W.drewN n) b f := h.below (below_drewN (Below.refl _ _) n)
set_option maxHeartbeats 1000000 in
theorem ended72 (a : Int) (w : World) : Calls Tryd.prog 75 #[.agg #[.int .i64 0, .int .i64 a, .slice none 0 0]] w fun e w' => e = .returned (.bool true) ∧ Below w.heap.size w w' := by
  go_enter Tryd.func75, Tryd.ntmps75
  go_wp2
  go_ret
  exact ⟨rfl, (Below.refl _ _).alloc (Nat.le_refl _) _⟩
set_option maxHeartbeats 2000000 in
theorem index76 (P pa : Nat) (a : Int) (w : World) (h : Cl w P [.int .i64 0, .int .i64 a, .slice none 0 0]) : Calls Tryd.prog 79 #[.slice (some ⟨P, 0, none⟩) 1 pa, .func (.func 75) #[] #[]] w fun e w' => e = .returned (.int .i64 0) ∧ Below w.heap.size w w' := by
  have c0 := h.cell (j := 0) rfl
  have c1 := h.cell (j := 1) rfl
  have c2 := h.cell (j := 2) rfl
  clear h
  go_enter Tryd.func79, Tryd.ntmps79
  go_wp2
  refine wp_loop_rounds 1 ?_
  rw [rounds_succ]
  go_wp2_with (first | (go_at_call 75; refine (ended72 _ _).mono ?_; rintro e w1 ⟨rfl, hb⟩))
  go_ret
  exact ⟨rfl, hb⟩
theorem clear61 (P pa : Nat) (w : World) (c0 : w.cell? ⟨P, 0, none⟩ = some (.int .i64 0)) (a : Int) (c1 : w.cell? ⟨P, 1, none⟩ = some (.int .i64 a)) (c2 : w.cell? ⟨P, 2, none⟩ = some (.slice none 0 0)) (z0 : w.frozen? ⟨P, 0, none⟩ = false) (z1 : w.frozen? ⟨P, 1, none⟩ = false) (z2 : w.frozen? ⟨P, 2, none⟩ = false) : (Builtin.clear_ #[56] 0 #[.slice (some ⟨P, 0, none⟩) 1 pa]).run Tryd.prog w = .ok (.tuple #[]) (((w.setCell ⟨P, 0, none⟩ (.int .i64 0)).setCell ⟨P, 1, none⟩ (.int .i64 0)).setCell ⟨P, 2, none⟩ (.slice none 0 0)) := by
  unfold Builtin.clear_
  have hz : (zeroValue 96).run Tryd.prog w = .ok (.agg #[.int .i64 0, .int .i64 0, .slice none 0 0]) w := by kernel_rfl
  have e : (Builtin.zeroCells #[.int .i64 0, .int .i64 0, .slice none 0 0] 1).toList = [.int .i64 0, .int .i64 0, .slice none 0 0] := by kernel_rfl
  have hst := run_storeCells_cells (P := Tryd.prog) P 0 [.int .i64 0, .int .i64 0, .slice none 0 0] 0 w (by intro j hj; rcases (by simp at hj; omega : j = 0 ∨ j = 1 ∨ j = 2) with rfl | rfl | rfl <;> simp [c0, c1, c2]) (by intro j hj; rcases (by simp at hj; omega : j = 0 ∨ j = 1 ∨ j = 2) with rfl | rfl | rfl <;> simp [z0, z1, z2]) (by intro v hv; simp at hv; rcases hv with rfl | rfl <;> rfl)
  simp [Sem.run_bind, run_underlying Tryd.underlying56, hz, Value.cells, e]
  rw [hst]
  rfl
set_option maxRecDepth 20000 in
set_option maxHeartbeats 2000000 in
theorem delete71 (P pa : Nat) (a : Int) (w : World) (h : Cl w P [.int .i64 0, .int .i64 a, .slice none 0 0]) : Calls Tryd.prog 74 #[.slice (some ⟨P, 0, none⟩) 1 pa, .func (.func 75) #[] #[]] w fun e w' => e = .returned (.slice (some ⟨P, 0, none⟩) 0 pa) ∧ Onl (fun b => b = P) w w' := by
  have hI : Hid (Calls Tryd.prog 79 #[.slice (some ⟨P, 0, none⟩) 1 pa, .func (.func 75) #[] #[]] w fun e w' => e = .returned (.int .i64 0) ∧ Below w.heap.size w w') := index76 P pa a w h
  have HC : Hid (Cl w P [.int .i64 0, .int .i64 a, .slice none 0 0]) := h
  clear h
  go_enter Tryd.func74, Tryd.ntmps74
  go_wp2_with fail
  refine hI.out.mono ?_
  rintro e w1 ⟨rfl, hb⟩
  have HC1 := HC.out.below hb
  have c0 := HC1.cell (j := 0) rfl
  have c1 := HC1.cell (j := 1) rfl
  have c2 := HC1.cell (j := 2) rfl
  have z0 := HC1.fz 0
  have z1 := HC1.fz 1
  have z2 := HC1.fz 2
  have HB : Hid (Below w.heap.size w w1) := hb
  clear hb HC1
  have hk := clear61 P pa w1 c0 a c1 c2 z0 z1 z2
  go_wp2
  refine wp_loop_rounds 1 ?_
  rw [rounds_succ]
  go_wp2
  go_ret
  exact ⟨rfl, (((Onl.of_below (S := fun b => b = P) HB.out).set (b := P) rfl).set (b := P) rfl).set (b := P) rfl⟩
set_option maxRecDepth 20000 in
set_option maxHeartbeats 2000000 in
theorem tidy62 (R P pa : Nat) (a : Int) (f : List Value) (w : World) (hP : Cl w P [.int .i64 0, .int .i64 a, .slice none 0 0]) (hR : Cl w R f) (hf : f.length = 13) (h4 : f[4]? = some (.slice (some ⟨P, 0, none⟩) 1 pa)) (h5 : f[5]? = some (.int .i64 1)) (hne : R ≠ P) : Calls Tryd.prog 65 #[.pointer (some ⟨R, 4, none⟩)] w fun e w' => e = .returned (.tuple #[]) ∧ Onl (fun b => b = R ∨ b = P) w w' ∧ Cl w' R ((f.set 4 (.slice (some ⟨P, 0, none⟩) 0 pa)).set 5 (.int .i64 0)) := by
  have HP : Hid (∀ n, Cl (w.drewN n) P [.int .i64 0, .int .i64 a, .slice none 0 0]) := fun n => hP.drewN n
  have HR : Hid (∀ n, Cl (w.drewN n) R f) := fun n => hR.drewN n
  have c4 := dcell (hR.cell h4)
  have c5 := dcell (hR.cell h5)
  have HF : Hid (f.length = 13) := hf
  have H4 : Hid (f[4]? = some (.slice (some ⟨P, 0, none⟩) 1 pa)) := h4
  have H5 : Hid (f[5]? = some (.int .i64 1)) := h5
  have HN : Hid (R ≠ P) := hne
  clear hP hR h4 h5 hf hne
  go_enter Tryd.func65, Tryd.ntmps65
  go_wp2
  go_quiet (fail)
  go_wp2_with fail
  refine (delete71 P pa a _ (HP.out nq)).mono ?_
  rintro e w1 ⟨rfl, ho⟩
  have HO : Hid (Onl (fun b => b = P) (w.drewN nq) w1) := ho
  have hR1 := (HR.out nq).onl ho (fun e => HN.out e)
  have HR1 : Hid (Cl w1 R f) := hR1
  have z4 := hR1.fz 4
  have z5 := hR1.fz 5
  have k4 := hR1.cell H4.out
  have k5 := hR1.cell H5.out
  clear ho hR1
  go_wp2
  go_returns
  refine ⟨rfl, ?_, ?_⟩
  · exact ((((Onl.of_below (below_drewN (Below.refl _ _) nq)).trans (HO.out.mono fun b e => .inr e)).set (.inl rfl)).set (.inl rfl))
  · exact (HR1.out.set (by have := HF.out; omega) _).set (by have := HF.out; simp; omega) _
end
section
open Go.RowKit Go.Shelf
/-- Block b is of type t, has just these cells, and none is frozen. -/
def Bk (W : World) (b : Nat) (t : TypeId) (cs : List Value) : Prop := W.heap[b]? = some (Obj.cells cs.toArray t (0, 0))
theorem Bk.cl {W : World} {b : Nat} {t : TypeId} {cs : List Value} (h : Bk W b t cs) : Cl W b cs := ⟨_, t, h, fun j v hj => by simpa using hj⟩
theorem Bk.lt {W : World} {b : Nat} {t : TypeId} {cs : List Value} (h : Bk W b t cs) : b < W.heap.size := h.cl.lt
theorem Bk.cell {W : World} {b : Nat} {t : TypeId} {cs : List Value} (h : Bk W b t cs) {j : Nat} {v : Value} (hj : cs[j]? = some v) : W.cell? ⟨b, j, none⟩ = some v := h.cl.cell hj
theorem Bk.fz {W : World} {b : Nat} {t : TypeId} {cs : List Value} (h : Bk W b t cs) (j : Nat) : W.frozen? ⟨b, j, none⟩ = false := h.cl.fz j
theorem Bk.keep {W W' : World} {b : Nat} {t : TypeId} {cs : List Value} (h : Bk W b t cs) (e : W'.heap[b]? = W.heap[b]?) : Bk W' b t cs := e.trans h
theorem Bk.below {W W' : World} {b : Nat} {t : TypeId} {cs : List Value} (h : Bk W b t cs) (hb : Below W.heap.size W W') : Bk W' b t cs := h.keep (hb.block b h.lt)
theorem Bk.drewN {W : World} {b : Nat} {t : TypeId} {cs : List Value} (h : Bk W b t cs) (n : Nat) : Bk (W.drewN n) b t cs := h.below (below_drewN (Below.refl _ _) n)
theorem Bk.drew {W : World} {b : Nat} {t : TypeId} {cs : List Value} (h : Bk W b t cs) : Bk W.drew b t cs := h.below (Below.refl _ _).drew
theorem Bk.alloc {W : World} {b : Nat} {t : TypeId} {cs : List Value} (h : Bk W b t cs) (o : Obj) : Bk (W.alloc o) b t cs := h.below ((Below.refl _ _).alloc (Nat.le_refl _) o)
theorem Bk.new (W : World) (cs : List Value) (t : TypeId) : Bk (W.alloc (.cells cs.toArray t)) W.heap.size t cs := (Go.MapKept.heap_alloc W _).1
theorem Bk.onl {S : Nat → Prop} {W W' : World} {b : Nat} {t : TypeId} {cs : List Value} (h : Bk W b t cs) (o : Onl S W W') (hs : ¬ S b) : Bk W' b t cs := h.keep (o.block b h.lt hs)
theorem Bk.set {W : World} {b : Nat} {t : TypeId} {cs : List Value} (h : Bk W b t cs) (o : Nat) (v : Value) : Bk (W.setCell ⟨b, o, none⟩ v) b t (cs.set o v) := by
  unfold Bk at *
  rw [cells_set o v h]
  simp
theorem Bk.other {W : World} {b g o : Nat} {t : TypeId} {cs : List Value} {v : Value} (h : Bk W b t cs) (hn : b ≠ g) : Bk (W.setCell ⟨g, o, none⟩ v) b t cs := h.keep ((grown_set W g o v).block b h.lt (fun e => hn (by cases e; rfl)))
theorem Bk.ne {W : World} {b b' : Nat} {t t' : TypeId} {cs cs' : List Value} (h : Bk W b t cs) (h' : Bk W b' t' cs') (ht : t ≠ t') : b ≠ b' := by
  intro e
  subst e
  unfold Bk at *
  rw [h] at h'
  cases h'
  exact ht rfl
/-- What a run has. -/
structure Rs where
  pg : Value
  fm : Value
  om : Value
  cv : Value
  pv : Value
  en : Int
  nx : Int
  hp : Int
  iv : Value
  fin : Int
  cd : Int
  ov : Value
  st : Int
def rsC (r : Rs) : List Value := [r.pg, r.fm, r.om, r.cv, r.pv, .int .i64 r.en, .int .i64 r.nx, .int .i64 r.hp, r.iv, .int .i64 r.fin, .int .i64 r.cd, r.ov, .int .i64 r.st]
def Rb (W : World) (R : Nat) (r : Rs) : Prop := Bk W R 60 (rsC r)
theorem wrapI (z : Int) (h0 : -9223372036854775808 ≤ z) (h1 : z ≤ 9223372036854775807) : IntKind.i64.wrap z = z := by
  rw [IntKind.wrap_i64]
  omega
end
section
open Go.RowKit Go.Shelf
theorem make0 (w : World) : (Instr.makeSlice 78 (.int .i64 0) (.int .i64 0)).run Tryd.prog w = .ok (.slice (some ⟨w.heap.size, 0, none⟩) 0 0) (w.alloc (.cells #[] 2)) := by kernel_rfl
theorem info92 : (Tryd.prog.info? 96).map (fun i => (i.zero, i.size, i.bytes)) = some (some (.agg #[.int .i64 0, .int .i64 0, .slice none 0 0]), 3, 40) := by kernel_rfl
theorem info92' : ∃ i, Tryd.prog.info? 96 = some i ∧ i.zero = some (.agg #[.int .i64 0, .int .i64 0, .slice none 0 0]) ∧ i.size = 3 ∧ i.bytes = 40 := by
  have h := info92
  cases hi : Tryd.prog.info? 96 with
  | none => rw [hi] at h; cases h
  | some i => rw [hi] at h; simp at h; exact ⟨i, rfl, h⟩
theorem nb2 (V : World) (o1 o2 : Obj) : ((V.alloc o1).alloc o2).heap[V.heap.size + 1]? = some o2 := by
  have h := (Go.MapKept.heap_alloc (V.alloc o1) o2).1
  rw [show (V.alloc o1).heap.size = V.heap.size + 1 by simp] at h
  exact h
set_option maxRecDepth 20000 in
set_option maxHeartbeats 2000000 in
theorem begin39 (R : Nat) (f : List Value) (w : World) (hR : Cl w R f) (hf : f.length = 13) (h4 : f[4]? = some (.slice none 0 0)) (h6 : f[6]? = some (.int .i64 65536)) : Calls Tryd.prog 40 #[.pointer (some ⟨R, 4, none⟩), .int .i64 1, .int .i64 0] w fun e w' => e = .returned (.int .i64 65536) ∧ ∃ P pa wa wc, Onl (fun b => b = R) w w' ∧ Cl w' R ((f.set 6 (.int .i64 65544)).set 4 (.slice (some ⟨P, 0, none⟩) 1 pa)) ∧ Cl w' P [.int .i64 1, .int .i64 65536, .slice wa 0 wc] ∧ w.heap.size ≤ P := by
  have HR : Hid (Cl (w.setCell ⟨R, 6, none⟩ (.int .i64 65544)) R (f.set 6 (.int .i64 65544))) := hR.set (by omega) _
  have r4 := hR.cell h4
  have r6 := hR.cell h6
  have z4 := hR.fz 4
  have z6 := hR.fz 6
  have HO : Hid (Onl (fun b => b = R) w (w.setCell ⟨R, 6, none⟩ (.int .i64 65544))) := (Onl.of_below (Below.refl _ _)).set (S := fun b => b = R) (b := R) rfl
  have HF : Hid (f.length = 13) := hf
  have H4 : Hid (f[4]? = some (.slice none 0 0)) := h4
  have hlt := hR.lt
  have mk := make0
  obtain ⟨i9, AN⟩ := info92'
  have AN : Hid (Tryd.prog.info? 96 = some i9 ∧ i9.zero = some (.agg #[.int .i64 0, .int .i64 0, .slice none 0 0]) ∧ i9.size = 3 ∧ i9.bytes = 40) := AN
  clear hR hf h4 h6
  go_enter Tryd.func40, Tryd.ntmps40
  go_wp2
  have v4 := HR.out.cell (j := 4) (v := .slice none 0 0) (by rw [List.getElem?_set_ne (by omega)]; exact H4.out)
  have y4 := HR.out.fz 4
  have vlt := HR.out.lt
  have vs : (w.setCell ⟨R, 6, none⟩ (.int .i64 65544)).heap.size = w.heap.size := by simp
  have HVS : Hid ((w.setCell ⟨R, 6, none⟩ (.int .i64 65544)).heap.size = w.heap.size) := vs
  clear r4 r6 z4 z6 vs hlt
  generalize w.setCell ⟨R, 6, none⟩ (.int .i64 65544) = V at *
  go_region_law
    (first | (refine step_append_lies _ rfl (.tmp 26) (.tmp 32) 56 rfl V.heap.size 96 i9 (.agg #[.int .i64 0, .int .i64 0, .slice none 0 0]) 3 40 Tryd.underlying56 AN.out.1 AN.out.2.1 AN.out.2.2.1 AN.out.2.2.2 rfl (by decide) (.slice none 0 0) 0 [] rfl (World.ownsRow_nil _ _ _ _) ⟨V.heap.size + 1, 0, none⟩ 1 1 [.int .i64 1, .int .i64 65536, .slice (some ⟨V.heap.size, 0, none⟩) 0 0] rfl rfl (World.news_of_block (cs := #[.int .i64 1, .int .i64 65536, .slice (some ⟨V.heap.size, 0, none⟩) 0 0]) (t := 96) (fr := (0, 0)) (by first | exact nb2 V _ _ | exact nb2 V.drew _ _)) (by intro u hu; simp at hu; rcases hu with rfl | rfl | rfl <;> rfl) (by decide) (by unfold maxLen; omega) (by omega) (by simp; omega) _ rfl ?_; intro g cap w3 hown hgrow hat hl3; have HB3 : Hid (Below V.heap.size V w3) := below_grown (Nat.le_refl _) (by first | exact ((Below.refl _ V).alloc (Nat.le_refl _) _).alloc (by simp) _ | exact (((Below.refl _ V).drew).alloc (Nat.le_refl _) _).alloc (by simp) _) hgrow (fun k e => by cases e); have HG : Hid (Cl w3 g [.int .i64 1, .int .i64 65536, .slice (some ⟨V.heap.size, 0, none⟩) 0 0] ∧ V.heap.size ≤ g) := Cl.own hown; have u4 := (HR.out.below HB3.out).cell (j := 4) (v := .slice none 0 0) (by rw [List.getElem?_set_ne (by omega)]; exact H4.out); have x4 := (HR.out.below HB3.out).fz 4; clear hown hgrow hat))
  all_goals (
    go_wp2
    go_ret
    refine ⟨rfl, g, cap, some ⟨V.heap.size, 0, none⟩, 0, ?_, ?_, ?_, ?_⟩
    · exact ((HO.out.trans (Onl.of_below HB3.out)).set (S := fun b => b = R) (b := R) rfl)
    · exact ((HR.out.below HB3.out).set (by have := HF.out; simp; omega) _)
    · exact (HG.out.1.other (fun e => by have := HG.out.2; omega))
    · have := HG.out.2; have := HVS.out; omega)
end
section
open Go.RowKit Go.Shelf
theorem info2 : (Tryd.prog.info? 2).map (fun i => (i.zero, i.size, i.bytes)) = some (some (.int .i64 0), 1, 8) := by kernel_rfl
theorem info2' : ∃ i, Tryd.prog.info? 2 = some i ∧ i.zero = some (.int .i64 0) ∧ i.size = 1 ∧ i.bytes = 8 := by
  have h := info2
  cases hi : Tryd.prog.info? 2 with
  | none => rw [hi] at h; cases h
  | some i => rw [hi] at h; simp at h; exact ⟨i, rfl, h⟩
theorem made_one (v : Value) (n : Nat) (h : v.cells = #[v]) : madeCells v.cells n = (List.replicate n v).toArray := by
  apply Array.ext
  · simp [madeCells]
  · intro i h1 h2
    simp [madeCells, h, Nat.mod_one]
theorem mkI (n : Nat) (W : World) (h : n ≤ 4096) : (Instr.makeSlice 78 (.int .i64 n) (.int .i64 n)).run Tryd.prog W = .ok (.slice (some ⟨W.heap.size, 0, none⟩) n n) (W.alloc (.cells (List.replicate n (.int .i64 0)).toArray 2)) := by
  obtain ⟨i, h1, h2, h3, h4⟩ := info2'
  have := run_makeSlice (P := Tryd.prog) W 78 2 i (.int .i64 0) Tryd.underlying78 h1 h2 .i64 .i64 n n (by omega) (by omega) (by rw [h3]; simp; omega) (by rw [h4]; omega) (by omega)
  rw [this, made_one _ _ rfl, h3]
  simp
end
section
open Go.RowKit Go.Shelf
theorem own_block {W : World} {base : Nat} {e : TypeId} {size : Nat} {v : Value} {n : Nat} {xs : List Value} (h : W.ownsRow base e size v n xs) {g : Nat} (hg : v.ownBlock = some g) : base ≤ g ∧ ∃ cur : List Value, Bk W g e cur := by
  obtain ⟨_, ⟨h2, _⟩ | ⟨g', cap, cur, e1, e2, e3, _⟩⟩ := h
  · rw [h2] at hg; cases hg
  · rw [e1] at hg
    cases hg
    exact ⟨e2, cur.toList, by unfold Bk; simpa using e3⟩
theorem own_ne {W : World} {base : Nat} {e t : TypeId} {size : Nat} {v : Value} {n b : Nat} {xs cs : List Value} (h : W.ownsRow base e size v n xs) (hb : Bk W b t cs) (ht : t ≠ e) : v.ownBlock ≠ some b := fun hg => by
  obtain ⟨_, cur, hc⟩ := own_block h hg
  exact hb.ne hc ht rfl
theorem own_keep {W W' : World} {base : Nat} {e : TypeId} {size : Nat} {v : Value} {n : Nat} {xs : List Value} (h : W.ownsRow base e size v n xs) (hk : ∀ g, v.ownBlock = some g → W'.heap[g]? = W.heap[g]?) : W'.ownsRow base e size v n xs := by
  refine ⟨h.1, h.2.imp id ?_⟩
  rintro ⟨g, cap, cur, e1, e2, e3, r⟩
  exact ⟨g, cap, cur, e1, e2, (hk g (by rw [e1]; rfl)).trans e3, r⟩
theorem own_lt {W : World} {base : Nat} {e : TypeId} {size : Nat} {v : Value} {n : Nat} {xs : List Value} (h : W.ownsRow base e size v n xs) {g : Nat} (hg : v.ownBlock = some g) : g < W.heap.size := by
  obtain ⟨_, cur, hc⟩ := own_block h hg
  exact hc.lt
theorem own_onl {S : Nat → Prop} {W W' : World} {base : Nat} {e : TypeId} {size : Nat} {v : Value} {n : Nat} {xs : List Value} (h : W.ownsRow base e size v n xs) (o : Onl S W W') (hs : ∀ g, v.ownBlock = some g → ¬ S g) : W'.ownsRow base e size v n xs := own_keep h fun g hg => o.block g (own_lt h hg) (hs g hg)
theorem own_set {W : World} {base : Nat} {e : TypeId} {size : Nat} {v : Value} {n b o : Nat} {xs : List Value} {u : Value} (h : W.ownsRow base e size v n xs) (hn : v.ownBlock ≠ some b) : (W.setCell ⟨b, o, none⟩ u).ownsRow base e size v n xs := own_keep h fun g hg => (grown_set W b o u).block g (own_lt h hg) (fun e => hn (by cases e; exact hg))
theorem own_low {W : World} {b1 b2 : Nat} {e : TypeId} {size : Nat} {v : Value} {n : Nat} {xs : List Value} (h : W.ownsRow b1 e size v n xs) (hb : b2 ≤ b1) : W.ownsRow b2 e size v n xs := ⟨h.1, h.2.imp id fun ⟨g, cap, cur, e1, e2, r⟩ => ⟨g, cap, cur, e1, Nat.le_trans hb e2, r⟩⟩
theorem onl_grown {W W' : World} {r : Option Nat} (g : W.grownBy W' r) : Onl (fun b => r = some b) W W' := ⟨g.os, g.tape, g.output, g.size, fun k hk hx => g.block k hk (fun e => hx e.symm)⟩
theorem grown_bk {W W' : World} {row : Option Nat} (hg : W.grownBy W' row) {b : Nat} {t : TypeId} {cs : List Value} (hb : Bk W b t cs) (hn : some b ≠ row) : Bk W' b t cs := hb.keep (hg.block b hb.lt hn)
set_option maxRecDepth 20000 in
set_option maxHeartbeats 2000000 in
theorem begin40g (R B np cnt : Nat) (kind : Int) (r : Rs) (px : List Value) (w : World) (hR : Rb w R r) (hP : w.ownsRow B 96 3 r.pv np px) (hB : B ≤ w.heap.size) (hc : cnt ≤ 4096) (hnp : np ≤ 1000000) (n0 : 0 ≤ r.nx) (n1 : r.nx ≤ 1099511627776) : Calls Tryd.prog 40 #[.pointer (some ⟨R, 4, none⟩), .int .i64 kind, .int .i64 cnt] w fun e w' => e = .returned (.int .i64 r.nx) ∧ ∃ g pv, Onl (fun b => b = R ∨ r.pv.ownBlock = some b) w w' ∧ Rb w' R { r with pv := pv, nx := r.nx + 8 * ((cnt : Int) + 1) } ∧ w'.ownsRow B 96 3 pv (np + 1) (px ++ [.int .i64 kind, .int .i64 r.nx, .slice (some ⟨g, 0, none⟩) cnt cnt]) ∧ Bk w' g 2 (List.replicate cnt (.int .i64 0)) ∧ w.heap.size ≤ g := by
  have hRP : r.pv.ownBlock ≠ some R := own_ne hP hR (by decide)
  have HR : Hid (Rb (w.setCell ⟨R, 6, none⟩ (.int .i64 (r.nx + 8 * ((cnt : Int) + 1)))) R { r with nx := r.nx + 8 * ((cnt : Int) + 1) }) := hR.set 6 _
  have HP : Hid ((w.setCell ⟨R, 6, none⟩ (.int .i64 (r.nx + 8 * ((cnt : Int) + 1)))).ownsRow B 96 3 r.pv np px) := own_set hP hRP
  have r4 := hR.cell (j := 4) rfl
  have r6 := hR.cell (j := 6) rfl
  have z4 := hR.fz 4
  have z6 := hR.fz 6
  have HO : Hid (Onl (fun b => b = R ∨ r.pv.ownBlock = some b) w (w.setCell ⟨R, 6, none⟩ (.int .i64 (r.nx + 8 * ((cnt : Int) + 1))))) := (Onl.of_below (Below.refl _ _)).set (S := fun b => b = R ∨ r.pv.ownBlock = some b) (b := R) (.inl rfl)
  have hlt := hR.lt
  have mk : ∀ W, (Instr.makeSlice 78 (.int .i64 cnt) (.int .i64 cnt)).run Tryd.prog W = .ok (.slice (some ⟨W.heap.size, 0, none⟩) cnt cnt) (W.alloc (.cells (List.replicate cnt (.int .i64 0)).toArray 2)) := fun W => mkI cnt W hc
  have w1 : IntKind.i64.wrap ((cnt : Int) + 1) = (cnt : Int) + 1 := wrapI _ (by omega) (by omega)
  have w2 : IntKind.i64.wrap (8 * ((cnt : Int) + 1)) = 8 * ((cnt : Int) + 1) := wrapI _ (by omega) (by omega)
  have w3 : IntKind.i64.wrap (r.nx + 8 * ((cnt : Int) + 1)) = r.nx + 8 * ((cnt : Int) + 1) := wrapI _ (by omega) (by omega)
  have HH : Hid (np ≤ 1000000 ∧ B ≤ w.heap.size ∧ r.pv.ownBlock ≠ some R) := ⟨hnp, hB, hRP⟩
  obtain ⟨i9, AN⟩ := info92'
  have AN : Hid (Tryd.prog.info? 96 = some i9 ∧ i9.zero = some (.agg #[.int .i64 0, .int .i64 0, .slice none 0 0]) ∧ i9.size = 3 ∧ i9.bytes = 40) := AN
  clear hR hP hB hnp hRP n0 n1 hc
  go_enter Tryd.func40, Tryd.ntmps40
  go_wp2
  have v4 := HR.out.cell (j := 4) (v := r.pv) rfl
  have y4 := HR.out.fz 4
  have vlt := HR.out.lt
  have HVS : Hid ((w.setCell ⟨R, 6, none⟩ (.int .i64 (r.nx + 8 * ((cnt : Int) + 1)))).heap.size = w.heap.size) := by show _ = _; simp
  clear r4 r6 z4 z6 hlt
  generalize w.setCell ⟨R, 6, none⟩ (.int .i64 (r.nx + 8 * ((cnt : Int) + 1))) = V at *
  go_region_law
    (first | (refine step_append_lies _ rfl (.tmp 26) (.tmp 32) 56 rfl B 96 i9 (.agg #[.int .i64 0, .int .i64 0, .slice none 0 0]) 3 40 Tryd.underlying56 AN.out.1 AN.out.2.1 AN.out.2.2.1 AN.out.2.2.2 rfl (by decide) r.pv np px rfl (by first | exact own_keep HP.out (fun g hg => ((Below.refl V.heap.size V).alloc (Nat.le_refl _) _ |>.alloc (by simp) _).block g (own_lt HP.out hg)) | exact own_keep HP.out (fun g hg => ((Below.refl V.heap.size V).drew.alloc (Nat.le_refl _) _ |>.alloc (by simp) _).block g (own_lt HP.out hg))) ⟨V.heap.size + 1, 0, none⟩ 1 1 [.int .i64 kind, .int .i64 r.nx, .slice (some ⟨V.heap.size, 0, none⟩) cnt cnt] rfl rfl (World.news_of_block (cs := #[.int .i64 kind, .int .i64 r.nx, .slice (some ⟨V.heap.size, 0, none⟩) cnt cnt]) (t := 96) (fr := (0, 0)) (by first | exact nb2 V _ _ | exact nb2 V.drew _ _)) (by intro u hu; simp at hu; rcases hu with rfl | rfl | rfl <;> rfl) (by decide) (by unfold maxLen; have := HH.out.1; omega) (by have := HH.out.1; omega) (by have := HH.out.2.1; have := HVS.out; simp; omega) _ rfl ?_; intro g cap w3 hown hgrow hat hl3; have HZ : Hid (Onl (fun b => r.pv.ownBlock = some b) V w3 ∧ w3.ownsRow B 96 3 (.slice (some ⟨g, 0, none⟩) (np + 1) cap) (np + 1) (px ++ [.int .i64 kind, .int .i64 r.nx, .slice (some ⟨V.heap.size, 0, none⟩) cnt cnt]) ∧ Bk w3 V.heap.size 2 (List.replicate cnt (.int .i64 0)) ∧ g ≠ R) := (by refine ⟨?_, hown, ?_, ?_⟩; (first | exact (((Onl.of_below (Below.refl _ V)).alloc _).alloc _).trans (onl_grown hgrow) | exact (((Onl.of_below (Below.refl _ V).drew).alloc _).alloc _).trans (onl_grown hgrow)); (first | exact grown_bk hgrow ((Bk.new V (List.replicate cnt (.int .i64 0)) 2).alloc _) (fun e => absurd (own_lt HP.out e.symm) (Nat.lt_irrefl _)) | exact grown_bk hgrow ((Bk.new V.drew (List.replicate cnt (.int .i64 0)) 2).alloc _) (fun e => absurd (own_lt HP.out e.symm) (Nat.lt_irrefl _))); (intro e; subst e; rcases hat with h | h; exact HH.out.2.2 h; (simp at h; omega))); have u4 := (HR.out.onl HZ.out.1 HH.out.2.2).cell (j := 4) (v := r.pv) rfl; have x4 := (HR.out.onl HZ.out.1 HH.out.2.2).fz 4; clear hown hgrow hat))
  all_goals (
    go_wp2
    go_ret
    obtain ⟨z1, z2, z3, z4⟩ := HZ.out
    refine ⟨rfl, V.heap.size, .slice (some ⟨g, 0, none⟩) (np + 1) cap, (HO.out.trans (z1.mono fun b h => .inr h)).set (S := fun b => b = R ∨ r.pv.ownBlock = some b) (b := R) (.inl rfl), (HR.out.onl z1 HH.out.2.2).set 4 (.slice (some ⟨g, 0, none⟩) (np + 1) cap), own_set z2 (fun e => z4 (by cases e; rfl)), z3.other (fun e => by have := HR.out.lt; omega), by have := HVS.out; omega⟩)
end
section
open Go.RowKit Go.Shelf
/-- A part. -/
structure Pt where
  kd : Int
  at_ : Int
  wa : Option Addr
  wn : Nat
  wc : Nat
def ptC (p : Pt) : List Value := [.int .i64 p.kd, .int .i64 p.at_, .slice p.wa p.wn p.wc]
/-- Parts, as they lie from a place on. -/
def PtA (W : World) (P : Nat) (l : List Pt) : Prop := ∀ (k : Nat) (p : Pt), l[k]? = some p → W.cell? ⟨P, k * 3, none⟩ = some (.int .i64 p.kd) ∧ W.cell? ⟨P, k * 3 + 1, none⟩ = some (.int .i64 p.at_) ∧ W.cell? ⟨P, k * 3 + 2, none⟩ = some (.slice p.wa p.wn p.wc)
theorem PtA.below {W W' : World} {P : Nat} {l : List Pt} (h : PtA W P l) (hb : Below W.heap.size W W') : PtA W' P l := fun k p hk => by
  obtain ⟨a, b, c⟩ := h k p hk
  have hl := World.block_lt_of_cell? _ _ a
  exact ⟨by rw [hb.cell (p := ⟨P, k * 3, none⟩) hl]; exact a, by rw [hb.cell (p := ⟨P, k * 3 + 1, none⟩) hl]; exact b, by rw [hb.cell (p := ⟨P, k * 3 + 2, none⟩) hl]; exact c⟩
set_option maxHeartbeats 1000000 in
theorem ended75g (p : Pt) (w : World) : Calls Tryd.prog 75 #[.agg #[.int .i64 p.kd, .int .i64 p.at_, .slice p.wa p.wn p.wc]] w fun e w' => e = .returned (.bool (decide (p.kd = 0))) ∧ G w w' := by
  go_enter Tryd.func75, Tryd.ntmps75
  go_wp2
  go_ret
  exact ⟨ret_bool (by rw [Bool.eq_iff_iff]; simp), (G.refl _).alloc _⟩
/-- The place of the first that has ended; -1: none has. -/
def fiE : List Pt → Nat → Int
  | [], _ => -1
  | p :: l, k => if p.kd = 0 then (k : Int) else fiE l (k + 1)
theorem fiE_at {l : List Pt} {k : Nat} {p : Pt} (h : l[k]? = some p) (s : Nat) : fiE (l.drop k) (s + k) = if p.kd = 0 then ((s + k : Nat) : Int) else fiE (l.drop (k + 1)) (s + (k + 1)) := by
  obtain ⟨hk, e⟩ := List.getElem?_eq_some_iff.1 h
  rw [List.drop_eq_getElem_cons hk, e]
  rfl
set_option maxHeartbeats 2000000 in
theorem index79g (P pa : Nat) (l : List Pt) (w : World) (hA : PtA w P l) (hn : l.length ≤ 1000000) : Calls Tryd.prog 79 #[.slice (some ⟨P, 0, none⟩) l.length pa, .func (.func 75) #[] #[]] w fun e w' => e = .returned (.int .i64 (fiE l 0)) ∧ G w w' := by
  have HA : Hid (PtA w P l) := hA
  obtain ⟨n, hnn⟩ : ∃ n, n = l.length := ⟨_, rfl⟩
  have HN : Hid (n = l.length) := hnn
  rw [← hnn] at hn ⊢
  clear hA hnn
  have HE0 : Hid (fiE l 0 = fiE (l.drop 0) 0) := rfl
  generalize fiE l 0 = R at *
  go_enter Tryd.func79, Tryd.ntmps79
  go_wp2
  go_loopw [8] (fun i wx => ∃ j : Nat, j ≤ n ∧ i = .int .i64 j ∧ G w wx ∧ R = fiE (l.drop j) (0 + j)) (fun i _ => n - (intOf i).toNat)
  case atStart => exact ⟨0, Nat.zero_le _, rfl, G.refl _, HE0.out⟩
  case round =>
    obtain ⟨j, hj, rfl, hG, hRu⟩ := hrel
    have HG : Hid (G w wr) := hG
    have HRu : Hid (R = fiE (l.drop j) (0 + j)) := hRu
    clear hG hRu HE0
    by_cases hlt : j < n
    · obtain ⟨p, hp⟩ : ∃ p, l[j]? = some p := ⟨_, List.getElem?_eq_getElem (by have := HN.out; omega)⟩
      have HU := fiE_at hp 0
      obtain ⟨c0, c1, c2⟩ := (HA.out.below HG.out.below) j p hp
      have hlt' : (j : Int) < n := by omega
      have HC := ended75g p wr
      clear hp
      by_cases hk : p.kd = 0
      · have HE : Hid ((j : Int) = R) := by show _ = _; rw [HRu.out, HU, if_pos hk]; simp
        have hd : decide (p.kd = 0) = true := by simpa using hk
        rw [hd] at HC
        clear HU hk hd
        go_wp2_with (first | (go_at_call 75; refine HC.mono ?_; rintro e w1 ⟨rfl, hg⟩))
        go_ret
        exact ⟨ret_int HE.out, HG.out.trans hg⟩
      · have HE : Hid (R = fiE (l.drop (j + 1)) (0 + (j + 1))) := by show _ = _; rw [HRu.out, HU, if_neg hk]
        have hd : decide (p.kd = 0) = false := by simpa using hk
        rw [hd] at HC
        clear HU hk hd
        go_wp2_with (first | (go_at_call 75; refine HC.mono ?_; rintro e w1 ⟨rfl, hg⟩))
        go_round
        case rel => exact ⟨j + 1, by omega, by go_num, HG.out.trans hg, HE.out⟩
        case measure => simp [intOf]; omega
    · obtain rfl : n = j := by omega
      have HE : Hid (-1 = R) := by show _ = _; rw [HRu.out, List.drop_eq_nil_of_le (by have := HN.out; omega)]; rfl
      go_wp2
      go_ret
      exact ⟨ret_int HE.out, HG.out⟩
end
end Go.Proofs.YtdppoblbenbafaaDoor
