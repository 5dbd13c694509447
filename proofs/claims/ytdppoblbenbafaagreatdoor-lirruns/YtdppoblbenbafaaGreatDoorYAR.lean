/- One step: registers, jumps. A call comes back to another one, in whatever run. -/
import Derived.Test.YtdppoblbenbafaaGreatDoorYAQ
import Derived.Test.YtdppoblbenbafaaGreatDoorYAO
namespace Go.Proofs.YtdppoblbenbafaaGreatDoor
section
open Go.RowKit Go.Shelf
/-- A call that is at an instruction. -/
structure CalF (p : List Fun) (c : Cal) (f : Fun) (bl : Blk) (i : Ins) : Prop where
  hf : p[c.k]? = some f
  hb : f.bs[c.b]? = some bl
  hi : bl.l[c.j]? = some i
  ln : c.rg.length = f.h.rg.toNat
  rg : ∀ v ∈ c.rg, I64 v
/-- Where an instruction lies. -/
structure InsP (W0 W : World) (p : List Fun) (c : Cal) (f : Fun) (bl : Blk) (i : Ins) (g1 o1 bc g2 o2 ic : Nat) : Prop where
  bv : bvOf p c.k = .slice (some ⟨g1, o1, none⟩) f.bs.length bc
  y0 : W.cell? ⟨g1, o1 + c.b, none⟩ = some (.slice (some ⟨g2, o2, none⟩) bl.l.length ic)
  ce : ∀ (t : Nat) (v : Value), (inC i)[t]? = some v → W.cell? ⟨g2, o2 + c.j * 9 + t, none⟩ = some v
  lt : g2 < W0.heap.size
  ar : ArA W i.ar i.ac i.gs
  sz : i.nm.size ≤ maxLen
theorem ins_cells {W0 W : World} {p : List Fun} {pp : Option Addr} {pc : Nat} {c : Cal} {f : Fun} {bl : Blk} {i : Ins} (hI : FunA W0 pp pc p) (hb : Below W0.heap.size W0 W) (hc : CalF p c f bl i) : ∃ g1 o1 bc g2 o2 ic, InsP W0 W p c f bl i g1 o1 bc g2 o2 ic := by
  have hI' := hI.below hb
  obtain ⟨t1, t2, t3⟩ := hI'.2.2.1 f (List.mem_of_getElem? hc.hf)
  have hb0 : 0 < f.bs.length := by have := (List.getElem?_eq_some_iff.1 hc.hb).1; omega
  obtain ⟨g1, o1, e1, k1⟩ := t3.2.2.2 hb0
  have h1 := k1 c.b bl hc.hb
  have t4 := t3.2.2.1 bl (List.mem_of_getElem? hc.hb)
  have hl0 : 0 < bl.l.length := by have := (List.getElem?_eq_some_iff.1 hc.hi).1; omega
  obtain ⟨g2, o2, e2, k2⟩ := t4.2.2.2 hl0
  have t5 := t4.2.2.1 i (List.mem_of_getElem? hc.hi)
  -- in the first world
  obtain ⟨u1, u2, u3⟩ := hI.2.2.1 f (List.mem_of_getElem? hc.hf)
  have u4 := u3.2.2.1 bl (List.mem_of_getElem? hc.hb)
  obtain ⟨g2', o2', e2', k2'⟩ := u4.2.2.2 hl0
  rw [e2] at e2'
  cases e2'
  refine ⟨g1, o1, f.h.bc, g2, o2, bl.xc, ?_, by rw [← e2]; exact h1, k2 c.j i hc.hi, World.block_lt_of_cell? _ _ (k2' c.j i hc.hi 0 _ rfl), t5.1, t5.2⟩
  unfold bvOf
  rw [hc.hf]
  simp [e1, t1]
variable {p : List Fun} {pp : Option Addr} {pc : Nat} {W0 : World} {R m1 m2 : Nat} {r : Rs} {C ca P pa : Nat} {gp : List (Nat × Par)} {W : World} {s : St} {tq : Nat} {lq : List (Nat × Cal)}
/-- What a step at the innermost call reads of the run. -/
structure StpF (R C ca n tq : Nat) (c : Cal) (W : World) : Prop where
  h3 : W.cell? ⟨R, 3, none⟩ = some (.slice (some ⟨C, 0, none⟩) (n + 1) ca)
  c1 : W.cell? ⟨C, n * 7 + 1, none⟩ = some (.slice (some ⟨tq, 0, none⟩) c.rg.length c.rg.length)
  c2 : W.cell? ⟨C, n * 7 + 2, none⟩ = some (.int .i64 c.fr)
  c4 : W.cell? ⟨C, n * 7 + 4, none⟩ = some (.int .i64 ((c.b : Nat) : Int))
  c5 : W.cell? ⟨C, n * 7 + 5, none⟩ = some (.int .i64 ((c.j : Nat) : Int))
  z : ∀ i, W.frozen? ⟨C, i, none⟩ = false
  qz : ∀ i, W.frozen? ⟨tq, i, none⟩ = false
  qv : ∀ (k : Nat) (v : Int), c.rg[k]? = some v → W.cell? ⟨tq, k, none⟩ = some (.int .i64 v)
  nqC : tq ≠ C
  nRC : R ≠ C
theorem RelD.stpF (h : RelD p pp pc W0 R m1 m2 r C ca P pa ((tq, s.top) :: lq) gp W s) : StpF R C ca lq.length tq s.top W := by
  obtain ⟨c0, cs, hC⟩ := h.bC
  obtain ⟨q0, hQ⟩ := h.rg (tq, s.top) (by simp)
  have ce : ∀ t v, (calV p (tq, s.top))[t]? = some v → W.cell? ⟨C, lq.length * 7 + t, none⟩ = some v := fun t v ht => own_cell h.co h.cv (by rw [rowV_at]; exact ht)
  have r3 := h.rb.cell (j := 3) rfl
  refine ⟨?_, ce 1 _ rfl, ce 2 _ rfl, ce 4 _ rfl, ce 5 _ rfl, own_fz h.co h.cv, hQ.fz, fun k v hk => hQ.at hk, hQ.ne hC (by decide), h.rb.ne hC (by decide)⟩
  rw [r3, h.cv]
  rfl
theorem reg_at {p : List Fun} {c : Cal} {f : Fun} {bl : Blk} {i : Ins} (hc : CalF p c f bl i) {a : Int} (h : 0 ≤ a ∧ a < f.h.rg) : ∃ (n : Nat) (v : Int), a = (n : Int) ∧ c.rg[n]? = some v ∧ getR c a = v ∧ I64 v ∧ n < c.rg.length ∧ a.toNat = n := by
  have hn : a.toNat < c.rg.length := by rw [hc.ln]; omega
  refine ⟨a.toNat, c.rg[a.toNat], by omega, List.getElem?_eq_getElem hn, ?_, hc.rg _ (List.getElem_mem hn), hn, rfl⟩
  unfold getR
  rw [if_neg (by omega), List.getD_eq_getElem?_getD, List.getElem?_eq_getElem hn]
  rfl
theorem setR_nat (c : Cal) (d : Nat) (v : Int) : setR c (d : Int) v = { c with rg := c.rg.set d v } := by
  unfold setR
  rw [if_neg (by omega)]
  simp
/-- What a step leaves that goes on. -/
def GoD (p : List Fun) (pp : Option Addr) (pc : Nat) (W0 : World) (R m1 m2 : Nat) (W : World) (s : St) : Prop := ∃ r C ca P pa gl gp, RelD p pp pc W0 R m1 m2 r C ca P pa gl gp W s
/-- What a run leaves that has ended. -/
def EndD (W0 : World) (R : Nat) (W : World) (o : Oc) : Prop := ∃ r, Below W0.heap.size W0 W ∧ W0.heap.size ≤ R ∧ Rb W R r ∧ r.fin = o.en ∧ r.cd = o.cd ∧ r.st = o.st ∧ W.ownsRow W0.heap.size 5 1 r.ov o.out.length (Lib.byteCells o.out)
def OutD (p : List Fun) (pp : Option Addr) (pc : Nat) (W0 : World) (R m1 m2 : Nat) (W : World) : St ⊕ Oc → Prop
  | .inl s => GoD p pp pc W0 R m1 m2 W s
  | .inr o => EndD W0 R W o
theorem step_const (h : RelD p pp pc W0 R m1 m2 r C ca P pa ((tq, s.top) :: lq) gp W s) (hn : lq.length < 1000000) {f : Fun} {bl : Blk} {i : Ins} (hc : CalF p s.top f bl i) (hj : s.top.j < 1000000) (hF : InsF f.h i (fdF p i.nm)) {g1 o1 bc g2 o2 ic : Nat} (hP : InsP W0 W p s.top f bl i g1 o1 bc g2 o2 ic) (hop : i.op = 1) : Calls Tryz.prog 72 #[.pointer (some ⟨R, 0, none⟩), .pointer (some ⟨g2, o2 + s.top.j * 9, none⟩)] W fun e w' => e = .returned (.tuple #[]) ∧ OutD p pp pc W0 R m1 m2 w' (stpS p s i) := by
  have hs := h.stpF
  obtain ⟨c0, _⟩ := h.bC
  obtain ⟨d, u, e1, hu, _, _, hd, _⟩ := reg_at hc (hF.dd (by omega))
  have i0 := hP.ce 0 _ rfl
  have i1 := hP.ce 1 _ rfl
  have i4 := hP.ce 4 _ rfl
  rw [hop] at i0
  rw [e1] at i1
  refine (do_const22g R C ca lq.length tq s.top.rg.length s.top.rg.length g2 (o2 + s.top.j * 9) s.top.j d i.n u W hs.h3 hn hs.c1 hs.c5 (hs.z _) hj i0 i1 i4 hd (hs.qv d u hu) (hs.qz d) (by have := hP.lt; omega) hs.nqC hs.nRC).mono ?_
  rintro e w' ⟨rfl, k, rfl⟩
  refine ⟨rfl, ?_⟩
  unfold stpS
  rw [if_pos hop, e1, setR_nat]
  exact ⟨_, _, _, _, _, _, _, h.put d i.n k⟩
theorem step_move (h : RelD p pp pc W0 R m1 m2 r C ca P pa ((tq, s.top) :: lq) gp W s) (hn : lq.length < 1000000) {f : Fun} {bl : Blk} {i : Ins} (hc : CalF p s.top f bl i) (hj : s.top.j < 1000000) (hF : InsF f.h i (fdF p i.nm)) {g1 o1 bc g2 o2 ic : Nat} (hP : InsP W0 W p s.top f bl i g1 o1 bc g2 o2 ic) (hop : i.op = 2) : Calls Tryz.prog 72 #[.pointer (some ⟨R, 0, none⟩), .pointer (some ⟨g2, o2 + s.top.j * 9, none⟩)] W fun e w' => e = .returned (.tuple #[]) ∧ OutD p pp pc W0 R m1 m2 w' (stpS p s i) := by
  have hs := h.stpF
  obtain ⟨c0, _⟩ := h.bC
  obtain ⟨d, u, e1, hu, _, _, hd, _⟩ := reg_at hc (hF.dd (by omega))
  obtain ⟨a, v, e2, hv, ev, _, ha, _⟩ := reg_at hc (hF.aa (by omega))
  have i0 := hP.ce 0 _ rfl
  have i1 := hP.ce 1 _ rfl
  have i2 := hP.ce 2 _ rfl
  rw [hop] at i0
  rw [e1] at i1
  rw [e2] at i2
  refine (do_move22g R C ca lq.length tq s.top.rg.length s.top.rg.length g2 (o2 + s.top.j * 9) s.top.j d a v u W hs.h3 hn hs.c1 hs.c5 (hs.z _) hj i0 i1 i2 hd (hs.qv d u hu) (hs.qz d) ha (hs.qv a v hv) (by have := hP.lt; omega) hs.nqC hs.nRC).mono ?_
  rintro e w' ⟨rfl, k, rfl⟩
  refine ⟨rfl, ?_⟩
  unfold stpS
  rw [if_neg (by omega), if_pos hop, e1, setR_nat, show getR { s.top with j := s.top.j + 1 } i.a = v from ev]
  exact ⟨_, _, _, _, _, _, _, h.put d v k⟩
theorem step_bin (h : RelD p pp pc W0 R m1 m2 r C ca P pa ((tq, s.top) :: lq) gp W s) (hn : lq.length < 1000000) {f : Fun} {bl : Blk} {i : Ins} (hc : CalF p s.top f bl i) (hj : s.top.j < 1000000) (hF : InsF f.h i (fdF p i.nm)) {g1 o1 bc g2 o2 ic : Nat} (hP : InsP W0 W p s.top f bl i g1 o1 bc g2 o2 ic) (hop : i.op = 3) : Calls Tryz.prog 72 #[.pointer (some ⟨R, 0, none⟩), .pointer (some ⟨g2, o2 + s.top.j * 9, none⟩)] W fun e w' => e = .returned (.tuple #[]) ∧ OutD p pp pc W0 R m1 m2 w' (stpS p s i) := by
  have hs := h.stpF
  obtain ⟨c0, cs, hC⟩ := h.bC
  obtain ⟨d, u, e1, hu, _, _, hd, _⟩ := reg_at hc (hF.dd (by omega))
  obtain ⟨a, va, e2, hva, eva, ra, ha, _⟩ := reg_at hc (hF.aa (by omega))
  obtain ⟨b, vb, e3, hvb, evb, rb, hb, _⟩ := reg_at hc (hF.bb (by omega))
  have i0 := hP.ce 0 _ rfl
  have i1 := hP.ce 1 _ rfl
  have i2 := hP.ce 2 _ rfl
  have i3 := hP.ce 3 _ rfl
  have i5 := hP.ce 5 _ rfl
  have r2 := h.rb.cell (j := 2) rfl
  rw [h.om] at r2
  rw [hop] at i0
  rw [e1] at i1
  rw [e2] at i2
  rw [e3] at i3
  obtain ⟨fk, hB⟩ := bin_op i.nm (hF.nm hop) va vb ra
  refine (do_bin22g R C ca lq.length tq s.top.rg.length s.top.rg.length g2 (o2 + s.top.j * 9) s.top.j m2 d a b fk i.nm va vb (binV i.nm.data.toList va vb) u W hs.h3 hn hs.c1 hs.c5 (hs.z _) hj i0 r2 h.h2 (fun e => bk_nmap hC h.h2 e.symm) i1 i2 i3 i5 hd (hs.qv d u hu) (hs.qz d) ha (hs.qv a va hva) hb (hs.qv b vb hvb) hB.hf hB.cf hB.cl (by have := hP.lt; omega) hs.nqC hs.nRC).mono ?_
  rintro e w' ⟨rfl, k, rfl⟩
  refine ⟨rfl, ?_⟩
  unfold stpS
  rw [if_neg (by omega), if_neg (by omega), if_pos hop, e1, setR_nat, show getR { s.top with j := s.top.j + 1 } i.a = va from eva, show getR { s.top with j := s.top.j + 1 } i.b = vb from evb]
  exact ⟨_, _, _, _, _, _, _, h.put d (binV i.nm.data.toList va vb) k⟩
theorem step_frame (h : RelD p pp pc W0 R m1 m2 r C ca P pa ((tq, s.top) :: lq) gp W s) (hn : lq.length < 1000000) {f : Fun} {bl : Blk} {i : Ins} (hc : CalF p s.top f bl i) (hj : s.top.j < 1000000) (hF : InsF f.h i (fdF p i.nm)) {g1 o1 bc g2 o2 ic : Nat} (hP : InsP W0 W p s.top f bl i g1 o1 bc g2 o2 ic) (hop : i.op = 6) : Calls Tryz.prog 72 #[.pointer (some ⟨R, 0, none⟩), .pointer (some ⟨g2, o2 + s.top.j * 9, none⟩)] W fun e w' => e = .returned (.tuple #[]) ∧ OutD p pp pc W0 R m1 m2 w' (stpS p s i) := by
  have hs := h.stpF
  obtain ⟨c0, _⟩ := h.bC
  obtain ⟨d, u, e1, hu, _, _, hd, _⟩ := reg_at hc (hF.dd (by omega))
  have i0 := hP.ce 0 _ rfl
  have i1 := hP.ce 1 _ rfl
  have i4 := hP.ce 4 _ rfl
  rw [hop] at i0
  rw [e1] at i1
  refine (do_frame22g R C ca lq.length tq s.top.rg.length s.top.rg.length g2 (o2 + s.top.j * 9) s.top.j d s.top.fr i.n u W hs.h3 hn hs.c1 hs.c5 (hs.z _) hj i0 hs.c2 i1 i4 hd (hs.qv d u hu) (hs.qz d) (by have := hP.lt; omega) hs.nqC hs.nRC).mono ?_
  rintro e w' ⟨rfl, k, rfl⟩
  refine ⟨rfl, ?_⟩
  unfold stpS
  rw [if_neg (by omega), if_neg (by omega), if_neg (by omega), if_neg (by omega), if_neg (by omega), if_pos hop, e1, setR_nat]
  exact ⟨_, _, _, _, _, _, _, h.put d (wrap64 (s.top.fr + wrap64 (8 * i.n))) k⟩
theorem row_jmp (p : List Fun) (tq : Nat) (c : Cal) (lq : List (Nat × Cal)) (b' j' : Nat) : rowV p ((tq, { c with b := b', j := j' }) :: lq) = rowV p lq ++ ((calV p (tq, c)).set 4 (.int .i64 ((b' : Nat) : Int))).set 5 (.int .i64 ((j' : Nat) : Int)) := by
  rw [rowV]
  simp [calV]
theorem step_jump (h : RelD p pp pc W0 R m1 m2 r C ca P pa ((tq, s.top) :: lq) gp W s) (hn : lq.length < 1000000) {f : Fun} {bl : Blk} {i : Ins} (hj : s.top.j < 1000000) (hF : InsF f.h i (fdF p i.nm)) {g1 o1 bc g2 o2 ic : Nat} (hP : InsP W0 W p s.top f bl i g1 o1 bc g2 o2 ic) (hop : i.op = 8) : Calls Tryz.prog 72 #[.pointer (some ⟨R, 0, none⟩), .pointer (some ⟨g2, o2 + s.top.j * 9, none⟩)] W fun e w' => e = .returned (.tuple #[]) ∧ OutD p pp pc W0 R m1 m2 w' (stpS p s i) := by
  have hs := h.stpF
  obtain ⟨c0, _⟩ := h.bC
  have i0 := hP.ce 0 _ rfl
  have i7 := hP.ce 7 _ rfl
  rw [hop] at i0
  have e1 : i.to = ((i.to.toNat : Nat) : Int) := by have := hF.to (by omega); omega
  refine (do_jump22g R C ca lq.length tq s.top.rg.length s.top.rg.length g2 (o2 + s.top.j * 9) s.top.j s.top.b i.to W hs.h3 hn hs.c1 hs.c5 (hs.z _) hj i0 i7 hs.c4 (hs.z _) (by have := hP.lt; omega) hs.nqC hs.nRC).mono ?_
  rintro e w' ⟨rfl, k, rfl⟩
  refine ⟨rfl, ?_⟩
  unfold stpS
  rw [if_neg (by omega), if_neg (by omega), if_neg (by omega), if_neg (by omega), if_neg (by omega), if_neg (by omega), if_neg (by omega), if_pos hop]
  refine ⟨_, _, _, _, _, _, _, h.jmp i.to.toNat 0 ((((Onl.of_below (Below.refl _ _)).set (S := fun b => b = C) rfl).set rfl).set rfl |>.drewN k) ?_⟩
  have t := own_put (i := lq.length * 7 + 5) (u := .int .i64 0) (own_put (i := lq.length * 7 + 4) (u := .int .i64 i.to) (own_put (i := lq.length * 7 + 5) (u := .int .i64 ((s.top.j : Int) + 1)) h.co h.cv) h.cv) h.cv
  rw [rowV_set, ← rowV_len p, List.set_append_right _ _ (by omega), List.set_append_right _ _ (by omega)] at t
  rw [row_jmp]
  refine own_onl ?_ (onl_drew _ k (fun _ => False)) (fun _ _ h => h)
  simp only [Nat.add_sub_cancel_left] at t
  simp only [calV, List.set_cons_succ, List.set_cons_zero] at t ⊢
  rw [← e1]
  rw [rowV_len] at t
  exact t
theorem step_if (h : RelD p pp pc W0 R m1 m2 r C ca P pa ((tq, s.top) :: lq) gp W s) (hn : lq.length < 1000000) {f : Fun} {bl : Blk} {i : Ins} (hc : CalF p s.top f bl i) (hj : s.top.j < 1000000) (hF : InsF f.h i (fdF p i.nm)) {g1 o1 bc g2 o2 ic : Nat} (hP : InsP W0 W p s.top f bl i g1 o1 bc g2 o2 ic) (hop : i.op = 9) : Calls Tryz.prog 72 #[.pointer (some ⟨R, 0, none⟩), .pointer (some ⟨g2, o2 + s.top.j * 9, none⟩)] W fun e w' => e = .returned (.tuple #[]) ∧ OutD p pp pc W0 R m1 m2 w' (stpS p s i) := by
  have hs := h.stpF
  obtain ⟨c0, _⟩ := h.bC
  obtain ⟨a, v, e2, hv, ev, _, ha, _⟩ := reg_at hc (hF.aa (by omega))
  have i0 := hP.ce 0 _ rfl
  have i2 := hP.ce 2 _ rfl
  have i7 := hP.ce 7 _ rfl
  have i8 := hP.ce 8 _ rfl
  rw [hop] at i0
  rw [e2] at i2
  have et : i.to = ((i.to.toNat : Nat) : Int) := by have := hF.to (by omega); omega
  have ee : i.el = ((i.el.toNat : Nat) : Int) := by have := hF.el (by omega); omega
  have e0 : stpS p s i = .inl { s with top := { s.top with b := (if v = 0 then i.el else i.to).toNat, j := 0 } } := by
    unfold stpS
    rw [if_neg (by omega), if_neg (by omega), if_neg (by omega), if_neg (by omega), if_neg (by omega), if_neg (by omega), if_neg (by omega), if_neg (by omega), if_pos hop, show getR { s.top with j := s.top.j + 1 } i.a = v from ev]
  rw [e0]
  by_cases hv0 : v = 0
  · refine (do_no22g R C ca lq.length tq s.top.rg.length s.top.rg.length g2 (o2 + s.top.j * 9) s.top.j a s.top.b i.to i.el v W hs.h3 hn hs.c1 hs.c5 (hs.z _) hj i0 i2 i7 i8 hs.c4 (hs.z _) ha (hs.qv a v hv) hv0 (by have := hP.lt; omega) hs.nqC hs.nRC).mono ?_
    rintro e w' ⟨rfl, k, rfl⟩
    rw [if_pos hv0]
    refine ⟨rfl, _, _, _, _, _, _, _, h.jmp i.el.toNat 0 ((((Onl.of_below (Below.refl _ _)).set (S := fun b => b = C) rfl).set rfl).set rfl |>.drewN k) ?_⟩
    have t := own_put (i := lq.length * 7 + 5) (u := .int .i64 0) (own_put (i := lq.length * 7 + 4) (u := .int .i64 i.el) (own_put (i := lq.length * 7 + 5) (u := .int .i64 ((s.top.j : Int) + 1)) h.co h.cv) h.cv) h.cv
    rw [rowV_set, ← rowV_len p, List.set_append_right _ _ (by omega), List.set_append_right _ _ (by omega)] at t
    rw [row_jmp]
    refine own_onl ?_ (onl_drew _ k (fun _ => False)) (fun _ _ h => h)
    simp only [Nat.add_sub_cancel_left] at t
    simp only [calV, List.set_cons_succ, List.set_cons_zero] at t ⊢
    rw [← ee]
    rw [rowV_len] at t
    exact t
  · refine (do_yes22g R C ca lq.length tq s.top.rg.length s.top.rg.length g2 (o2 + s.top.j * 9) s.top.j a s.top.b i.to i.el v W hs.h3 hn hs.c1 hs.c5 (hs.z _) hj i0 i2 i7 i8 hs.c4 (hs.z _) ha (hs.qv a v hv) hv0 (by have := hP.lt; omega) hs.nqC hs.nRC).mono ?_
    rintro e w' ⟨rfl, k, rfl⟩
    rw [if_neg hv0]
    refine ⟨rfl, _, _, _, _, _, _, _, h.jmp i.to.toNat 0 (((((Onl.of_below (Below.refl _ _)).set (S := fun b => b = C) rfl).set rfl).set rfl).set rfl |>.drewN k) ?_⟩
    have t := own_put (i := lq.length * 7 + 4) (u := .int .i64 i.to) (own_put (i := lq.length * 7 + 5) (u := .int .i64 0) (own_put (i := lq.length * 7 + 4) (u := .int .i64 i.el) (own_put (i := lq.length * 7 + 5) (u := .int .i64 ((s.top.j : Int) + 1)) h.co h.cv) h.cv) h.cv) h.cv
    rw [rowV_set, ← rowV_len p, List.set_append_right _ _ (by omega), List.set_append_right _ _ (by omega), List.set_append_right _ _ (by omega)] at t
    rw [row_jmp]
    refine own_onl ?_ (onl_drew _ k (fun _ => False)) (fun _ _ h => h)
    simp only [Nat.add_sub_cancel_left] at t
    simp only [calV, List.set_cons_succ, List.set_cons_zero] at t ⊢
    rw [← et]
    rw [rowV_len] at t
    exact t
end
section
open Go.RowKit Go.Shelf
set_option maxRecDepth 20000
set_option maxHeartbeats 2000000
theorem nfacts (n ca : Nat) (h : n < 1000000) (hca : n + 1 ≤ ca) : IntKind.i64.wrap ((n : Int) + 1 - 1) = n ∧ IntKind.i64.wrap (n : Int) = n ∧ wrap64 (n : Int) = n ∧ (n : Int) ≤ ca := ⟨by rw [wrapI _ (by omega) (by omega)]; omega, wrapI _ (by omega) (by omega), by unfold wrap64; omega, by omega⟩
theorem nz {n k : Nat} (h : n = k + 1) : ((n : Int) == 0) = false := by simp only [beq_eq_false_iff_ne, ne_eq]; omega
/-- What a call that comes back to another leaves. -/
structure BkP (R P len q d : Nat) (v : Int) (r' : Rs) (l' : List Pt) (w w' : World) : Prop where
  out : ∃ w3, Onl (fun b => b = R ∨ b = P) w w3 ∧ Rb w3 R r' ∧ Prt w3 P l' len ∧ ∃ k, w' = (w3.drewN k).setCell ⟨q, d, none⟩ (.int .i64 v)
theorem back_let (R P pa len C ca n : Nat) (n' : Nat) (fr wd v ans b0 j0 : Int) (ba qa : Option Addr) (bl bc qn qc : Nat) (l : List Pt) (r : Rs) (w : World) (hR : Rb w R r) (hP : Prt w P l len) (hC : ∃ cs, Bk w C 138 cs) (hpv : r.pv = .slice (some ⟨P, 0, none⟩) l.length pa) (hcv : r.cv = .slice (some ⟨C, 0, none⟩) (n + 1) ca) (hpa : l.length ≤ pa) (e0 : 0 ≤ r.en) (e1 : r.en ≤ 900000) (hn : l.length ≤ 1000000) (hnn : n < 1000000) (hca : n + 1 ≤ ca) (c0 : w.cell? ⟨C, n * 7, none⟩ = some (.slice ba bl bc)) (c1 : w.cell? ⟨C, n * 7 + 1, none⟩ = some (.slice qa qn qc)) (c2 : w.cell? ⟨C, n * 7 + 2, none⟩ = some (.int .i64 fr)) (c3 : w.cell? ⟨C, n * 7 + 3, none⟩ = some (.int .i64 wd)) (c4 : w.cell? ⟨C, n * 7 + 4, none⟩ = some (.int .i64 b0)) (c5 : w.cell? ⟨C, n * 7 + 5, none⟩ = some (.int .i64 j0)) (c6 : w.cell? ⟨C, n * 7 + 6, none⟩ = some (.int .i64 ans)) (w0 : -9223372036854775808 ≤ wd) (w1' : wd ≤ 9223372036854775807) (hz : n = n' + 1) (ha : ans = -1) : Calls Tryz.prog 102 #[.pointer (some ⟨R, 0, none⟩), .int .i64 v] w fun e w' => e = .returned (.tuple #[]) ∧ Onl (fun b => b = R ∨ b = P) w w' ∧ Rb w' R { r with pv := .slice (some ⟨P, 0, none⟩) (enP l r.en 1 fr wd).2.1.length pa, en := (enP l r.en 1 fr wd).2.2, cv := .slice (some ⟨C, 0, none⟩) n ca } ∧ Prt w' P (enP l r.en 1 fr wd).2.1 len := by
  have hI : Hid (Calls Tryz.prog 98 #[.pointer (some ⟨R, 0, none⟩)] w fun e w' => e = .returned (.pointer (some ⟨C, n * 7, none⟩)) ∧ ∃ k, w' = w.drewN k) := innermost41g R C ca n w (hcv ▸ hR.cell (j := 3) rfl) hnn
  have HE : Hid (∀ W, Below w.heap.size w W → Calls Tryz.prog 137 #[.pointer (some ⟨R, 4, none⟩), .int .i64 1, .int .i64 fr, .int .i64 wd] W fun e w' => e = .returned (.bool (enP l r.en 1 fr wd).1) ∧ Onl (fun b => b = R ∨ b = P) W w' ∧ Rb w' R { r with pv := .slice (some ⟨P, 0, none⟩) (enP l r.en 1 fr wd).2.1.length pa, en := (enP l r.en 1 fr wd).2.2 } ∧ Prt w' P (enP l r.en 1 fr wd).2.1 len) := fun W hW => (end_any R P pa len 1 fr wd l r W (hR.below hW) (hP.below hW) hpv hpa e0 e1 hn).mono fun e w' hh => hh
  have HCB : Hid (∃ cs, Bk w C 138 cs ∧ C ≠ R ∧ C ≠ P) := by
    obtain ⟨cs, hc⟩ := hC
    obtain ⟨ps, hp, _⟩ := hP.out
    exact ⟨cs, hc, hc.ne hR (by decide), hc.ne hp (by decide)⟩
  have HV : Hid (r.cv = .slice (some ⟨C, 0, none⟩) (n + 1) ca) := hcv
  have ew : IntKind.i64.wrap wd = wd := wrapI _ w0 w1'
  obtain ⟨hn1, hn2, hn3, hnc⟩ := nfacts n ca hnn hca
  have hz' : ((n : Int) == 0) = false := nz hz
  have HZ0 : Hid (n = n' + 1) := hz
  have HZ1 : Hid (n < 1000000) := hnn
  clear hz
  have HAn : Hid (∀ W, Calls Tryz.prog 132 #[.pointer (some ⟨R, 0, none⟩), .int .i64 ans, .int .i64 v] W fun e w' => e = .returned (.tuple #[]) ∧ w' = W) := fun W => by subst ha; exact answer_none R v W
  clear ha
  generalize enP l r.en 1 fr wd = td at *
  have c0' := dcell c0
  have c1' := dcell c1
  have c2' := dcell c2
  have c3' := dcell c3
  have c4' := dcell c4
  have c5' := dcell c5
  have c6' := dcell c6
  have HRl : Hid (R < w.heap.size ∧ P < w.heap.size) := ⟨hR.lt, hP.lt⟩
  clear hC hR hP hpv hcv hpa e0 e1 hn hnn hca c0 c1 c2 c3 c4 c5 c6 w0 w1'
  go_enter Tryz.func102, Tryz.ntmps102
  go_wp2_with fail
  refine hI.out.mono ?_
  rintro e w1 ⟨rfl, n1, hw1⟩
  have HB1 : Hid (Below w.heap.size w w1) := by show Below _ _ _; rw [hw1]; exact below_drewN (Below.refl _ _) n1
  have k0 := c0' n1
  have k1 := c1' n1
  have k2 := c2' n1
  have k3 := c3' n1
  have k4 := c4' n1
  have k5 := c5' n1
  have k6 := c6' n1
  rw [← hw1] at k0 k1 k2 k3 k4 k5 k6
  clear hw1 c0' c1' c2' c3' c4' c5' c6'
  go_wp2
  go_region_with (first | (go_at_call 137; refine (HE.out _ (by first | exact (HB1.out.alloc HB1.out.size _).drew | exact (HB1.out.alloc HB1.out.size _))).mono ?_; rintro e w2 ⟨rfl, ho, hr, hp⟩; have HO : Hid (Onl (fun b => b = R ∨ b = P) w w2) := (Onl.of_below (by first | exact (HB1.out.alloc HB1.out.size _).drew | exact (HB1.out.alloc HB1.out.size _))).trans ho; have HX : Hid (Bk w2 w1.heap.size 138 [.slice ba bl bc, .slice qa qn qc, .int .i64 fr, .int .i64 wd, .int .i64 b0, .int .i64 j0, .int .i64 ans]) := (by have hs := HB1.out.size; have hl := HRl.out; first | exact Bk.onl (Bk.new w1 [.slice ba bl bc, .slice qa qn qc, .int .i64 fr, .int .i64 wd, .int .i64 b0, .int .i64 j0, .int .i64 ans] 138) ho (by omega) | exact Bk.onl (Bk.new w1 [.slice ba bl bc, .slice qa qn qc, .int .i64 fr, .int .i64 wd, .int .i64 b0, .int .i64 j0, .int .i64 ans] 138).drew ho (by omega)); have HR2 : Hid (Rb w2 R { r with pv := .slice (some ⟨P, 0, none⟩) td.2.1.length pa, en := td.2.2 }) := hr; have HP2 : Hid (Prt w2 P td.2.1 len) := hp; clear ho hr hp))
  all_goals (
    have r3 := HR2.out.cell (j := 3) (v := .slice (some ⟨C, 0, none⟩) (n + 1) ca) (by rw [← HV.out]; rfl)
    have z3 := HR2.out.fz 3
    go_wp2
    go_region
    have HR3 : Hid (Rb ((w2.setCell ⟨R, 3, none⟩ (.slice (some ⟨C, 0, none⟩) n ca)).drew) R { r with pv := .slice (some ⟨P, 0, none⟩) td.2.1.length pa, en := td.2.2, cv := .slice (some ⟨C, 0, none⟩) n ca }) := (HR2.out.set 3 _).drew
    have HO3 : Hid (Onl (fun b => b = R ∨ b = P) w ((w2.setCell ⟨R, 3, none⟩ (.slice (some ⟨C, 0, none⟩) n ca)).drew)) := (HO.out.set (S := fun b => b = R ∨ b = P) (b := R) (.inl rfl)).trans (Onl.of_below (Below.refl _ _).drew)
    have HP3 : Hid (Prt ((w2.setCell ⟨R, 3, none⟩ (.slice (some ⟨C, 0, none⟩) n ca)).drew) P td.2.1 len) := (HP2.out.keep ((grown_set w2 R 3 _).block P HP2.out.lt (fun e => (HP2.out.ne HR2.out) (by cases e; rfl)))).below (Below.refl _ _).drew
    have HX3 : Hid (Bk ((w2.setCell ⟨R, 3, none⟩ (.slice (some ⟨C, 0, none⟩) n ca)).drew) w1.heap.size 138 [.slice ba bl bc, .slice qa qn qc, .int .i64 fr, .int .i64 wd, .int .i64 b0, .int .i64 j0, .int .i64 ans]) := (HX.out.other (by have hs := HB1.out.size; have hl := HRl.out; omega)).drew
    clear r3 z3 HR2 HO HP2 HX
    generalize (w2.setCell ⟨R, 3, none⟩ (.slice (some ⟨C, 0, none⟩) n ca)).drew = w3 at *
    have r3 := HR3.out.cell (j := 3) rfl
    have x6 := HX3.out.cell (j := 6) rfl
    go_wp2_with (first | (go_at_call 132; refine (HAn.out _).mono ?_; rintro e w4 ⟨rfl, rfl⟩))
    go_returns
    exact ⟨rfl, HO3.out, HR3.out, HP3.out⟩)
theorem back_more (R P pa len C ca n : Nat) (n' q m rc d : Nat) (u : Int) (fr wd v ans b0 j0 : Int) (ba qa : Option Addr) (bl bc qn qc : Nat) (l : List Pt) (r : Rs) (w : World) (hR : Rb w R r) (hP : Prt w P l len) (hC : ∃ cs, Bk w C 138 cs) (hpv : r.pv = .slice (some ⟨P, 0, none⟩) l.length pa) (hcv : r.cv = .slice (some ⟨C, 0, none⟩) (n + 1) ca) (hpa : l.length ≤ pa) (e0 : 0 ≤ r.en) (e1 : r.en ≤ 900000) (hn : l.length ≤ 1000000) (hnn : n < 1000000) (hca : n + 1 ≤ ca) (c0 : w.cell? ⟨C, n * 7, none⟩ = some (.slice ba bl bc)) (c1 : w.cell? ⟨C, n * 7 + 1, none⟩ = some (.slice qa qn qc)) (c2 : w.cell? ⟨C, n * 7 + 2, none⟩ = some (.int .i64 fr)) (c3 : w.cell? ⟨C, n * 7 + 3, none⟩ = some (.int .i64 wd)) (c4 : w.cell? ⟨C, n * 7 + 4, none⟩ = some (.int .i64 b0)) (c5 : w.cell? ⟨C, n * 7 + 5, none⟩ = some (.int .i64 j0)) (c6 : w.cell? ⟨C, n * 7 + 6, none⟩ = some (.int .i64 ans)) (w0 : -9223372036854775808 ≤ wd) (w1' : wd ≤ 9223372036854775807) (hz : n = n' + 1) (ha : ans = (d : Int)) (hdm : d < m) (d1 : w.cell? ⟨C, n' * 7 + 1, none⟩ = some (.slice (some ⟨q, 0, none⟩) m rc)) (hq : ∃ qs, Bk w q 2 qs) (d2 : w.cell? ⟨q, d, none⟩ = some (.int .i64 u)) : Calls Tryz.prog 102 #[.pointer (some ⟨R, 0, none⟩), .int .i64 v] w fun e w' => e = .returned (.tuple #[]) ∧ BkP R P len q d v { r with pv := .slice (some ⟨P, 0, none⟩) (enP l r.en 1 fr wd).2.1.length pa, en := (enP l r.en 1 fr wd).2.2, cv := .slice (some ⟨C, 0, none⟩) n ca } (enP l r.en 1 fr wd).2.1 w w' := by
  have hI : Hid (Calls Tryz.prog 98 #[.pointer (some ⟨R, 0, none⟩)] w fun e w' => e = .returned (.pointer (some ⟨C, n * 7, none⟩)) ∧ ∃ k, w' = w.drewN k) := innermost41g R C ca n w (hcv ▸ hR.cell (j := 3) rfl) hnn
  have HE : Hid (∀ W, Below w.heap.size w W → Calls Tryz.prog 137 #[.pointer (some ⟨R, 4, none⟩), .int .i64 1, .int .i64 fr, .int .i64 wd] W fun e w' => e = .returned (.bool (enP l r.en 1 fr wd).1) ∧ Onl (fun b => b = R ∨ b = P) W w' ∧ Rb w' R { r with pv := .slice (some ⟨P, 0, none⟩) (enP l r.en 1 fr wd).2.1.length pa, en := (enP l r.en 1 fr wd).2.2 } ∧ Prt w' P (enP l r.en 1 fr wd).2.1 len) := fun W hW => (end_any R P pa len 1 fr wd l r W (hR.below hW) (hP.below hW) hpv hpa e0 e1 hn).mono fun e w' hh => hh
  have HCB : Hid (∃ cs, Bk w C 138 cs ∧ C ≠ R ∧ C ≠ P) := by
    obtain ⟨cs, hc⟩ := hC
    obtain ⟨ps, hp, _⟩ := hP.out
    exact ⟨cs, hc, hc.ne hR (by decide), hc.ne hp (by decide)⟩
  have HV : Hid (r.cv = .slice (some ⟨C, 0, none⟩) (n + 1) ca) := hcv
  have ew : IntKind.i64.wrap wd = wd := wrapI _ w0 w1'
  obtain ⟨hn1, hn2, hn3, hnc⟩ := nfacts n ca hnn hca
  have hz' : ((n : Int) == 0) = false := nz hz
  have HZ0 : Hid (n = n' + 1) := hz
  have HZ1 : Hid (n < 1000000) := hnn
  clear hz
  have HAe : Hid (ans = (d : Int)) := ha
  clear ha
  have HDD : Hid (w.cell? ⟨C, n' * 7 + 1, none⟩ = some (.slice (some ⟨q, 0, none⟩) m rc) ∧ w.cell? ⟨q, d, none⟩ = some (.int .i64 u) ∧ w.frozen? ⟨q, d, none⟩ = false ∧ q < w.heap.size ∧ ¬ (q = R ∨ q = P)) := by
    obtain ⟨qs, hq⟩ := hq
    obtain ⟨ps, hp, _⟩ := hP.out
    exact ⟨d1, d2, hq.fz d, hq.lt, fun e => e.elim (hq.ne hR (by decide)) (hq.ne hp (by decide))⟩
  clear d1 d2 hq
  generalize enP l r.en 1 fr wd = td at *
  have c0' := dcell c0
  have c1' := dcell c1
  have c2' := dcell c2
  have c3' := dcell c3
  have c4' := dcell c4
  have c5' := dcell c5
  have c6' := dcell c6
  have HRl : Hid (R < w.heap.size ∧ P < w.heap.size) := ⟨hR.lt, hP.lt⟩
  clear hC hR hP hpv hcv hpa e0 e1 hn hnn hca c0 c1 c2 c3 c4 c5 c6 w0 w1'
  go_enter Tryz.func102, Tryz.ntmps102
  go_wp2_with fail
  refine hI.out.mono ?_
  rintro e w1 ⟨rfl, n1, hw1⟩
  have HB1 : Hid (Below w.heap.size w w1) := by show Below _ _ _; rw [hw1]; exact below_drewN (Below.refl _ _) n1
  have k0 := c0' n1
  have k1 := c1' n1
  have k2 := c2' n1
  have k3 := c3' n1
  have k4 := c4' n1
  have k5 := c5' n1
  have k6 := c6' n1
  rw [← hw1] at k0 k1 k2 k3 k4 k5 k6
  clear hw1 c0' c1' c2' c3' c4' c5' c6'
  go_wp2
  go_region_with (first | (go_at_call 137; refine (HE.out _ (by first | exact (HB1.out.alloc HB1.out.size _).drew | exact (HB1.out.alloc HB1.out.size _))).mono ?_; rintro e w2 ⟨rfl, ho, hr, hp⟩; have HO : Hid (Onl (fun b => b = R ∨ b = P) w w2) := (Onl.of_below (by first | exact (HB1.out.alloc HB1.out.size _).drew | exact (HB1.out.alloc HB1.out.size _))).trans ho; have HX : Hid (Bk w2 w1.heap.size 138 [.slice ba bl bc, .slice qa qn qc, .int .i64 fr, .int .i64 wd, .int .i64 b0, .int .i64 j0, .int .i64 ans]) := (by have hs := HB1.out.size; have hl := HRl.out; first | exact Bk.onl (Bk.new w1 [.slice ba bl bc, .slice qa qn qc, .int .i64 fr, .int .i64 wd, .int .i64 b0, .int .i64 j0, .int .i64 ans] 138) ho (by omega) | exact Bk.onl (Bk.new w1 [.slice ba bl bc, .slice qa qn qc, .int .i64 fr, .int .i64 wd, .int .i64 b0, .int .i64 j0, .int .i64 ans] 138).drew ho (by omega)); have HR2 : Hid (Rb w2 R { r with pv := .slice (some ⟨P, 0, none⟩) td.2.1.length pa, en := td.2.2 }) := hr; have HP2 : Hid (Prt w2 P td.2.1 len) := hp; clear ho hr hp))
  all_goals (
    have r3 := HR2.out.cell (j := 3) (v := .slice (some ⟨C, 0, none⟩) (n + 1) ca) (by rw [← HV.out]; rfl)
    have z3 := HR2.out.fz 3
    go_wp2
    go_region
    have HR3 : Hid (Rb ((w2.setCell ⟨R, 3, none⟩ (.slice (some ⟨C, 0, none⟩) n ca)).drew) R { r with pv := .slice (some ⟨P, 0, none⟩) td.2.1.length pa, en := td.2.2, cv := .slice (some ⟨C, 0, none⟩) n ca }) := (HR2.out.set 3 _).drew
    have HO3 : Hid (Onl (fun b => b = R ∨ b = P) w ((w2.setCell ⟨R, 3, none⟩ (.slice (some ⟨C, 0, none⟩) n ca)).drew)) := (HO.out.set (S := fun b => b = R ∨ b = P) (b := R) (.inl rfl)).trans (Onl.of_below (Below.refl _ _).drew)
    have HP3 : Hid (Prt ((w2.setCell ⟨R, 3, none⟩ (.slice (some ⟨C, 0, none⟩) n ca)).drew) P td.2.1 len) := (HP2.out.keep ((grown_set w2 R 3 _).block P HP2.out.lt (fun e => (HP2.out.ne HR2.out) (by cases e; rfl)))).below (Below.refl _ _).drew
    have HX3 : Hid (Bk ((w2.setCell ⟨R, 3, none⟩ (.slice (some ⟨C, 0, none⟩) n ca)).drew) w1.heap.size 138 [.slice ba bl bc, .slice qa qn qc, .int .i64 fr, .int .i64 wd, .int .i64 b0, .int .i64 j0, .int .i64 ans]) := (HX.out.other (by have hs := HB1.out.size; have hl := HRl.out; omega)).drew
    clear r3 z3 HR2 HO HP2 HX
    generalize (w2.setCell ⟨R, 3, none⟩ (.slice (some ⟨C, 0, none⟩) n ca)).drew = w3 at *
    have r3 := HR3.out.cell (j := 3) rfl
    have x6 := HX3.out.cell (j := 6) rfl
    have hcl := HCB.out
    obtain ⟨cs, hc, hcR, hcP⟩ := hcl
    have d1' : w3.cell? ⟨C, n' * 7 + 1, none⟩ = some (.slice (some ⟨q, 0, none⟩) m rc) := by rw [World.cell?_of_block (HO3.out.block C hc.lt (by omega))]; exact HDD.out.1
    have d2' : w3.cell? ⟨q, d, none⟩ = some (.int .i64 u) := by rw [World.cell?_of_block (HO3.out.block q HDD.out.2.2.2.1 HDD.out.2.2.2.2)]; exact HDD.out.2.1
    have d3' : w3.frozen? ⟨q, d, none⟩ = false := by rw [World.frozen?_of_block (HO3.out.block q HDD.out.2.2.2.1 HDD.out.2.2.2.2)]; exact HDD.out.2.2.1
    have HAn : Hid (Calls Tryz.prog 132 #[.pointer (some ⟨R, 0, none⟩), .int .i64 ans, .int .i64 v] w3 fun e w' => e = .returned (.tuple #[]) ∧ ∃ k, w' = (w3.drewN k).setCell ⟨q, d, none⟩ (.int .i64 v)) := by rw [HAe.out]; exact answer53g R C ca n' q m rc d v u w3 (by rw [← HZ0.out]; exact r3) (by have := HZ0.out; have := HZ1.out; omega) d1' hdm d2' d3'
    clear d1' d2' d3' hc
    go_wp2_with (first | (go_at_call 132; refine HAn.out.mono ?_; rintro e w4 ⟨rfl, k4, rfl⟩))
    go_returns
    exact ⟨rfl, ⟨⟨w3, HO3.out, HR3.out, HP3.out, k4, rfl⟩⟩⟩)
end
end Go.Proofs.YtdppoblbenbafaaGreatDoor
