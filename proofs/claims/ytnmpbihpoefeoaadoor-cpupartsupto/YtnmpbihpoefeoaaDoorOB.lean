/- The law, where two machines are made. The law: running for n steps, and then for m, is running for n and m. -/
import Derived.Test.YtnmpbihpoefeoaaDoorOA
namespace Go.Proofs.YtnmpbihpoefeoaaDoor
section
open Go.RowKit Go.Shelf
/-- A machine, where its blocks lie, and what its memory was made of. -/
structure Mk2 (lo : Nat) (N : Nat → Prop) (X : World) (m mem r : Nat) (ps : List Pgd) (bt : Nat → Nat → Int) (s : Sx) (ov iv : Value) (base : Nat) (xs : List Value) (ni : Nat) (Yi : Nat → Int) (len : Nat) (k p : Nat → Int) (Y : Nat → Nat → Int) : Prop where
  bd : Bd N X m mem r ps bt s ov iv base xs ni Yi
  fr : ∃ W0 b0, bt = btOf W0 ∧ Fr W0 mem r len k p Y b0 ps
  m : lo ≤ m
  mem : lo ≤ mem
  r : lo ≤ r
  g : ∀ x ∈ ps, lo ≤ x.g
  ov : ∀ g, ov.ownBlock = some g → lo ≤ g
  iv : ∀ g, iv.ownBlock = some g → lo ≤ g
theorem Made.mk2 {w W' : World} {s : Sx} {n0 ni : Nat} {Y0 Yi : Nat → Int} {len : Nat} {k p : Nat → Int} {Y : Nat → Nat → Int} {m mem r : Nat} {ps : List Pgd} {ov iv : Value} (H : Made w s n0 ni Y0 Yi len k p Y m mem r ps ov iv W') (hY : ∀ i j, 0 ≤ Y i j ∧ Y i j < 256) (hYi : ∀ j, 0 ≤ Yi j ∧ Yi j < 256) (hT : Tab w) (hk : Okx s) (hni : (ni : Int) ≤ 9223372036854775807) : Below w.heap.size w W' ∧ ∃ bt base, Mk2 w.heap.size (fun i => i < w.heap.size) W' m mem r ps bt s ov iv base (rowOf Y0 n0) ni Yi len k p Y := by
  obtain ⟨bt, base, ⟨W0, e, hF⟩, hB, hb, h1, h2, h3, h4, h5, h6⟩ := H.bd hY hYi hT hk hni
  exact ⟨hb, bt, base, ⟨hB, ⟨W0, _, e, hF⟩, h1, h2, h3, h4, h5, h6⟩⟩
/-- All blocks of a machine lie in the heap. -/
theorem Bd.lts {N : Nat → Prop} {W : World} {m mem r : Nat} {ps : List Pgd} {bt : Nat → Nat → Int} {s : Sx} {ov iv : Value} {base : Nat} {xs : List Value} {L : Nat} {ib : Nat → Int} (H : Bd N W m mem r ps bt s ov iv base xs L ib) : m < W.heap.size ∧ mem < W.heap.size ∧ r < W.heap.size ∧ (∀ x ∈ ps, x.g < W.heap.size) ∧ (∀ g, ov.ownBlock = some g → g < W.heap.size) ∧ (∀ g, iv.ownBlock = some g → g < W.heap.size) :=
  ⟨H.mch.lt, lt_of_cell H.mo.mm.cell, lt_of_some H.mo.mm.map, fun _ hx => (H.mo.ne hx).2.2, fun g hg => by obtain ⟨cur, hc⟩ := owns_lt H.own hg; exact lt_of_some hc, fun g hg => (H.ap2 g hg).1⟩
/-- The act by a name: what follows is then small. -/
theorem wpAny_gen {P : Program} {md : Region.Mode} {ops : Array Oper} {Q : Exit → Act → World → Prop} {f : Nat} {l : Array Bool} {a : Act} {w : World} (h : ∀ A, A = a → wpAny P md ops Q f l A w) : wpAny P md ops Q f l a w := h a rfl
/-- A load of a wide row, as one step of a region that draws. -/
theorem step_load_mid {P : Program} {ops : Array Oper} {op : Oper} {a : Act} {w : World} {K : Act → World → Prop} {Q : Exit → Act → World → Prop} {E : Prop} (hg : Region.wanted op (yielded ops a.tmps) = true) (ty : TypeId) (x : Operand) (ho : op.op = .load ty x)
    (b o : Nat) (hx : a.eval x = .pointer (some ⟨b, o, none⟩)) (cs : List Value) (d : TypeDesc) (hc : w.rangeAt b o cs)
    (hu : P.underlying ty = some d) (hd : d.isRow = true) (hi : (P.info? ty).map (·.size) = some cs.length)
    (h : K (a.put op.dst (.agg cs.toArray)) w) : if Region.wanted op (yielded ops a.tmps) = true then Oper.wp P op a w K Q else E := by
  rw [if_pos hg]
  exact wp_load_mid ty x ho b o hx cs d hc hu hd hi h
/-- What the runs of two machines, made of the same, come to. -/
theorem runs_agree {s : Sx} {psa psb : List Pgd} {xs : List Value} {ni nN mN len : Nat} {Yi : Nat → Int} {k p : Nat → Int} {Y : Nat → Nat → Int} {Wa Wb : World} {ba ra b0 bb rb b1 : Nat} (fa : Fr Wa ba ra len k p Y b0 psa) (fb : Fr Wb bb rb len k p Y b1 psb) (hY : ∀ i j, 0 ≤ Y i j ∧ Y i j < 256) (hYi : ∀ j, 0 ≤ Yi j ∧ Yi j < 256) (hni : (ni : Int) ≤ 9223372036854775807) (hk : Okx s) (hx0 : s.x 0 = 0) (hxs : AllB xs) {q1 q2 q3 : Rn} (e1 : runP psa ni Yi nN (mes nN ⟨s, btOf Wa, xs, 0⟩) ⟨s, btOf Wa, xs, 0⟩ = q1) (e2 : runP psa ni Yi mN (mes mN (rst q1)) (rst q1) = q2) (e3 : runP psb ni Yi (nN + mN) (mes (nN + mN) ⟨s, btOf Wb, xs, 0⟩) ⟨s, btOf Wb, xs, 0⟩ = q3) :
    q3.s = q2.s ∧ q3.xs = q2.xs ∧ q3.c = q2.c + q1.c ∧ Same2 psa psb q2.bt q3.bt ∧ q1.c ≤ nN ∧ q2.c ≤ mN ∧ q1.xs.length ≤ xs.length + nN ∧ q2.xs.length ≤ xs.length + nN + mN ∧ q2.s.x 0 = 0 ∧ AllB q2.xs := by
  have M : Mem2 psa psb := ⟨fa.alike fb, fa.apart', fb.apart'⟩
  have A : Alk psa psb ⟨s, btOf Wa, xs, 0⟩ ⟨s, btOf Wb, xs, 0⟩ := ⟨rfl, rfl, rfl, fun q hq => fa.byts fb hY q hq, hk, fun g j => btOf_small Wa g j, fun g j => btOf_small Wb g j⟩
  have R := alk_run (L := ni) M hYi hni (nN + mN) (mes (nN + mN) ⟨s, btOf Wb, xs, 0⟩) A
  have t := run_parts (ps := psa) (L := ni) (ib := Yi) nN mN _ _ (mes (nN + mN) ⟨s, btOf Wb, xs, 0⟩) ⟨s, btOf Wa, xs, 0⟩ rfl (Nat.le_refl _) (Nat.le_refl _) (Nat.le_refl _)
  rw [e1, e2] at t
  rw [t, e3] at R
  have c1 : q1.c ≤ nN := by rw [← e1]; exact run_le nN _ _ (Nat.zero_le _)
  have c2 : q2.c ≤ mN := by rw [← e2]; exact run_le mN _ _ (Nat.zero_le _)
  have l1 : q1.xs.length + 0 ≤ xs.length + q1.c := by rw [← e1]; exact len_run psa ni Yi nN _ ⟨s, btOf Wa, xs, 0⟩
  have l2 : q2.xs.length + 0 ≤ q1.xs.length + q2.c := by rw [← e2]; exact len_run psa ni Yi mN _ (rst q1)
  have k1 : q1.s.x 0 = 0 ∧ AllB q1.xs := by rw [← e1]; exact kp_run psa ni Yi nN _ _ hx0 hxs
  have k2 : q2.s.x 0 = 0 ∧ AllB q2.xs := by rw [← e2]; exact kp_run psa ni Yi mN _ (rst q1) k1.1 k1.2
  exact ⟨R.s.symm, R.xs.symm, R.c.symm, R.b, c1, c2, by omega, by omega, k2.1, k2.2⟩
set_option maxRecDepth 20000 in
set_option maxHeartbeats 40000000 in
theorem parts4_good {s : Sx} {a0 ai pa : Option Addr} {n0 c0 ni ci pl pc nN mN : Nat} {Y0 Yi : Nat → Int} {len : Nat} {k p : Nat → Int} {Y : Nat → Nat → Int} {w : World} (hT : Tab w) (h1 : nN ≤ 5000) (h2 : mN ≤ 5000) (hY : ∀ i j, 0 ≤ Y i j ∧ Y i j < 256) (hYi : ∀ j, 0 ≤ Yi j ∧ Yi j < 256) (hk : Okx s) (hni : (ni : Int) ≤ 9223372036854775807) (hn0 : n0 ≤ 1099511000000) (hlen : len ≤ 4096) (hx0 : s.x 0 = 0) (hal : ∀ i, i < len → k i % 4096 = 0)
    (hN : ∀ W, Below w.heap.size w W → Calls Tryd.prog 12 #[.agg (cl s (.slice a0 n0 c0)).toArray, .slice pa pl pc, .slice ai ni ci] W fun e w' => ∃ m mem r ps ov iv, e = .returned (.tuple #[.pointer (some ⟨m, 0, none⟩), .int .i64 0]) ∧ Made W s n0 ni Y0 Yi len k p Y m mem r ps ov iv w') : Calls Tryd.prog 4 #[.agg (cs4 s (.slice a0 n0 c0) (.slice pa pl pc) (.slice ai ni ci) nN).toArray, .int .i64 mN] w fun e w' => e = .returned (.bool true) ∧ Below w.heap.size w w' := by
  have q39 : (cs4 s (.slice a0 n0 c0) (.slice pa pl pc) (.slice ai ni ci) nN)[39]? = some (.slice pa pl pc) := rfl
  have q40 : (cs4 s (.slice a0 n0 c0) (.slice pa pl pc) (.slice ai ni ci) nN)[40]? = some (.slice ai ni ci) := rfl
  have q41 : (cs4 s (.slice a0 n0 c0) (.slice pa pl pc) (.slice ai ni ci) nN)[41]? = some (.int .i64 (nN : Int)) := rfl
  have HR : Hid ((w.alloc (.cells (cs4 s (.slice a0 n0 c0) (.slice pa pl pc) (.slice ai ni ci) nN).toArray 40)).rangeAt w.heap.size 0 (cl s (.slice a0 n0 c0))) := range_cl
  have hl : Hid ((cl s (.slice a0 n0 c0)).length = 39) := rfl
  have HN : Hid (∀ W, Below w.heap.size w W → Calls Tryd.prog 12 #[.agg (cl s (.slice a0 n0 c0)).toArray, .slice pa pl pc, .slice ai ni ci] W fun e w' => ∃ m mem r ps ov iv, e = .returned (.tuple #[.pointer (some ⟨m, 0, none⟩), .int .i64 0]) ∧ Made W s n0 ni Y0 Yi len k p Y m mem r ps ov iv w') := hN
  have HT : Hid (Tab w) := hT
  have HY : Hid ((∀ i j, 0 ≤ Y i j ∧ Y i j < 256) ∧ (∀ j, 0 ≤ Yi j ∧ Yi j < 256)) := ⟨hY, hYi⟩
  have HK : Hid (Okx s) := hk
  have HAL : Hid (∀ i, i < len → k i % 4096 = 0) := hal
  have HX0 : Hid (s.x 0 = 0) := hx0
  clear hN hT hY hYi hk hal hx0
  generalize cs4 s (.slice a0 n0 c0) (.slice pa pl pc) (.slice ai ni ci) nN = L at *
  generalize cl s (.slice a0 n0 c0) = C at *
  have g1 : (nN : Int) ≤ 5000 := by omega
  have g2 : (mN : Int) ≤ 5000 := by omega
  go_enter Tryd.func4, Tryd.ntmps4
  go_wp2_with (first | (refine wpList_load_guard rfl 37 _ rfl w.heap.size 0 rfl C _ HR.out Tryd.underlying37 rfl (by rw [hl.out]; exact info37) ?_) | fail)
  obtain ⟨w0, hw0⟩ : ∃ w0, w.alloc (.cells L.toArray 40) = w0 := ⟨_, rfl⟩
  have B0 : Hid (Below w.heap.size w w0) := by have : Below w.heap.size w w0 := by { rw [← hw0]; exact (Below.refl _ w).alloc (Nat.le_refl _) _ }; exact this
  have hz0 : w0.heap.size = w.heap.size + 1 := by rw [← hw0]; simp
  have HL : Hid (∀ X, Below w0.heap.size w0 X → X.rangeAt w.heap.size 0 C ∧ X.cell? ⟨w.heap.size, 39, none⟩ = some (.slice pa pl pc) ∧ X.cell? ⟨w.heap.size, 40, none⟩ = some (.slice ai ni ci) ∧ X.cell? ⟨w.heap.size, 41, none⟩ = some (.int .i64 (nN : Int))) := by
    have : ∀ X, Below w0.heap.size w0 X → X.rangeAt w.heap.size 0 C ∧ X.cell? ⟨w.heap.size, 39, none⟩ = some (.slice pa pl pc) ∧ X.cell? ⟨w.heap.size, 40, none⟩ = some (.slice ai ni ci) ∧ X.cell? ⟨w.heap.size, 41, none⟩ = some (.int .i64 (nN : Int)) := fun X hb => ⟨range_below (by rw [← hw0]; exact HR.out) hb (by omega), (hb.cell (p := ⟨w.heap.size, 39, none⟩) (by show w.heap.size < _; omega)).trans (by rw [← hw0]; simp [q39]), (hb.cell (p := ⟨w.heap.size, 40, none⟩) (by show w.heap.size < _; omega)).trans (by rw [← hw0]; simp [q40]), (hb.cell (p := ⟨w.heap.size, 41, none⟩) (by show w.heap.size < _; omega)).trans (by rw [← hw0]; simp [q41])⟩
    exact this
  rw [hw0]
  clear hw0 q39 q40 q41 HR
  refine (HN.out w0 B0.out).mono ?_
  rintro e w1 ⟨ma, mema, ra, psa, ova, iva, rfl, hMa⟩
  obtain ⟨hb1, bta, basea, hA⟩ := hMa.mk2 HY.out.1 HY.out.2 (HT.out.below B0.out) HK.out hni
  have HA : Hid (Mk2 w0.heap.size (fun i => i < w0.heap.size) w1 ma mema ra psa bta s ova iva basea (rowOf Y0 n0) ni Yi len k p Y) := hA
  have B1 : Hid (Below w0.heap.size w0 w1) := hb1
  obtain ⟨r1, k39, k40, k41⟩ := HL.out w1 hb1
  have R1 : Hid (w1.rangeAt w.heap.size 0 C) := r1
  have hz1 := hb1.size
  clear hb1 hA hMa r1
  go_wp2_with (first | (refine wpList_load_guard rfl 37 _ rfl w.heap.size 0 rfl C _ R1.out Tryd.underlying37 rfl (by rw [hl.out]; exact info37) ?_) | fail)
  refine (HN.out w1 (B0.out.trans (B1.out.mono (by omega)))).mono ?_
  rintro e w2 ⟨mb, memb, rb, psb, ovb, ivb, rfl, hMb⟩
  obtain ⟨hb2, btb, baseb, hB⟩ := hMb.mk2 HY.out.1 HY.out.2 (HT.out.below (B0.out.trans (B1.out.mono (by omega)))) HK.out hni
  have HB : Hid (Mk2 w1.heap.size (fun i => i < w1.heap.size) w2 mb memb rb psb btb s ovb ivb baseb (rowOf Y0 n0) ni Yi len k p Y) := hB
  have B2 : Hid (Below w1.heap.size w1 w2) := hb2
  have hz2 := hb2.size
  have B02 : Hid (Below w0.heap.size w0 w2) := B1.out.trans (hb2.mono hz1)
  have HA2 : Hid (Bd (fun i => i < w0.heap.size) w2 ma mema ra psa bta s ova iva basea (rowOf Y0 n0) ni Yi) := (HA.out.bd.below hb2).1
  clear hb2 hB hMb k39 k40 k41
  obtain ⟨-, -, -, k41⟩ := HL.out w2 B02.out
  obtain ⟨Wa, b0a, eba, hFa⟩ := HA.out.fr
  obtain ⟨Wb, b0b, ebb, hFb⟩ := HB.out.fr
  obtain ⟨q1, e1⟩ : ∃ q1, runP psa ni Yi nN (mes nN ⟨s, btOf Wa, rowOf Y0 n0, 0⟩) ⟨s, btOf Wa, rowOf Y0 n0, 0⟩ = q1 := ⟨_, rfl⟩
  obtain ⟨q2, e2⟩ : ∃ q2, runP psa ni Yi mN (mes mN (rst q1)) (rst q1) = q2 := ⟨_, rfl⟩
  obtain ⟨q3, e3⟩ : ∃ q3, runP psb ni Yi (nN + mN) (mes (nN + mN) ⟨s, btOf Wb, rowOf Y0 n0, 0⟩) ⟨s, btOf Wb, rowOf Y0 n0, 0⟩ = q3 := ⟨_, rfl⟩
  have hlr : (rowOf Y0 n0).length = n0 := by simp [rowOf]
  obtain ⟨z1, z2, z3, z4, z5, z6, z7, z8, z9, z10⟩ := runs_agree (xs := rowOf Y0 n0) hFa hFb HY.out.1 HY.out.2 hni HK.out HX0.out (allB_row Y0 n0) e1 e2 e3
  rw [hlr] at z7 z8
  subst eba ebb
  have HZ : Hid (q3.s = q2.s ∧ q3.xs = q2.xs ∧ q3.c = q2.c + q1.c ∧ Same2 psa psb q2.bt q3.bt ∧ q2.s.x 0 = 0 ∧ AllB q2.xs) := ⟨z1, z2, z3, z4, z9, z10⟩
  have hla := hFa.len
  have hlb := hFb.len
  have HFF : Hid (Fr Wa mema ra len k p Y b0a psa ∧ Fr Wb memb rb len k p Y b0b psb) := ⟨hFa, hFb⟩
  have C1 : Hid (Calls Tryd.prog 13 #[.pointer (some ⟨ma, 0, none⟩), .int .i64 nN] w2 fun e w' => e = .returned (.int .i64 q1.c) ∧ At2 (Oth w2 ma psa ova) w2 ma mema ra psa iva basea ni Yi q1 w') := by
    have t := run13_any nN (mes nN ⟨s, btOf Wa, rowOf Y0 n0, 0⟩) ⟨s, btOf Wa, rowOf Y0 n0, 0⟩ ⟨⟨ova, HA2.out.oth⟩, FrN.refl _ _⟩ rfl (Nat.le_refl _) (by show (rowOf Y0 n0).length + nN < _; omega) (by omega)
    rw [e1] at t
    exact t
  have C2 : Hid (∀ X, At2 (Oth w2 ma psa ova) w2 ma mema ra psa iva basea ni Yi q1 X → Calls Tryd.prog 13 #[.pointer (some ⟨ma, 0, none⟩), .int .i64 mN] X fun e w' => e = .returned (.int .i64 q2.c) ∧ At2 (Oth w2 ma psa ova) X ma mema ra psa iva basea ni Yi q2 w') := fun X hX => by
    have t := run13_any (W := X) (N := Oth w2 ma psa ova) (m := ma) (mem := mema) (r := ra) (ps := psa) (iv := iva) (base := basea) (L := ni) (ib := Yi) mN (mes mN (rst q1)) (rst q1) ⟨hX.1, FrN.refl _ _⟩ rfl (Nat.le_refl _) (by show q1.xs.length + mN < _; omega) (by omega)
    rw [e2] at t
    exact t
  have C3 : Hid (∀ X, Bd (fun i => i < w1.heap.size) X mb memb rb psb (btOf Wb) s ovb ivb baseb (rowOf Y0 n0) ni Yi → Calls Tryd.prog 13 #[.pointer (some ⟨mb, 0, none⟩), .int .i64 ((nN : Int) + (mN : Int))] X fun e w' => e = .returned (.int .i64 q3.c) ∧ At2 (Oth X mb psb ovb) X mb memb rb psb ivb baseb ni Yi q3 w') := fun X hX => by
    have t := run13_any (nN + mN) (mes (nN + mN) ⟨s, btOf Wb, rowOf Y0 n0, 0⟩) ⟨s, btOf Wb, rowOf Y0 n0, 0⟩ ⟨⟨ovb, hX.oth⟩, FrN.refl _ _⟩ rfl (Nat.le_refl _) (by show (rowOf Y0 n0).length + (nN + mN) < _; omega) (by omega)
    rw [e3, show ((nN + mN : Nat) : Int) = (nN : Int) + (mN : Int) by omega] at t
    exact t
  clear e1 e2 e3 z1 z2 z3 z4 z9 z10 hFa hFb
  go_wp2_with fail
  refine C1.out.mono ?_
  rintro e w3 ⟨rfl, hA3⟩
  have HA3 : Hid (At2 (Oth w2 ma psa ova) w2 ma mema ra psa iva basea ni Yi q1 w3) := hA3
  clear hA3
  go_wp2_with fail
  refine (C2.out w3 HA3.out).mono ?_
  rintro e w4 ⟨rfl, hA4⟩
  have HA4 : Hid (At2 (Oth w2 ma psa ova) w2 ma mema ra psa iva basea ni Yi q2 w4) := ⟨hA4.1, HA3.out.2.trans hA4.2⟩
  clear hA4 C1 C2
  have NF : Hid (∀ i, (i < w0.heap.size ∨ w1.heap.size ≤ i) → ¬ Fp ma psa ova i) := by
    have : ∀ i, (i < w0.heap.size ∨ w1.heap.size ≤ i) → ¬ Fp ma psa ova i := fun i hi h => by
      obtain ⟨u1, u2, u3, u4, u5, u6⟩ := HA.out.bd.lts
      rcases h with h | ⟨x, hx, h⟩ | h
      · have := HA.out.m; omega
      · have := HA.out.g x hx; have := u4 x hx; omega
      · have := HA.out.ov i h; have := u5 i h; omega
    exact this
  have B04 : Hid (Below w0.heap.size w0 w4) := by
    have f := HA4.out.2
    have : Below w0.heap.size w0 w4 := B02.out.trans ⟨f.os, f.tape, f.output, f.size, fun i hi => f.block i ⟨by omega, NF.out i (.inl hi)⟩⟩
    exact this
  have hz4 : w2.heap.size ≤ w4.heap.size := HA4.out.2.size
  have HB4 : Hid (Bd (fun i => i < w1.heap.size) w4 mb memb rb psb (btOf Wb) s ovb ivb baseb (rowOf Y0 n0) ni Yi) := by
    have f := HA4.out.2
    obtain ⟨u1, u2, u3, u4, u5, u6⟩ := HB.out.bd.lts
    have : Bd (fun i => i < w1.heap.size) w4 mb memb rb psb (btOf Wb) s ovb ivb baseb (rowOf Y0 n0) ni Yi := HB.out.bd.kept f.size (f.block _ ⟨u1, NF.out _ (.inr HB.out.m)⟩) (f.block _ ⟨u2, NF.out _ (.inr HB.out.mem)⟩) (f.block _ ⟨u3, NF.out _ (.inr HB.out.r)⟩) (fun x hx => f.block _ ⟨u4 x hx, NF.out _ (.inr (HB.out.g x hx))⟩) (fun g hg => f.block _ ⟨u5 g hg, NF.out _ (.inr (HB.out.ov g hg))⟩) (fun g hg => f.block _ ⟨u6 g hg, NF.out _ (.inr (HB.out.iv g hg))⟩) (f.block 0 HA2.out.oth.zero)
    exact this
  clear k41
  obtain ⟨-, -, -, k41⟩ := HL.out w4 B04.out
  go_wp2_with fail
  refine (C3.out w4 HB4.out).mono ?_
  rintro e w5 ⟨rfl, hB5⟩
  have HB5 : Hid (At2 (Oth w4 mb psb ovb) w4 mb memb rb psb ivb baseb ni Yi q3 w5) := hB5
  clear hB5 C3
  have NG : Hid (∀ i, i < w1.heap.size → ¬ Fp mb psb ovb i) := by
    have : ∀ i, i < w1.heap.size → ¬ Fp mb psb ovb i := fun i hi h => by
      rcases h with h | ⟨x, hx, h⟩ | h
      · have := HB.out.m; omega
      · have := HB.out.g x hx; omega
      · have := HB.out.ov i h; omega
    exact this
  have HA5 : Hid (∃ ova5, Bd (Oth w2 ma psa ova) w5 ma mema ra psa q2.bt q2.s ova5 iva basea q2.xs ni Yi) := by
    obtain ⟨ova4, h4⟩ := HA4.out.1
    have f := HB5.out.2
    obtain ⟨u1, u2, u3, u4, u5, u6⟩ := h4.lts
    obtain ⟨v1, v2, v3, v4, v5, v6⟩ := HA.out.bd.lts
    obtain ⟨x1, x2, x3, x4, x5, x6⟩ := HB.out.bd.lts
    have inB : ∀ i, Fp mb psb ovb i → Oth w2 ma psa ova i := fun i hi => by
      have : i < w2.heap.size ∧ w1.heap.size ≤ i := by
        rcases hi with h | ⟨x, hx, h⟩ | h
        · have := HB.out.m; omega
        · have := HB.out.g x hx; have := x4 x hx; omega
        · have := HB.out.ov i h; have := x5 i h; omega
      exact ⟨this.1, NF.out i (.inr this.2)⟩
    have : ∃ ova5, Bd (Oth w2 ma psa ova) w5 ma mema ra psa q2.bt q2.s ova5 iva basea q2.xs ni Yi := ⟨ova4, h4.kept f.size (f.block _ ⟨u1, fun h => (h4.far _ (inB _ h)).2.1 rfl⟩) (f.block _ ⟨u2, NG.out _ v2⟩) (f.block _ ⟨u3, NG.out _ v3⟩) (fun x hx => f.block _ ⟨u4 x hx, fun h => (h4.far _ (inB _ h)).2.2.1 x hx rfl⟩) (fun g hg => f.block _ ⟨u5 g hg, fun h => (h4.far _ (inB _ h)).2.2.2 hg⟩) (fun g hg => f.block _ ⟨u6 g hg, NG.out _ (v6 g hg)⟩) (f.block 0 HB4.out.oth.zero)⟩
    exact this
  have B05 : Hid (Below w0.heap.size w0 w5) := by
    have f := HB5.out.2
    have : Below w0.heap.size w0 w5 := B04.out.trans ⟨f.os, f.tape, f.output, f.size, fun i hi => f.block i ⟨by omega, NG.out i (by omega)⟩⟩
    exact this
  obtain ⟨ova5, hA5⟩ := HA5.out
  obtain ⟨ovb5, hB5⟩ := HB5.out.1
  have DA : Hid (Bd (Oth w2 ma psa ova) w5 ma mema ra psa q2.bt q2.s ova5 iva basea q2.xs ni Yi) := hA5
  have DB : Hid (Bd (Oth w4 mb psb ovb) w5 mb memb rb psb q3.bt q2.s ovb5 ivb baseb q2.xs ni Yi) := by have t := hB5; rw [HZ.out.1, HZ.out.2.1] at t; exact t
  clear hA5 hB5 HA5 HA4 HB4 HB5 NF NG HA HB HA2 HA3 k41
  have hz5 := B05.out.size
  have hxs := row_of HZ.out.2.2.2.2.2
  obtain ⟨Yx, hYx⟩ : ∃ Yx, yOfX q2.xs = Yx := ⟨_, rfl⟩
  obtain ⟨nx, hnx⟩ : ∃ nx, q2.xs.length = nx := ⟨_, rfl⟩
  rw [hYx, hnx] at hxs
  have hnx2 : nx ≤ 1099511627776 := by omega
  have BA : Hid (ByA w5 ova5 nx Yx ∧ ByA w5 ovb5 nx Yx) := by
    have t1 := DA.out.own
    have t2 := DB.out.own
    rw [hnx, hxs] at t1 t2
    exact ⟨owns_bya t1, owns_bya t2⟩
  have SA : Hid (∀ X, Below w5.heap.size w5 X → Calls Tryd.prog 14 #[.pointer (some ⟨ma, 0, none⟩)] X fun e w' => ∃ o, e = .returned (.agg (cl q2.s o).toArray) ∧ ByA w' o nx Yx ∧ Below X.heap.size X w') := by
    have : ∀ X, Below w5.heap.size w5 X → Calls Tryd.prog 14 #[.pointer (some ⟨ma, 0, none⟩)] X fun e w' => ∃ o, e = .returned (.agg (cl q2.s o).toArray) ∧ ByA w' o nx Yx ∧ Below X.heap.size X w' := fun X hX => by
      have hm := DA.out.mch.below hX
      have hb := BA.out.1.below hX
      obtain ⟨ao, c, e, _⟩ := BA.out.1
      rw [e] at hm hb
      exact (state14_any hm hb hnx2).mono fun _ _ ⟨o, h1, h2, h3⟩ => ⟨o, h1, owns_bya h2, h3⟩
    exact this
  have SB : Hid (∀ X, Below w5.heap.size w5 X → Calls Tryd.prog 14 #[.pointer (some ⟨mb, 0, none⟩)] X fun e w' => ∃ o, e = .returned (.agg (cl q2.s o).toArray) ∧ ByA w' o nx Yx ∧ Below X.heap.size X w') := by
    have : ∀ X, Below w5.heap.size w5 X → Calls Tryd.prog 14 #[.pointer (some ⟨mb, 0, none⟩)] X fun e w' => ∃ o, e = .returned (.agg (cl q2.s o).toArray) ∧ ByA w' o nx Yx ∧ Below X.heap.size X w' := fun X hX => by
      have hm := DB.out.mch.below hX
      have hb := BA.out.2.below hX
      obtain ⟨ao, c, e, _⟩ := BA.out.2
      rw [e] at hm hb
      exact (state14_any hm hb hnx2).mono fun _ _ ⟨o, h1, h2, h3⟩ => ⟨o, h1, owns_bya h2, h3⟩
    exact this
  have CP : Hid (∀ X o1 o2, ByA X o1 nx Yx → ByA X o2 nx Yx → Calls Tryd.prog 15 #[.agg (cl q2.s o1).toArray, .agg (cl q2.s o2).toArray] X fun e w' => e = .returned (.bool true) ∧ Below X.heap.size X w') := fun X o1 o2 b1 b2 => cpu15_any q2.s o1 o2 X fun w' hb => bytes31_any (b1.below hb) (b2.below hb)
  have PA : Hid (∀ X, Below w5.heap.size w5 X → Calls Tryd.prog 17 #[.pointer (some ⟨ma, 0, none⟩)] X fun e w' => ∃ v, e = .returned v ∧ PgsV psa q2.bt v w' ∧ Below X.heap.size X w') := fun X hX => pages17_any (DA.out.mch.below hX) (DA.out.mo.below hX) (by omega)
  have PB : Hid (∀ X, Below w5.heap.size w5 X → Calls Tryd.prog 17 #[.pointer (some ⟨mb, 0, none⟩)] X fun e w' => ∃ v, e = .returned v ∧ PgsV psb q3.bt v w' ∧ Below X.heap.size X w') := fun X hX => pages17_any (DB.out.mch.below hX) (DB.out.mo.below hX) (by omega)
  have PP : Hid (∀ X v1 v2, PgsV psa q2.bt v1 X → PgsV psb q3.bt v2 X → Calls Tryd.prog 16 #[v1, v2] X fun e w' => e = .returned (.bool true) ∧ Below X.heap.size X w') := by
    have sp := same_places (HFF.out.1.alike HFF.out.2) (fun x hx => by obtain ⟨t, ht, rfl⟩ := List.getElem_of_mem hx; rw [(HFF.out.1.at_ t _ (List.getElem?_eq_getElem ht)).1]; exact HAL.out t (by omega)) HZ.out.2.2.2.1
    have : ∀ X v1 v2, PgsV psa q2.bt v1 X → PgsV psb q3.bt v2 X → Calls Tryd.prog 16 #[v1, v2] X fun e w' => e = .returned (.bool true) ∧ Below X.heap.size X w' := fun X v1 v2 p1 p2 => pages16_any p1 p2 (by omega) (by omega) (fun i hi => by
      rw [HFF.out.1.ordP i hi, HFF.out.2.ordP i (by omega)]
      have ta := HFF.out.1.at_ i _ (List.getElem?_eq_getElem hi)
      have tb := HFF.out.2.at_ i _ (List.getElem?_eq_getElem (by omega : i < psb.length))
      obtain ⟨y, hy, hp, hd⟩ := sp (k i) psa[i] (HFF.out.1.pg_at hi)
      have ey : y = psb[i]'(by omega) := by have t := HFF.out.2.pg_at (by omega : i < psb.length); rw [hy] at t; exact Option.some.inj t
      rw [ey] at hd
      exact ⟨tb.1.trans ta.1.symm, tb.2.1.trans ta.2.1.symm, fun j hj => (hd j hj).symm⟩)
    exact this
  have SM : Hid (∀ X, Below w5.heap.size w5 X → Calls Tryd.prog 11 #[] X fun e w' => e = .returned (.bool true) ∧ Below X.heap.size X w') := fun X hX => small11 X (DA.out.tab.below hX)
  have hcnt : ((q1.c : Int) + (q2.c : Int) == (q3.c : Int)) = true := by have := HZ.out.2.2.1; simp; omega
  clear hYx hnx hxs
  go_wp2_with fail
  refine (SA.out w5 (Below.refl _ _)).mono ?_
  rintro e w6 ⟨o6, rfl, by6, hb6⟩
  have B6 : Hid (Below w5.heap.size w5 w6) := hb6
  have BY6 : Hid (ByA w6 o6 nx Yx) := by6
  have H1 : Hid ((cl q2.s o6).toArray.all (·.oneCell') = true) := by obtain ⟨ao, c, e, _⟩ := by6; rw [e]; exact cl_one q2.s ao nx c
  obtain ⟨L6, hL6⟩ : ∃ L6, cl q2.s o6 = L6 := ⟨_, rfl⟩
  have HL6 : Hid (cl q2.s o6 = L6) := hL6
  have hl6 : Hid (L6.length = 39) := by rw [← hL6]; exact cl_len _ _
  have p1 : L6[1]? = some (.int .u64 0) := by rw [← hL6, cl_reg q2.s o6 (r := 0) (by omega), HZ.out.2.2.2.2.1]
  rw [hL6] at H1 ⊢
  obtain ⟨w7, hw7, hcs, hb7, hz7⟩ := stored L6 hl6.out w6
  have k1 := hcs 1 _ p1
  have R7 : Hid (w7.rangeAt w6.heap.size 0 L6) := fun j v hv => by rw [Nat.zero_add]; exact hcs j v hv
  have H7 : Hid ((w6.alloc (.cells zC.toArray 37)).setCells w6.heap.size 0 L6.toArray.toList = w7) := hw7
  have B7 : Hid (Below w5.heap.size w5 w7) := hb6.trans (hb7.mono hb6.size)
  have BY7 : Hid (ByA w7 o6 nx Yx) := by6.below hb7
  have hts : Hid ((w6.alloc (.cells zC.toArray 37)).there w6.heap.size 0 L6.toArray.size) := by rw [show L6.toArray.size = 39 from hl6.out]; exact there_new w6 zC 37
  have his : Hid ((Tryd.prog.info? 37).map (·.size) = some L6.toArray.size) := by rw [show L6.toArray.size = 39 from hl6.out]; exact info37
  have hz67 := hb7.size
  clear hL6 hcs hb7 hb6 by6 hw7 p1
  go_wp2_with (first | (refine wpList_store_mid rfl 37 _ _ rfl w6.heap.size 0 L6.toArray rfl rfl hts.out his.out H1.out ?_; change wpList _ _ _ _ _ ((w6.alloc (.cells zC.toArray 37)).setCells w6.heap.size 0 L6.toArray.toList); rw [H7.out]) | fail)
  have hi6 : Hid ((Tryd.prog.info? 37).map (·.size) = some L6.length) := by rw [hl6.out]; exact info37
  have Bc : Hid (Below w5.heap.size w5 w7.drew) := B7.out.drew
  have rc : Hid (w7.drew.rangeAt w6.heap.size 0 L6) := fun j v hv => R7.out j v hv
  have zc : w6.heap.size < w7.drew.heap.size := hz7
  have kc : w7.drew.cell? ⟨w6.heap.size, 1, none⟩ = some (.int .u64 0) := k1
  have ld := run_loadVar_mid (P := Tryd.prog) w7.drew w6.heap.size 0 37 L6 _ rc.out Tryd.underlying37 rfl hi6.out
  have Y6 : Hid (ByA w7.drew o6 nx Yx) := BY7.out.below (Below.refl _ _).drew
  have FIN : Hid (∀ X, Below w5.heap.size w5 X → Below w.heap.size w X) := by
    have : ∀ X, Below w5.heap.size w5 X → Below w.heap.size w X := fun X h => B0.out.trans ((B05.out.trans (h.mono hz5)).mono (by omega))
    exact this
  clear B6 BY6 H1 hts his H7 B7 BY7 R7 SA hz7 ld k1 hl6 hz67 DA DB BA HFF HZ hla hlb hlr z5 z6 z7 z8 h1 h2 g1 g2 hni hn0 hlen HN HT HY HK HAL HX0 hl HL B1 B2 B02 B04 B05 B0 hz0 hz1 hz2 hz4 hz5 hnx2
  refine wp_region_any (by kernel_rfl) ?_
  change wpAny _ _ _ _ _ _ _ (World.drew _)
  refine wpAny_take (i := 0) (v := ?_) rfl (by kernel_rfl) (by kernel_rfl) (by kernel_rfl) (fun _ _ _ h => h) (Or.inl ⟨by rfl, ?_⟩) ?_
  case refine_2 => ((intro w; go_simp) <;> with_reducible rfl)
  refine wpAny_take (i := 1) (v := ?_) rfl (by kernel_rfl) (by kernel_rfl) (by kernel_rfl) (fun _ _ _ h => h) (Or.inl ⟨by rfl, ?_⟩) ?_
  case refine_2 => ((intro w; go_simp) <;> with_reducible rfl)
  refine wpAny_take (i := 2) (v := ?_) rfl (by kernel_rfl) (by kernel_rfl) (by kernel_rfl) (fun _ _ _ h => h) (Or.inl ⟨by rfl, ?_⟩) ?_
  case refine_2 => ((intro w; go_simp) <;> with_reducible rfl)
  refine wpAny_take (i := 3) (v := ?_) rfl (by kernel_rfl) (by kernel_rfl) (by kernel_rfl) (fun _ _ _ h => h) (Or.inl ⟨by rfl, ?_⟩) ?_
  case refine_2 => ((intro w; go_simp) <;> with_reducible rfl)
  refine wpAny_take (i := 5) (v := ?_) rfl (by kernel_rfl) (by kernel_rfl) (by kernel_rfl) (fun _ _ _ h => h) (Or.inl ⟨by rfl, ?_⟩) ?_
  case refine_2 => ((intro w; go_simp) <;> with_reducible rfl)
  refine wpAny_gen fun A hA => ?_
  refine wpAny_ready (rs := [4, 6]) (by kernel_rfl) (by simp) ?_
  refine AllReady.cons rfl ?_ (AllReady.cons rfl ?_ AllReady.nil)
  · intro K hK
    refine step_load_mid (by subst hA; kernel_rfl) 37 (.tmp 11) rfl w6.heap.size 0 (by subst hA; kernel_rfl) L6 _ rc.out Tryd.underlying37 rfl hi6.out ?_
    refine hK _ _ ?_
    clear hK K
    subst hA
    refine wpAny_gen fun A hA => ?_
    refine wpAny_ready (rs := [6]) (by kernel_rfl) (by simp) ?_
    refine AllReady.cons rfl ?_ AllReady.nil
    intro K hK
    subst hA
    go_simp
    go_wp2_with ((go_at_call 14; refine (SB.out _ Bc.out).mono ?_; rintro e w8 ⟨o8, rfl, by8, hb⟩; replace kc := (hb.cell (p := ⟨w6.heap.size, 1, none⟩) zc).trans kc; replace rc : Hid (w8.rangeAt w6.heap.size 0 L6) := range_below rc.out hb zc; replace zc := Nat.lt_of_lt_of_le zc hb.size; replace Bc : Hid (Below w5.heap.size w5 w8) := Bc.out.trans (hb.mono Bc.out.size); have Y8 : Hid (ByA w8 o6 nx Yx ∧ ByA w8 o8 nx Yx) := ⟨Y6.out.below hb, by8⟩; obtain ⟨L8, hL8⟩ : ∃ L8, cl q2.s o8 = L8 := ⟨_, rfl⟩; rw [hL8]; have HL8 : Hid (cl q2.s o8 = L8) := hL8; clear hb by8 hL8))
    refine wpAny_gen fun A hA => ?_
    refine wpAny_ready (rs := [7]) (by kernel_rfl) (by simp) ?_
    refine AllReady.cons rfl ?_ AllReady.nil
    intro K hK
    subst hA
    go_simp
    go_wp2_with ((go_at_call 15; refine (show Calls Tryd.prog 15 #[.agg L6.toArray, .agg L8.toArray] w8 (fun e w' => e = .returned (.bool true) ∧ Below w8.heap.size w8 w') from by rw [← HL6.out, ← HL8.out]; exact CP.out w8 o6 o8 Y8.out.1 Y8.out.2).mono ?_; rintro e w9 ⟨rfl, hb⟩; replace kc := (hb.cell (p := ⟨w6.heap.size, 1, none⟩) zc).trans kc; replace zc := Nat.lt_of_lt_of_le zc hb.size; replace Bc : Hid (Below w5.heap.size w5 w9) := Bc.out.trans (hb.mono Bc.out.size); clear hb))
    refine wpAny_take (i := 8) (v := ?_) rfl (by kernel_rfl) (by kernel_rfl) (by kernel_rfl) (fun _ _ _ h => h) (Or.inl ⟨by rfl, ?_⟩) ?_
    case refine_2 => ((intro w; go_simp) <;> with_reducible rfl)
    refine wpAny_take (i := 9) (v := ?_) rfl (by kernel_rfl) (by kernel_rfl) (by kernel_rfl) (fun _ _ _ h => h) (Or.inl ⟨by rfl, ?_⟩) ?_
    case refine_2 => ((intro w; go_simp) <;> with_reducible rfl)
    refine wpAny_take (i := 10) (v := ?_) rfl (by kernel_rfl) (by kernel_rfl) (by kernel_rfl) (fun _ _ _ h => h) (Or.inl ⟨by rfl, ?_⟩) ?_
    case refine_2 => ((intro w; go_simp) <;> with_reducible rfl)
    refine wpAny_take (i := 12) (v := ?_) rfl (by kernel_rfl) (by kernel_rfl) (by kernel_rfl) (fun _ _ _ h => h) (Or.inl ⟨by rfl, ?_⟩) ?_
    case refine_2 => ((intro w; go_simp) <;> with_reducible rfl)
    refine wpAny_gen fun A hA => ?_
    refine wpAny_ready (rs := [11]) (by kernel_rfl) (by simp) ?_
    refine AllReady.cons rfl ?_ AllReady.nil
    intro K hK
    subst hA
    go_simp
    go_wp2_with ((go_at_call 17; refine (PA.out _ Bc.out).mono ?_; rintro e wa ⟨va, rfl, hv, hb⟩; replace kc := (hb.cell (p := ⟨w6.heap.size, 1, none⟩) zc).trans kc; replace zc := Nat.lt_of_lt_of_le zc hb.size; replace Bc : Hid (Below w5.heap.size w5 wa) := Bc.out.trans (hb.mono Bc.out.size); have H21a := (show Hid _ from hb); have V1 : Hid (∀ X, Below wa.heap.size wa X → PgsV psa q2.bt va X) := fun X h => hv.below h; clear hb hv))
    refine wpAny_gen fun A hA => ?_
    refine wpAny_ready (rs := [13]) (by kernel_rfl) (by simp) ?_
    refine AllReady.cons rfl ?_ AllReady.nil
    intro K hK
    subst hA
    go_simp
    go_wp2_with ((go_at_call 17; refine (PB.out _ Bc.out).mono ?_; rintro e wb ⟨vb, rfl, hv, hb⟩; replace kc := (hb.cell (p := ⟨w6.heap.size, 1, none⟩) zc).trans kc; replace zc := Nat.lt_of_lt_of_le zc hb.size; replace Bc : Hid (Below w5.heap.size w5 wb) := Bc.out.trans (hb.mono Bc.out.size); have H21b := (show Hid _ from hb); have V2 : Hid (∀ X, Below wb.heap.size wb X → PgsV psb q3.bt vb X) := fun X h => hv.below h; clear hb hv))
    refine wpAny_gen fun A hA => ?_
    refine wpAny_ready (rs := [14]) (by kernel_rfl) (by simp) ?_
    refine AllReady.cons rfl ?_ AllReady.nil
    intro K hK
    subst hA
    go_simp
    go_wp2_with ((go_at_call 16; refine (PP.out _ va vb (V1.out _ H21b.out) (V2.out _ (Below.refl _ _))).mono ?_; rintro e wd ⟨rfl, hb⟩; replace kc := (hb.cell (p := ⟨w6.heap.size, 1, none⟩) zc).trans kc; replace zc := Nat.lt_of_lt_of_le zc hb.size; replace Bc : Hid (Below w5.heap.size w5 wd) := Bc.out.trans (hb.mono Bc.out.size); clear hb))
    refine wpAny_take (i := 15) (v := ?_) rfl (by kernel_rfl) (by kernel_rfl) (by kernel_rfl) (fun _ _ _ h => h) (Or.inl ⟨by rfl, ?_⟩) ?_
    case refine_2 => ((intro w; go_simp) <;> with_reducible rfl)
    refine wpAny_take (i := 16) (v := ?_) rfl (by kernel_rfl) (by kernel_rfl) (by kernel_rfl) (fun _ _ _ h => h) (Or.inl ⟨by rfl, ?_⟩) ?_
    case refine_2 => ((intro w; go_simp) <;> with_reducible rfl)
    refine wpAny_take (i := 17) (v := ?_) rfl (by kernel_rfl) (by kernel_rfl) (by kernel_rfl) (fun _ _ _ h => h) (Or.inl ⟨by rfl, ?_⟩) ?_
    case refine_2 => ((intro w; go_simp) <;> with_reducible rfl)
    refine wpAny_take (i := 18) (v := ?_) rfl (by kernel_rfl) (by kernel_rfl) (by kernel_rfl) (fun _ _ _ h => h) (Or.inl ⟨by rfl, ?_⟩) ?_
    case refine_2 => ((intro w; go_simp) <;> with_reducible rfl)
    refine wpAny_gen fun A hA => ?_
    refine wpAny_ready (rs := [19]) (by kernel_rfl) (by simp) ?_
    refine AllReady.cons rfl ?_ AllReady.nil
    intro K hK
    subst hA
    go_simp
    refine hK _ _ ?_
    clear hK K
    refine wpAny_take (i := 20) (v := ?_) rfl (by kernel_rfl) (by kernel_rfl) (by kernel_rfl) (fun _ _ _ h => h) (Or.inl ⟨by rfl, ?_⟩) ?_
    case refine_2 => ((intro w; go_simp) <;> with_reducible rfl)
    refine wpAny_take (i := 21) (v := ?_) rfl (by kernel_rfl) (by kernel_rfl) (by kernel_rfl) (fun _ _ _ h => h) (Or.inl ⟨by rfl, ?_⟩) ?_
    case refine_2 => ((intro w; go_simp) <;> with_reducible rfl)
    refine wpAny_take (i := 22) (v := ?_) rfl (by kernel_rfl) (by kernel_rfl) (by kernel_rfl) (fun _ _ _ h => h) (Or.inl ⟨by rfl, ?_⟩) ?_
    case refine_2 => ((intro w; go_simp) <;> with_reducible rfl)
    refine wpAny_gen fun A hA => ?_
    refine wpAny_ready (rs := [23]) (by kernel_rfl) (by simp) ?_
    refine AllReady.cons rfl ?_ AllReady.nil
    intro K hK
    subst hA
    go_simp
    go_wp2_with ((go_at_call 11; refine (SM.out _ Bc.out).mono ?_; rintro e we ⟨rfl, hb⟩; replace Bc : Hid (Below w5.heap.size w5 we) := Bc.out.trans (hb.mono Bc.out.size); clear hb))
    refine wpAny_take (i := 24) (v := ?_) rfl (by kernel_rfl) (by kernel_rfl) (by kernel_rfl) (fun _ _ _ h => h) (Or.inl ⟨by rfl, ?_⟩) ?_
    case refine_2 => ((intro w; go_simp) <;> with_reducible rfl)
    refine wpAny_take (i := 25) (v := ?_) rfl (by kernel_rfl) (by kernel_rfl) (by kernel_rfl) (fun _ _ _ h => h) (Or.inl ⟨by rfl, ?_⟩) ?_
    case refine_2 => ((intro w; go_simp) <;> with_reducible rfl)
    refine wpAny_done (by kernel_rfl) ?_ _
    go_wp2
    go_ret
    exact ⟨rfl, FIN.out _ Bc.out⟩
  · intro K hK
    subst hA
    go_simp
    go_wp2_with ((go_at_call 14; refine (SB.out _ Bc.out).mono ?_; rintro e w8 ⟨o8, rfl, by8, hb⟩; replace kc := (hb.cell (p := ⟨w6.heap.size, 1, none⟩) zc).trans kc; replace rc : Hid (w8.rangeAt w6.heap.size 0 L6) := range_below rc.out hb zc; replace zc := Nat.lt_of_lt_of_le zc hb.size; replace Bc : Hid (Below w5.heap.size w5 w8) := Bc.out.trans (hb.mono Bc.out.size); have Y8 : Hid (ByA w8 o6 nx Yx ∧ ByA w8 o8 nx Yx) := ⟨Y6.out.below hb, by8⟩; obtain ⟨L8, hL8⟩ : ∃ L8, cl q2.s o8 = L8 := ⟨_, rfl⟩; rw [hL8]; have HL8 : Hid (cl q2.s o8 = L8) := hL8; clear hb by8 hL8))
    refine wpAny_gen fun A hA => ?_
    refine wpAny_ready (rs := [4]) (by kernel_rfl) (by simp) ?_
    refine AllReady.cons rfl ?_ AllReady.nil
    intro K hK
    refine step_load_mid (by subst hA; kernel_rfl) 37 (.tmp 11) rfl w6.heap.size 0 (by subst hA; kernel_rfl) L6 _ rc.out Tryd.underlying37 rfl hi6.out ?_
    refine hK _ _ ?_
    clear hK K
    subst hA
    refine wpAny_gen fun A hA => ?_
    refine wpAny_ready (rs := [7]) (by kernel_rfl) (by simp) ?_
    refine AllReady.cons rfl ?_ AllReady.nil
    intro K hK
    subst hA
    go_simp
    go_wp2_with ((go_at_call 15; refine (show Calls Tryd.prog 15 #[.agg L6.toArray, .agg L8.toArray] w8 (fun e w' => e = .returned (.bool true) ∧ Below w8.heap.size w8 w') from by rw [← HL6.out, ← HL8.out]; exact CP.out w8 o6 o8 Y8.out.1 Y8.out.2).mono ?_; rintro e w9 ⟨rfl, hb⟩; replace kc := (hb.cell (p := ⟨w6.heap.size, 1, none⟩) zc).trans kc; replace zc := Nat.lt_of_lt_of_le zc hb.size; replace Bc : Hid (Below w5.heap.size w5 w9) := Bc.out.trans (hb.mono Bc.out.size); clear hb))
    refine wpAny_take (i := 8) (v := ?_) rfl (by kernel_rfl) (by kernel_rfl) (by kernel_rfl) (fun _ _ _ h => h) (Or.inl ⟨by rfl, ?_⟩) ?_
    case refine_2 => ((intro w; go_simp) <;> with_reducible rfl)
    refine wpAny_take (i := 9) (v := ?_) rfl (by kernel_rfl) (by kernel_rfl) (by kernel_rfl) (fun _ _ _ h => h) (Or.inl ⟨by rfl, ?_⟩) ?_
    case refine_2 => ((intro w; go_simp) <;> with_reducible rfl)
    refine wpAny_take (i := 10) (v := ?_) rfl (by kernel_rfl) (by kernel_rfl) (by kernel_rfl) (fun _ _ _ h => h) (Or.inl ⟨by rfl, ?_⟩) ?_
    case refine_2 => ((intro w; go_simp) <;> with_reducible rfl)
    refine wpAny_take (i := 12) (v := ?_) rfl (by kernel_rfl) (by kernel_rfl) (by kernel_rfl) (fun _ _ _ h => h) (Or.inl ⟨by rfl, ?_⟩) ?_
    case refine_2 => ((intro w; go_simp) <;> with_reducible rfl)
    refine wpAny_gen fun A hA => ?_
    refine wpAny_ready (rs := [11]) (by kernel_rfl) (by simp) ?_
    refine AllReady.cons rfl ?_ AllReady.nil
    intro K hK
    subst hA
    go_simp
    go_wp2_with ((go_at_call 17; refine (PA.out _ Bc.out).mono ?_; rintro e wa ⟨va, rfl, hv, hb⟩; replace kc := (hb.cell (p := ⟨w6.heap.size, 1, none⟩) zc).trans kc; replace zc := Nat.lt_of_lt_of_le zc hb.size; replace Bc : Hid (Below w5.heap.size w5 wa) := Bc.out.trans (hb.mono Bc.out.size); have H21a := (show Hid _ from hb); have V1 : Hid (∀ X, Below wa.heap.size wa X → PgsV psa q2.bt va X) := fun X h => hv.below h; clear hb hv))
    refine wpAny_gen fun A hA => ?_
    refine wpAny_ready (rs := [13]) (by kernel_rfl) (by simp) ?_
    refine AllReady.cons rfl ?_ AllReady.nil
    intro K hK
    subst hA
    go_simp
    go_wp2_with ((go_at_call 17; refine (PB.out _ Bc.out).mono ?_; rintro e wb ⟨vb, rfl, hv, hb⟩; replace kc := (hb.cell (p := ⟨w6.heap.size, 1, none⟩) zc).trans kc; replace zc := Nat.lt_of_lt_of_le zc hb.size; replace Bc : Hid (Below w5.heap.size w5 wb) := Bc.out.trans (hb.mono Bc.out.size); have H21b := (show Hid _ from hb); have V2 : Hid (∀ X, Below wb.heap.size wb X → PgsV psb q3.bt vb X) := fun X h => hv.below h; clear hb hv))
    refine wpAny_gen fun A hA => ?_
    refine wpAny_ready (rs := [14]) (by kernel_rfl) (by simp) ?_
    refine AllReady.cons rfl ?_ AllReady.nil
    intro K hK
    subst hA
    go_simp
    go_wp2_with ((go_at_call 16; refine (PP.out _ va vb (V1.out _ H21b.out) (V2.out _ (Below.refl _ _))).mono ?_; rintro e wd ⟨rfl, hb⟩; replace kc := (hb.cell (p := ⟨w6.heap.size, 1, none⟩) zc).trans kc; replace zc := Nat.lt_of_lt_of_le zc hb.size; replace Bc : Hid (Below w5.heap.size w5 wd) := Bc.out.trans (hb.mono Bc.out.size); clear hb))
    refine wpAny_take (i := 15) (v := ?_) rfl (by kernel_rfl) (by kernel_rfl) (by kernel_rfl) (fun _ _ _ h => h) (Or.inl ⟨by rfl, ?_⟩) ?_
    case refine_2 => ((intro w; go_simp) <;> with_reducible rfl)
    refine wpAny_take (i := 16) (v := ?_) rfl (by kernel_rfl) (by kernel_rfl) (by kernel_rfl) (fun _ _ _ h => h) (Or.inl ⟨by rfl, ?_⟩) ?_
    case refine_2 => ((intro w; go_simp) <;> with_reducible rfl)
    refine wpAny_take (i := 17) (v := ?_) rfl (by kernel_rfl) (by kernel_rfl) (by kernel_rfl) (fun _ _ _ h => h) (Or.inl ⟨by rfl, ?_⟩) ?_
    case refine_2 => ((intro w; go_simp) <;> with_reducible rfl)
    refine wpAny_take (i := 18) (v := ?_) rfl (by kernel_rfl) (by kernel_rfl) (by kernel_rfl) (fun _ _ _ h => h) (Or.inl ⟨by rfl, ?_⟩) ?_
    case refine_2 => ((intro w; go_simp) <;> with_reducible rfl)
    refine wpAny_gen fun A hA => ?_
    refine wpAny_ready (rs := [19]) (by kernel_rfl) (by simp) ?_
    refine AllReady.cons rfl ?_ AllReady.nil
    intro K hK
    subst hA
    go_simp
    refine hK _ _ ?_
    clear hK K
    refine wpAny_take (i := 20) (v := ?_) rfl (by kernel_rfl) (by kernel_rfl) (by kernel_rfl) (fun _ _ _ h => h) (Or.inl ⟨by rfl, ?_⟩) ?_
    case refine_2 => ((intro w; go_simp) <;> with_reducible rfl)
    refine wpAny_take (i := 21) (v := ?_) rfl (by kernel_rfl) (by kernel_rfl) (by kernel_rfl) (fun _ _ _ h => h) (Or.inl ⟨by rfl, ?_⟩) ?_
    case refine_2 => ((intro w; go_simp) <;> with_reducible rfl)
    refine wpAny_take (i := 22) (v := ?_) rfl (by kernel_rfl) (by kernel_rfl) (by kernel_rfl) (fun _ _ _ h => h) (Or.inl ⟨by rfl, ?_⟩) ?_
    case refine_2 => ((intro w; go_simp) <;> with_reducible rfl)
    refine wpAny_gen fun A hA => ?_
    refine wpAny_ready (rs := [23]) (by kernel_rfl) (by simp) ?_
    refine AllReady.cons rfl ?_ AllReady.nil
    intro K hK
    subst hA
    go_simp
    go_wp2_with ((go_at_call 11; refine (SM.out _ Bc.out).mono ?_; rintro e we ⟨rfl, hb⟩; replace Bc : Hid (Below w5.heap.size w5 we) := Bc.out.trans (hb.mono Bc.out.size); clear hb))
    refine wpAny_take (i := 24) (v := ?_) rfl (by kernel_rfl) (by kernel_rfl) (by kernel_rfl) (fun _ _ _ h => h) (Or.inl ⟨by rfl, ?_⟩) ?_
    case refine_2 => ((intro w; go_simp) <;> with_reducible rfl)
    refine wpAny_take (i := 25) (v := ?_) rfl (by kernel_rfl) (by kernel_rfl) (by kernel_rfl) (fun _ _ _ h => h) (Or.inl ⟨by rfl, ?_⟩) ?_
    case refine_2 => ((intro w; go_simp) <;> with_reducible rfl)
    refine wpAny_done (by kernel_rfl) ?_ _
    go_wp2
    go_ret
    exact ⟨rfl, FIN.out _ Bc.out⟩
end
section
open Go.RowKit Go.Shelf
theorem parts4_all {s : Sx} {a0 ai pa : Option Addr} {n0 c0 ni ci pl pc : Nat} {Y0 Yi : Nat → Int} {k p : Nat → Int} {ao : Nat → Option Addr} {bl bc : Nat → Nat} {Y : Nat → Nat → Int} {n more : Int} {w : World} (hT : Tab w) (hP : PgArg w (.slice pa pl pc) pl k p ao bl bc Y) (h0 : ByA w (.slice a0 n0 c0) n0 Y0) (h1 : ByA w (.slice ai ni ci) ni Yi) (hYi : ∀ j, 0 ≤ Yi j ∧ Yi j < 256) (hx : ∀ r, U64 (s.x r)) (hpc : U64 s.pc) (hn0 : n0 ≤ 1099511000000) (hni : ni ≤ 1099511627776) : Calls Tryd.prog 4 #[.agg (cs4 s (.slice a0 n0 c0) (.slice pa pl pc) (.slice ai ni ci) n).toArray, .int .i64 more] w fun e w' => e = .returned (.bool true) ∧ Below w.heap.size w w' := by
  by_cases hb : 0 ≤ n ∧ n ≤ 5000 ∧ 0 ≤ more ∧ more ≤ 5000
  · cases hr : srB s ni
    · exact parts4_err hT hb (by omega : ¬ (1 : Int) = 0) fun W _ => new12_wrong hr
    · by_cases he : errE pl k p bl = 0
      · have hsr := hr
        unfold srB at hsr
        simp only [Bool.and_eq_true, decide_eq_true_eq] at hsr
        have hl : pl ≤ 4096 := by
          unfold errE at he
          split at he
          · cases he
          · omega
        have hf : fromE k p bl pl = 0 := by
          unfold errE at he
          rw [if_neg (by omega)] at he
          exact he
        obtain ⟨nN, rfl⟩ : ∃ nN : Nat, n = nN := ⟨n.toNat, by omega⟩
        obtain ⟨mN, rfl⟩ : ∃ mN : Nat, more = mN := ⟨more.toNat, by omega⟩
        exact parts4_good hT (by omega) (by omega) hP.by_ hYi ⟨hx, hpc, hsr.2.2.2.2.2.1⟩ (by omega) hn0 hl hsr.1 (fromE_al pl hf) fun W hW => new12_good hr (hP.below hW) he (h0.below hW) (by omega) (h1.below hW) hni
      · exact parts4_err hT hb he fun W hW => new12_pages hr (hP.below hW) he
  · exact parts4_out hT rfl hb
end
end Go.Proofs.YtnmpbihpoefeoaaDoor
