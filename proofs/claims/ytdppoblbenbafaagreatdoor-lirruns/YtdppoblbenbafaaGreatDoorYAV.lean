/- One step: memory is asked for; a function is called. One step: a function of the program is called. A block is given back: the call. -/
import Derived.Test.YtdppoblbenbafaaGreatDoorYAT
import Derived.Test.YtdppoblbenbafaaGreatDoorYAU
namespace Go.Proofs.YtdppoblbenbafaaGreatDoor
section
open Go.RowKit Go.Shelf
variable {p : List Fun} {pp : Option Addr} {pc : Nat} {W0 : World} {R m1 m2 : Nat} {r : Rs} {C ca P pa : Nat} {gl : List (Nat × Cal)} {gp : List (Nat × Par)} {W : World} {s : St} {tq : Nat} {lq : List (Nat × Cal)} {c : Cal} {f : Fun} {bl : Blk} {i : Ins} {g1 o1 bc g2 o2 ic : Nat}
theorem own_sl {W : World} {B : Nat} {e : TypeId} {size n : Nat} {v : Value} {xs : List Value} (h : W.ownsRow B e size v (n + 1) xs) : ∃ C ca, v = .slice (some ⟨C, 0, none⟩) (n + 1) ca ∧ B ≤ C := by
  obtain ⟨_, ⟨_, h2⟩ | ⟨g, cap, cur, e1, e2, _⟩⟩ := h
  · omega
  · exact ⟨g, cap, e1, e2⟩
theorem flP_snoc (gp : List (Nat × Par)) (x : Nat × Par) (hx : ¬ x.2.kd = 0) : flP ((gp ++ [x]).map ptO) = flP (gp.map ptO) ++ [.int .i64 x.2.kd, .int .i64 x.2.ad, .slice (some ⟨x.1, 0, none⟩) x.2.ws.length x.2.ws.length] := by
  unfold flP
  rw [List.map_append, List.flatMap_append]
  simp [ptO, hx, ptC]
theorem rep_map (n : Nat) : (List.replicate n (0 : Int)).map (Value.int .i64) = List.replicate n (.int .i64 0) := by simp
theorem RelD.parts_lt (h : RelD p pp pc W0 R m1 m2 r C ca P pa gl gp W s) : ∀ x ∈ gp, ¬ x.2.kd = 0 → x.1 < W.heap.size := fun x hx hk => (h.wd x hx hk).2.1.lt
theorem RelD.calls_lt (h : RelD p pp pc W0 R m1 m2 r C ca P pa gl gp W s) : ∀ x ∈ gl, x.1 < W.heap.size := fun x hx => (h.rg x hx).2.lt
/-- A part of memory has begun. -/
theorem RelD.part (h : RelD p pp pc W0 R m1 m2 r C ca P pa gl gp W s) {pv : Value} {g : Nat} {W' : World} (n : Nat) (k : Onl (fun b => b = R ∨ r.pv.ownBlock = some b) W W') (hR : Rb W' R { r with pv := pv, hp := r.hp + n, nx := r.nx + 8 * ((n : Int) + 1) }) (ho : W'.ownsRow W0.heap.size 174 3 pv (gp.length + 1) (flP (gp.map ptO) ++ [.int .i64 2, .int .i64 r.nx, .slice (some ⟨g, 0, none⟩) n n])) (hg : Bk W' g 2 (List.replicate n (.int .i64 0))) (hgl : W.heap.size ≤ g) : GoD p pp pc W0 R m1 m2 W' { s with ps := s.ps ++ [⟨2, s.nx, List.replicate n 0⟩], hp := s.hp + n, nx := s.nx + 8 * ((n : Int) + 1) } := by
  obtain ⟨P', pa', ep, hP'⟩ := own_sl ho
  have k' : Onl (fun b => b = R ∨ b = P ∨ b = C) W W' := k.mono fun b hb => by
    rcases hb with hb | hb
    · exact .inl hb
    · rw [h.pv] at hb; cases hb; exact .inr (.inl rfl)
  obtain ⟨c0, cs, hC⟩ := h.bC
  obtain ⟨p0, ps, hP⟩ := h.bP
  have hs := h.bel.size
  refine ⟨_, C, ca, P', pa', gl, gp ++ [(g, ⟨2, s.nx, List.replicate n 0⟩)], h.make k' hR rfl rfl rfl rfl rfl h.cv ?_ ?_ ?_ (fun x hx => ⟨(h.rg x hx).1, h.rgs k' (h.rg x hx).2⟩) h.nd ?_ ?_ h.ls ?_ h.en ?_ ?_ h.fin h.cd h.st rfl rfl⟩
  · refine own_onl h.co k (fun b hb => ?_)
    rw [h.cv] at hb
    cases hb
    rintro (e | e)
    · exact hC.ne h.rb (by decide) e
    · rw [h.pv] at e; cases e; exact hP.ne hC (by decide) rfl
  · rw [List.length_append]; exact ep
  · rw [flP_snoc _ _ (by simp), List.length_append]
    simp only [List.length_replicate, List.length_singleton]
    rw [← h.nx]
    exact ho
  · intro x hx hk
    rcases List.mem_append.1 hx with hx | hx
    · obtain ⟨t1, t2, t3⟩ := h.wd x hx hk
      exact ⟨t1, h.rgs k' t2, t3⟩
    · simp only [List.mem_singleton] at hx
      subst hx
      refine ⟨Nat.le_trans hs hgl, ?_, fun e => ?_⟩
      · show Bk W' g 2 _
        rw [rep_map]
        exact hg
      · obtain ⟨y, hy, ey⟩ := List.mem_map.1 e
        have := h.calls_lt y hy
        rw [ey] at this
        have : g < W.heap.size := this
        omega
  · rw [List.filter_append, List.map_append, List.nodup_append]
    refine ⟨h.wn, by simp [lvG], fun a ha b hb => ?_⟩
    obtain ⟨y, hy, ey⟩ := List.mem_map.1 ha
    obtain ⟨hy1, hy2⟩ := List.mem_filter.1 hy
    have h1 := h.parts_lt y hy1 (by simpa [lvG] using hy2)
    simp [lvG] at hb
    omega
  · rw [List.map_append, h.gs]; rfl
  · show r.nx + _ = s.nx + _; rw [h.nx]
  · show r.hp + _ = s.hp + _; rw [h.hp]
theorem call_allocs (h : RelD p pp pc W0 R m1 m2 r C ca P pa ((tq, s.top) :: lq) gp W s) (hn : lq.length < 100000) (hP : InsP W0 W p c f bl i g1 o1 bc g2 o2 ic) (hg : ∀ y ∈ i.gs, 0 ≤ y ∧ y < s.top.rg.length) (hd : i.d = -1 ∨ (0 ≤ i.d ∧ i.d < s.top.rg.length)) (hl : i.gs.length = 1) (hnm : i.nm.data.toList = [114, 116, 46, 97, 108, 108, 111, 99]) (hnx : 0 ≤ s.nx ∧ s.nx ≤ 1099511627776) (hhp : 0 ≤ s.hp ∧ s.hp ≤ 8192) (hgp : gp.length ≤ 1000000) : Calls Tryz.prog 101 #[.pointer (some ⟨R, 0, none⟩), .pointer (some ⟨g2, o2 + c.j * 9, none⟩)] W fun e w' => e = .returned (.tuple #[]) ∧ OutD p pp pc W0 R m1 m2 w' (calS p s i) := by
  have hs := h.stpF
  obtain ⟨a', z, zo, hgs, az, i6⟩ := one_arg hP hl
  obtain ⟨a, va, e1, hva, gva, hal, hvm⟩ := reg_in s.top (hg a' (by rw [hgs]; simp))
  have i1 := hP.ce 1 _ rfl
  have i5 := hP.ce 5 _ rfl
  rw [nm_of hnm] at i5
  rw [e1] at az
  have evs : (i.gs.map (getR s.top)).getD 0 0 = va := by rw [hgs]; simp [gva]
  by_cases hb : va < 0 ∨ 64 < va ∨ 8192 < s.hp + va
  · have e : calS p s i = .inr ⟨1, 110, s.out, s.st⟩ := by
      unfold calS
      rw [if_neg (by rw [hnm]; decide), if_neg (by rw [hnm]; decide), if_pos hnm]
      simp only [evs]
      rw [if_pos hb]
    rw [e]
    refine call_alloc R C ca lq.length g2 (o2 + c.j * 9) i.ac s.top.rg.length s.top.rg.length tq z zo a va i.d 0 (fun W' => ∃ W1 k, RelD p pp pc W0 R m1 m2 r C ca P pa ((tq, s.top) :: lq) gp W1 s ∧ W' = ((W1.setCell ⟨R, 9, none⟩ (.int .i64 1)).setCell ⟨R, 10, none⟩ (.int .i64 110)).drewN k) _ W hs.h3 (by omega) hs.c1 hal (hs.qv a va hva) az i1 i5 i6 ?_ ?_
    · intro W' hbl
      have hx := h.grow hbl
      refine (alloc_bad R va r W' hx.rb (by rw [h.hp]; exact hhp.1) (by rw [h.hp]; omega) (by rw [h.hp]; exact hb)).mono ?_
      rintro e w' ⟨rfl, k, rfl⟩
      refine ⟨rfl, ?_, W', k, hx, rfl⟩
      have hbR : Below W0.heap.size W' (((W'.setCell ⟨R, 9, none⟩ (.int .i64 1)).setCell ⟨R, 10, none⟩ (.int .i64 110)).drewN k) := Onl.below hx.bel.size (Below.refl _ _) ((((Onl.of_below (Below.refl _ _)).set (S := fun b => b = R) rfl).set rfl).drewN k) (fun b e => by rw [e]; exact h.rB)
      exact hP.cell_on ((hbl.mono h.bel.size).trans hbR) rfl
    · rintro W' ⟨W1, k, hx, rfl⟩
      have hy := hx.stpF
      obtain ⟨q0, hQ⟩ := hx.rg (tq, s.top) (by simp)
      have nqR : tq ≠ R := hQ.ne hx.rb (by decide)
      have kR : Onl (fun b => b = R) W1 (((W1.setCell ⟨R, 9, none⟩ (.int .i64 1)).setCell ⟨R, 10, none⟩ (.int .i64 110)).drewN k) := (((Onl.of_below (Below.refl _ _)).set (S := fun b => b = R) rfl).set rfl).drewN k
      have hR' : Rb (((W1.setCell ⟨R, 9, none⟩ (.int .i64 1)).setCell ⟨R, 10, none⟩ (.int .i64 110)).drewN k) R { r with fin := 1, cd := 110 } := (hx.rb.set 9 (.int .i64 1)).set 10 (.int .i64 110)
      have hO : (((W1.setCell ⟨R, 9, none⟩ (.int .i64 1)).setCell ⟨R, 10, none⟩ (.int .i64 110)).drewN k).ownsRow W0.heap.size 5 1 r.ov s.out.length (Lib.byteCells s.out) := own_onl hx.ov kR (fun g hg e => by
        obtain ⟨_, os, hO⟩ := hx.bO hg
        exact hO.ne hx.rb (by decide) e)
      have hbl : Below W0.heap.size W0 (((W1.setCell ⟨R, 9, none⟩ (.int .i64 1)).setCell ⟨R, 10, none⟩ (.int .i64 110)).drewN k) := Onl.below (Nat.le_refl _) hx.bel kR (fun b e => by rw [e]; exact h.rB)
      rcases hd with hd | hd
      · rw [hd]
        refine (answer_none R 0 _).mono ?_
        rintro e w' ⟨rfl, rfl⟩
        exact ⟨rfl, _, hbl, h.rB, hR', rfl, rfl, h.st, hO⟩
      · obtain ⟨n, hnd⟩ : ∃ n : Nat, i.d = n := ⟨i.d.toNat, by omega⟩
        have hnl : n < s.top.rg.length := by omega
        rw [hnd]
        have hQ' : RgB (((W1.setCell ⟨R, 9, none⟩ (.int .i64 1)).setCell ⟨R, 10, none⟩ (.int .i64 110)).drewN k) tq s.top.rg := hQ.onl kR (fun e => nqR e)
        have c1' : (((W1.setCell ⟨R, 9, none⟩ (.int .i64 1)).setCell ⟨R, 10, none⟩ (.int .i64 110)).drewN k).cell? ⟨C, lq.length * 7 + 1, none⟩ = some (.slice (some ⟨tq, 0, none⟩) s.top.rg.length s.top.rg.length) := (World.cell?_of_block (kR.block C (World.block_lt_of_cell? _ _ hy.c1) (fun e => hy.nRC e.symm))).trans hy.c1
        have h3' : (((W1.setCell ⟨R, 9, none⟩ (.int .i64 1)).setCell ⟨R, 10, none⟩ (.int .i64 110)).drewN k).cell? ⟨R, 3, none⟩ = some (.slice (some ⟨C, 0, none⟩) (lq.length + 1) ca) := by
          have t := hR'.cell (j := 3) rfl
          rw [t, show ({ r with fin := 1, cd := 110 } : Rs).cv = r.cv from rfl, h.cv]
          rfl
        refine (answer53g R C ca lq.length tq s.top.rg.length s.top.rg.length n 0 s.top.rg[n] _ h3' (by omega) c1' hnl (hQ'.at (List.getElem?_eq_getElem hnl)) (hQ'.fz n)).mono ?_
        rintro e w' ⟨rfl, k2, rfl⟩
        have kq : Onl (fun b => b = tq) (((W1.setCell ⟨R, 9, none⟩ (.int .i64 1)).setCell ⟨R, 10, none⟩ (.int .i64 110)).drewN k) (((((W1.setCell ⟨R, 9, none⟩ (.int .i64 1)).setCell ⟨R, 10, none⟩ (.int .i64 110)).drewN k).drewN k2).setCell ⟨tq, n, none⟩ (.int .i64 0)) := (onl_drew _ k2 _).set rfl
        refine ⟨rfl, _, Onl.below (Nat.le_refl _) hbl kq (fun b e => by rw [e]; exact q0), h.rB, hR'.onl kq (fun e => nqR e.symm), rfl, rfl, h.st, own_onl hO kq (fun g hg e => ?_)⟩
        obtain ⟨_, os, hOb⟩ := own_block hO hg
        exact hOb.ne hQ' (by decide) e
  · obtain ⟨n, hnv⟩ : ∃ n : Nat, va = n := ⟨va.toNat, by omega⟩
    have e : calS p s i = .inl { s with top := setR s.top i.d s.nx, ps := s.ps ++ [⟨2, s.nx, List.replicate n 0⟩], hp := s.hp + n, nx := s.nx + 8 * ((n : Int) + 1) } := by
      unfold calS
      rw [if_neg (by rw [hnm]; decide), if_neg (by rw [hnm]; decide), if_pos hnm]
      simp only [evs]
      rw [if_neg hb, hnv]
      simp
    rw [e]
    refine call_alloc R C ca lq.length g2 (o2 + c.j * 9) i.ac s.top.rg.length s.top.rg.length tq z zo a va i.d s.nx (fun W' => GoD p pp pc W0 R m1 m2 W' { s with ps := s.ps ++ [⟨2, s.nx, List.replicate n 0⟩], hp := s.hp + n, nx := s.nx + 8 * ((n : Int) + 1) }) _ W hs.h3 (by omega) hs.c1 hal (hs.qv a va hva) az i1 i5 i6 ?_ ?_
    · intro W' hbl
      have hx := h.grow hbl
      rw [hnv]
      refine (alloc_ok R W0.heap.size gp.length n r (flP (gp.map ptO)) W' hx.rb hx.po hx.bel.size hgp (by rw [h.nx]; exact hnx.1) (by rw [h.nx]; exact hnx.2) (by rw [h.hp]; exact hhp.1) (by omega) (by rw [h.hp]; omega)).mono ?_
      rintro e w' ⟨rfl, g, pv, k, q1, q2, q3, q4⟩
      have hbR : Below W0.heap.size W' w' := Onl.below hx.bel.size (Below.refl _ _) k (fun b e => by
        rcases e with e | e
        · rw [e]; exact h.rB
        · exact own_base hx.po e)
      refine ⟨by rw [h.nx], hP.cell_on ((hbl.mono h.bel.size).trans hbR) rfl, hx.part n k q1 q2 q3 q4⟩
    · rintro W' ⟨r', C', ca', P', pa', gl', gp', hx⟩
      refine answer_any hx ?_ i.d s.nx hd
      have := congrArg List.length hx.ls
      have t := congrArg List.length h.ls
      simp only [List.length_map, List.length_cons] at this t
      omega
end
section
open Go.RowKit Go.Shelf
variable {p : List Fun} {pp : Option Addr} {pc : Nat} {W0 : World} {R m1 m2 : Nat} {r : Rs} {C ca P pa : Nat} {gl : List (Nat × Cal)} {gp : List (Nat × Par)} {W : World} {s : St} {tq : Nat} {lq : List (Nat × Cal)} {c : Cal} {f : Fun} {bl : Blk} {i : Ins} {g1 o1 bc g2 o2 ic : Nat}
theorem look52i (r i : Nat) (k : ByteArray) (v : Int) (es : Array MapEntry) (c : Nat) (W : World) (hr : W.heap[r]? = some (.map es c)) (hf : Instr.findNow .string (.string k) es.toList 0 = some (some (i, .int .i64 v))) : (Instr.lookup 58 (.map (some r)) (.string k) false).run Tryz.prog W = .ok (.int .i64 v) W := by
  unfold Instr.lookup
  simp [Sem.run_bind, run_underlying und59, run_getObj_map W r es c hr, check9, Go.MapKept.run_findKey Tryz.underlying9 hf]
/-- The function with a name stands at its number. -/
theorem ixE_find (s : ByteArray) (x : Fun) : ∀ (ps : List Fun), fnOf ps s = some x → ∃ k, ps[k]? = some x ∧ (ps.findIdx? fun y => decide (y.h.nm = s)) = some k ∧ ∀ n i, ∃ j, Instr.findNow .string (.string s) (ixE n ps) i = some (some (j, .int .i64 ((n + k : Nat) : Int)))
  | [], h => by cases h
  | y :: r, h => by
    obtain ⟨b, hb, hiff⟩ := Go.MapKept.sameNow_of_keys (d := .string) (a := .string s) (b := .string y.h.nm) trivial trivial
    unfold fnOf at h
    rw [List.find?_cons] at h
    split at h
    · rename_i he
      have e : y.h.nm = s := by simpa using he
      have : b = true := hiff.2 (by rw [e])
      subst this
      cases h
      exact ⟨0, rfl, by rw [List.findIdx?_cons]; simp [e], fun n i => ⟨i, by simp [ixE, Instr.findNow, hb]⟩⟩
    · rename_i hne
      have : b = false := by
        cases b with
        | false => rfl
        | true => have t := hiff.1 rfl; simp at t hne; exact absurd t.symm hne
      subst this
      obtain ⟨k, h1, h2, h3⟩ := ixE_find s x r h
      refine ⟨k + 1, by simpa using h1, ?_, fun n i => ?_⟩
      · rw [List.findIdx?_cons]
        simp only [hne, h2]
        rfl
      · obtain ⟨j, hj⟩ := h3 (n + 1) (i + 1)
        exact ⟨j, by simp [ixE, Instr.findNow, hb, hj]; omega⟩
/-- A call has begun. -/
theorem RelD.entered (h : RelD p pp pc W0 R m1 m2 r C ca P pa gl gp W s) {k : Nat} {vs : List Int} {an : Int} {W' : World} (hvl : vs.length ≤ rgOf p k) (hE : EnP R W0.heap.size gl.length gp.length (rgOf p k) (frOf p k) (bvOf p k) an r (rowV p gl) (flP (gp.map ptO)) (vs.map (Value.int .i64) ++ List.replicate (rgOf p k - vs.length) (.int .i64 0)) W W') : GoD p pp pc W0 R m1 m2 W' (entS p s s.top k vs an) := by
  obtain ⟨cv, pv, gw, k0, hR, ho, hpo, hq, hg, hgl⟩ := hE.out
  obtain ⟨C', ca', ec, hC'⟩ := own_sl ho
  obtain ⟨P', pa', ep, hP'⟩ := own_sl hpo
  have k' : Onl (fun b => b = R ∨ b = P ∨ b = C) W W' := k0.mono fun b hb => by
    rcases hb with hb | hb | hb
    · exact .inl hb
    · rw [h.pv] at hb; cases hb; exact .inr (.inl rfl)
    · rw [h.cv] at hb; cases hb; exact .inr (.inr rfl)
  have hs := h.bel.size
  have hlen : (vs ++ List.replicate (rgOf p k - vs.length) 0).length = rgOf p k := by simp; omega
  have hq' : RgB W' (W.heap.size + 1) (vs ++ List.replicate (rgOf p k - vs.length) 0) := by
    show Bk W' _ 2 _
    rw [List.map_append, rep_map]
    exact hq
  refine ⟨_, C', ca', P', pa', (W.heap.size + 1, ⟨k, vs ++ List.replicate (rgOf p k - vs.length) 0, s.nx, 0, 0, an⟩) :: gl, gp ++ [(gw, ⟨1, s.nx, List.replicate (frOf p k) 0⟩)], h.make k' hR rfl rfl rfl rfl rfl ec ?_ ?_ ?_ ?_ ?_ ?_ ?_ ?_ ?_ h.en ?_ h.hp h.fin h.cd h.st rfl rfl⟩
  · rw [rowV]
    unfold calV
    simp only [hlen]
    rw [← h.nx]
    exact ho
  · rw [List.length_append]; exact ep
  · rw [flP_snoc _ _ (by simp), List.length_append]
    simp only [List.length_replicate, List.length_singleton]
    rw [← h.nx]
    exact hpo
  · intro x hx
    rcases List.mem_cons.1 hx with rfl | hx
    · exact ⟨by omega, hq'⟩
    · exact ⟨(h.rg x hx).1, h.rgs k' (h.rg x hx).2⟩
  · rw [List.map_cons, List.nodup_cons]
    refine ⟨fun e => ?_, h.nd⟩
    obtain ⟨y, hy, ey⟩ := List.mem_map.1 e
    have := h.calls_lt y hy
    omega
  · intro x hx hk
    rcases List.mem_append.1 hx with hx | hx
    · obtain ⟨t1, t2, t3⟩ := h.wd x hx hk
      refine ⟨t1, h.rgs k' t2, fun e => ?_⟩
      rw [List.map_cons, List.mem_cons] at e
      rcases e with e | e
      · have := t2.lt; simp only [] at e; omega
      · exact t3 e
    · simp only [List.mem_singleton] at hx
      subst hx
      refine ⟨by show _ ≤ gw; omega, ?_, fun e => ?_⟩
      · show Bk W' gw 2 _
        rw [rep_map]
        exact hg
      · rw [List.map_cons, List.mem_cons] at e
        rcases e with e | e
        · simp only [] at e; omega
        · obtain ⟨y, hy, ey⟩ := List.mem_map.1 e
          have := h.calls_lt y hy
          have : y.1 = gw := ey
          omega
  · rw [List.filter_append, List.map_append, List.nodup_append]
    refine ⟨h.wn, by simp [lvG], fun a ha b hb => ?_⟩
    obtain ⟨y, hy, ey⟩ := List.mem_map.1 ha
    obtain ⟨hy1, hy2⟩ := List.mem_filter.1 hy
    have h1 := h.parts_lt y hy1 (by simpa [lvG] using hy2)
    simp [lvG] at hb
    omega
  · rw [List.map_cons, h.ls]; rfl
  · rw [List.map_append, h.gs]; rfl
  · show r.nx + _ = s.nx + _; rw [h.nx]
/-- A function as it lies. -/
theorem fn_cells (hI : FunA W pp pc p) {k : Nat} {f : Fun} (hk : p[k]? = some f) (hF : FnF f) : ∃ g o, pp = some ⟨g, o, none⟩ ∧ W.cell? ⟨g, o + k * 5, none⟩ = some (.string f.h.nm) ∧ W.cell? ⟨g, o + k * 5 + 1, none⟩ = some (.int .i64 f.h.pa) ∧ W.cell? ⟨g, o + k * 5 + 2, none⟩ = some (.int .i64 ((rgOf p k : Nat) : Int)) ∧ W.cell? ⟨g, o + k * 5 + 3, none⟩ = some (.int .i64 ((frOf p k : Nat) : Int)) ∧ W.cell? ⟨g, o + k * 5 + 4, none⟩ = some (.slice f.h.ba f.h.bl f.h.bc) ∧ bvOf p k = .slice f.h.ba f.h.bl f.h.bc := by
  have hlt := (List.getElem?_eq_some_iff.1 hk).1
  obtain ⟨g, o, e, hc⟩ := hI.2.2.2 (by omega)
  have c0 := hc k f hk 0 _ rfl
  rw [Nat.add_zero] at c0
  have e1 : ((rgOf p k : Nat) : Int) = f.h.rg := by unfold rgOf; rw [hk]; have := hF.rg; have := hF.pa; simp; omega
  have e2 : ((frOf p k : Nat) : Int) = f.h.fr := by unfold frOf; rw [hk]; have := hF.fr; simp; omega
  exact ⟨g, o, e, c0, hc k f hk 1 _ rfl, by rw [e1]; exact hc k f hk 2 _ rfl, by rw [e2]; exact hc k f hk 3 _ rfl, hc k f hk 4 _ rfl, by unfold bvOf; rw [hk]; rfl⟩
theorem rg_le {k : Nat} {f : Fun} (hk : p[k]? = some f) (hF : FnF f) : rgOf p k ≤ 4096 ∧ frOf p k ≤ 4096 ∧ f.h.pa ≤ rgOf p k := by
  unfold rgOf frOf
  rw [hk]
  have := hF.rg
  have := hF.fr
  have := hF.pa
  simp
  omega
theorem call_fns (h : RelD p pp pc W0 R m1 m2 r C ca P pa ((tq, s.top) :: lq) gp W s) (hn : lq.length < 100000) (hI : FunA W0 pp pc p) (hpr : prB p = true) (hP : InsP W0 W p c f bl i g1 o1 bc g2 o2 ic) (hg : ∀ y ∈ i.gs, 0 ≤ y ∧ y < s.top.rg.length) (hrt : rtA i.nm.data.toList = none) (hca : calB i.nm.data.toList i.gs.length (fdF p i.nm) = true) (hnx : 0 ≤ s.nx ∧ s.nx ≤ 1099511627776) (hgp : gp.length ≤ 1000000) : Calls Tryz.prog 101 #[.pointer (some ⟨R, 0, none⟩), .pointer (some ⟨g2, o2 + c.j * 9, none⟩)] W fun e w' => e = .returned (.tuple #[]) ∧ OutD p pp pc W0 R m1 m2 w' (calS p s i) := by
  have hs := h.stpF
  have i1 := hP.ce 1 _ rfl
  have i5 := hP.ce 5 _ rfl
  have i6 := hP.ce 6 _ rfl
  have r1 := h.rb.cell (j := 1) rfl
  rw [h.fm] at r1
  -- whose name it is
  unfold calB at hca
  rw [hrt] at hca
  unfold fdF at hca
  obtain ⟨f', hf'⟩ : ∃ f', fnOf p i.nm = some f' := by
    cases hf : fnOf p i.nm with
    | none => rw [hf] at hca; simp at hca
    | some f' => exact ⟨f', rfl⟩
  rw [hf'] at hca
  simp only [Option.map_some, decide_eq_true_eq] at hca
  obtain ⟨k, hk, hix, hfind⟩ := ixE_find i.nm f' p hf'
  have hixk : ixOf p i.nm = k := by unfold ixOf; rw [hix]; rfl
  obtain ⟨hF, _⟩ := prog_fn hpr hk
  obtain ⟨hm, hfr, hpa⟩ := rg_le hk hF
  have hls : i.gs.length ≤ 7 := by have := hF.pa; omega
  -- its names are not the runtime's
  have nn : ∀ l : List UInt8, rtA l ≠ none → (i.nm.toList == l) = false := fun l hl => by
    rw [ByteArray.toList_eq]
    cases hb : i.nm.data.toList == l with
    | false => rfl
    | true => rw [eq_of_beq hb] at hrt; exact absurd hrt hl
  have nn' : ∀ l : List UInt8, rtA l ≠ none → ¬ i.nm.data.toList = l := fun l hl e => by rw [e] at hrt; exact hl hrt
  have e : calS p s i = .inl (entS p s s.top k (i.gs.map (getR s.top)) i.d) := by
    unfold calS
    rw [if_neg (nn' _ (by decide)), if_neg (nn' _ (by decide)), if_neg (nn' _ (by decide)), if_neg (nn' _ (by decide)), hixk]
  rw [e]
  obtain ⟨vs, hvs⟩ : ∃ vs, vs = i.gs.map (getR s.top) := ⟨_, rfl⟩
  rw [← hvs]
  have hvl : vs.length = i.gs.length := by rw [hvs, List.length_map]
  obtain ⟨m1c, hm1⟩ := h.h1
  have hlk : ∀ W', Below W.heap.size W W' → (Instr.lookup 58 (.map (some m1)) (.string i.nm) false).run Tryz.prog W' = .ok (.int .i64 k) W' := fun W' hb => by
    obtain ⟨j, hj⟩ := hfind 0 0
    rw [Nat.zero_add] at hj
    exact look52i m1 j i.nm k _ m1c W' ((hb.block m1 (Array.getElem?_eq_some_iff.1 hm1).1).trans hm1) (by simpa using hj)
  have hen : ∀ W', Below W.heap.size W W' → ∀ (al : Nat), al = vs.length → Bk W' W.heap.size 2 (vs.map fun u => .int .i64 u) → Calls Tryz.prog 68 #[.pointer (some ⟨R, 0, none⟩), .int .i64 k, .slice (some ⟨W.heap.size, 0, none⟩) al al, .int .i64 i.d] W' fun e w' => e = .returned (.tuple #[]) ∧ OutD p pp pc W0 R m1 m2 w' (.inl (entS p s s.top k vs i.d)) := by
    intro W' hb al hal hbk
    have hx := h.grow hb
    have hI' := hI.below hx.bel
    obtain ⟨g, o, epp, f0, f1, f2, f3, f4, hbv⟩ := fn_cells hI' hk hF
    obtain ⟨W2, hW2⟩ : ∃ W2, W2 = ((W'.alloc (.cells #[.string f'.h.nm, .int .i64 f'.h.pa, .int .i64 ((rgOf p k : Nat) : Int), .int .i64 ((frOf p k : Nat) : Int), .slice f'.h.ba f'.h.bl f'.h.bc] 27)).alloc (.cells (Array.replicate (rgOf p k) (.int .i64 0)) 2)) := ⟨_, rfl⟩
    have hh : Bk W2 (W'.heap.size + 1) 2 (List.replicate (rgOf p k) (.int .i64 0)) := by
      have t := Bk.new (W'.alloc (.cells #[.string f'.h.nm, .int .i64 f'.h.pa, .int .i64 ((rgOf p k : Nat) : Int), .int .i64 ((frOf p k : Nat) : Int), .slice f'.h.ba f'.h.bl f'.h.bc] 27)) (List.replicate (rgOf p k) (.int .i64 0)) 2
      rw [hW2]
      simpa using t
    have hbk2 : Bk W2 W.heap.size 2 (vs.map fun u => .int .i64 u) := by rw [hW2]; exact (hbk.alloc _).alloc _
    obtain ⟨V, hcp, hV, hVq⟩ := copy_args W2 (W'.heap.size + 1) W.heap.size (rgOf p k) al (vs.map fun u => .int .i64 u) hh hbk2 (by rw [List.length_map]; exact hal.symm) (by omega) (by intro v hv; obtain ⟨u, _, rfl⟩ := List.mem_map.1 hv; rfl)
    rw [hW2] at hcp hV
    refine (enter18g R W0.heap.size k (lq.length + 1) gp.length g o p.length pc (rgOf p k) (frOf p k) f'.h.bl f'.h.bc f'.h.ba f'.h.nm f'.h.pa i.d al (.slice (some ⟨W.heap.size, 0, none⟩) al al) r (rowV p ((tq, s.top) :: lq)) (flP (gp.map ptO)) (vs.map (fun u => .int .i64 u) ++ List.replicate (rgOf p k - al) (.int .i64 0)) W' V hx.rb (by rw [← epp]; exact h.pg) (List.getElem?_eq_some_iff.1 hk).1 f0 f1 f2 f3 f4 hx.co hx.po hx.bel.size hm hfr (by omega) hgp (by rw [h.nx]; exact hnx.1) (by rw [h.nx]; exact hnx.2) hcp hV hVq).mono ?_
    rintro e w' ⟨rfl, hE⟩
    refine ⟨rfl, hx.entered (by omega) ?_⟩
    rw [hbv, ← hal]
    exact hE
  by_cases h0 : i.gs.length = 0
  · have hv0 : vs = [] := List.length_eq_zero_iff.1 (by omega)
    rw [h0] at i6
    refine call_enter0 R C ca lq.length g2 (o2 + c.j * 9) i.ac k m1 i.ar i.nm i.d (fun w' => OutD p pp pc W0 R m1 m2 w' (.inl (entS p s s.top k vs i.d))) W hs.h3 (by omega) i1 i5 i6 (nn _ (by decide)) (nn _ (by decide)) (nn _ (by decide)) (nn _ (by decide)) r1 hlk ?_
    intro W' hb hbk
    exact hen W' hb 0 (by omega) (by rw [hv0]; exact hbk)
  · obtain ⟨_, _, har⟩ := hP.ar
    obtain ⟨z, zo, ez, hz⟩ := har (by omega)
    rw [ez] at i6
    have gsN : ∀ t, t < i.gs.length → ∃ n : Nat, i.gs[t]? = some (n : Int) ∧ n < s.top.rg.length := fun t ht => by
      have := hg _ (List.getElem_mem ht)
      exact ⟨i.gs[t].toNat, by rw [List.getElem?_eq_getElem ht]; congr 1; omega, by omega⟩
    refine call_enter R C ca lq.length g2 (o2 + c.j * 9) i.ac i.gs.length s.top.rg.length s.top.rg.length tq z zo k m1 i.nm (fun t => (i.gs.getD t 0).toNat) vs i.d (fun w' => OutD p pp pc W0 R m1 m2 w' (.inl (entS p s s.top k vs i.d))) W hs.h3 (by omega) (by omega) hvl hs.c1 ?_ ?_ ?_ i1 i5 i6 (nn _ (by decide)) (nn _ (by decide)) (nn _ (by decide)) (nn _ (by decide)) r1 hlk ?_
    · intro t ht
      obtain ⟨n, h1, h2⟩ := gsN t ht
      simp only [List.getD_eq_getElem?_getD, h1, Option.getD_some]
      omega
    · intro t u hu
      rw [hvs, List.getElem?_map] at hu
      obtain ⟨y, hy, ey⟩ := Option.map_eq_some_iff.1 hu
      have hyb := hg y (List.mem_of_getElem? hy)
      obtain ⟨n, v, e1, hv, gv, hl, _⟩ := reg_in s.top hyb
      simp only [List.getD_eq_getElem?_getD, hy, Option.getD_some, e1, Int.toNat_natCast]
      rw [← ey, gv]
      exact hs.qv n v hv
    · intro t ht
      obtain ⟨n, h1, h2⟩ := gsN t ht
      have := hz t _ h1
      simp only [List.getD_eq_getElem?_getD, h1, Option.getD_some, Int.toNat_natCast]
      exact this
    · intro W' hb hbk
      exact hen W' hb i.gs.length hvl.symm hbk
end
section
open Go.RowKit Go.Shelf
set_option maxRecDepth 20000
set_option maxHeartbeats 4000000
theorem call_free (R C ca n x o ac al m rc q z zo : Nat) (f0 f1 : Int) (T : World → Prop) (gs : Nat → Nat) (vs : List Int) (d : Int) (Q : World → Prop) (w : World) (h3 : w.cell? ⟨R, 3, none⟩ = some (.slice (some ⟨C, 0, none⟩) (n + 1) ca)) (hn : n < 1000000) (hal : al ≤ 4096) (hvl : vs.length = al) (c1 : w.cell? ⟨C, n * 7 + 1, none⟩ = some (.slice (some ⟨q, 0, none⟩) m rc)) (ha : ∀ t, t < al → gs t < m) (qa : ∀ t u, vs[t]? = some u → w.cell? ⟨q, gs t, none⟩ = some (.int .i64 u)) (az : ∀ t, t < al → w.cell? ⟨z, zo + t, none⟩ = some (.int .i64 (gs t))) (i1 : w.cell? ⟨x, o + 1, none⟩ = some (.int .i64 d)) (i5 : w.cell? ⟨x, o + 5, none⟩ = some (.string ⟨#[114, 116, 46, 102, 114, 101, 101]⟩)) (i6 : w.cell? ⟨x, o + 6, none⟩ = some (.slice (some ⟨z, zo, none⟩) al ac)) (hv : vs = [f0, f1]) (hop : ∀ W, Below w.heap.size w W → Calls Tryz.prog 136 #[.pointer (some ⟨R, 0, none⟩), .int .i64 f0, .int .i64 f1] W fun e w' => e = .returned (.int .i64 0) ∧ w'.cell? ⟨x, o + 1, none⟩ = some (.int .i64 d) ∧ T w') (han : ∀ W, T W → Calls Tryz.prog 132 #[.pointer (some ⟨R, 0, none⟩), .int .i64 d, .int .i64 0] W fun e w' => e = .returned (.tuple #[]) ∧ Q w') : Calls Tryz.prog 101 #[.pointer (some ⟨R, 0, none⟩), .pointer (some ⟨x, o, none⟩)] w fun e w' => e = .returned (.tuple #[]) ∧ Q w' := by
  have hI : Hid (Calls Tryz.prog 98 #[.pointer (some ⟨R, 0, none⟩)] w fun e w' => e = .returned (.pointer (some ⟨C, n * 7, none⟩)) ∧ ∃ k, w' = w.drewN k) := innermost41g R C ca n w h3 hn
  have HOp : Hid (∀ W, Below w.heap.size w W → Calls Tryz.prog 136 #[.pointer (some ⟨R, 0, none⟩), .int .i64 f0, .int .i64 f1] W fun e w' => e = .returned (.int .i64 0) ∧ w'.cell? ⟨x, o + 1, none⟩ = some (.int .i64 d) ∧ T w') := hop
  have HAn : Hid (∀ W, T W → Calls Tryz.prog 132 #[.pointer (some ⟨R, 0, none⟩), .int .i64 d, .int .i64 0] W fun e w' => e = .returned (.tuple #[]) ∧ Q w') := han
  have HV2 : Hid (vs = [f0, f1]) := hv
  have HF : Hid (∀ W, Below w.heap.size w W → W.cell? ⟨C, n * 7 + 1, none⟩ = some (.slice (some ⟨q, 0, none⟩) m rc) ∧ W.cell? ⟨x, o + 1, none⟩ = some (.int .i64 d) ∧ W.cell? ⟨x, o + 5, none⟩ = some (.string ⟨#[114, 116, 46, 102, 114, 101, 101]⟩) ∧ W.cell? ⟨x, o + 6, none⟩ = some (.slice (some ⟨z, zo, none⟩) al ac) ∧ (∀ t u, vs[t]? = some u → W.cell? ⟨q, gs t, none⟩ = some (.int .i64 u)) ∧ (∀ t, t < al → W.cell? ⟨z, zo + t, none⟩ = some (.int .i64 (gs t)))) := fun W hW => by
    have key : ∀ b t v, w.cell? ⟨b, t, none⟩ = some v → W.cell? ⟨b, t, none⟩ = some v := fun b t v h => by rw [hW.cell (p := ⟨b, t, none⟩) (World.block_lt_of_cell? _ _ h)]; exact h
    exact ⟨key _ _ _ c1, key _ _ _ i1, key _ _ _ i5, key _ _ _ i6, fun t u h => key _ _ _ (qa t u h), fun t h => key _ _ _ (az t h)⟩
  have HL : Hid (C < w.heap.size ∧ x < w.heap.size) := ⟨World.block_lt_of_cell? _ _ c1, World.block_lt_of_cell? _ _ i1⟩
  have HA : Hid (∀ t, t < al → gs t < m) := ha
  have HVL : Hid (vs.length = al) := hvl
  have mk : ∀ W, (Instr.makeSlice 107 (.int .i64 al) (.int .i64 al)).run Tryz.prog W = .ok (.slice (some ⟨W.heap.size, 0, none⟩) al al) (W.alloc (.cells (Array.replicate al (.int .i64 0)) 2)) := fun W => by have := mkI al W hal; simpa using this
  clear hop han hv h3 c1 qa az i1 i5 i6 ha hvl hn
  go_enter Tryz.func101, Tryz.ntmps101
  go_wp2_with fail
  refine hI.out.mono ?_
  rintro e w1 ⟨rfl, n9, hw1⟩
  have HB1 : Hid (Below w.heap.size w w1) := by show Below _ _ _; rw [hw1]; exact below_drewN (Below.refl _ _) n9
  have HS1 : Hid (w1.heap.size = w.heap.size) := by show _ = _; rw [hw1]; rfl
  obtain ⟨k1, k2, k3, k4, k6, k7⟩ := HF.out w1 HB1.out
  obtain ⟨a1, a2, a3, a4, a6, a7⟩ := HF.out (w1.alloc (.cells (Array.replicate al (.int .i64 0)) 2)) (HB1.out.alloc HB1.out.size _)
  clear hw1 k6 k7 a6 a7
  go_wp2
  go_loopw [21] (fun i wx => ∃ t : Nat, t ≤ al ∧ i = .int .i64 t ∧ ArgI w w1.heap.size al t vs wx) (fun i _ => al - (intOf i).toNat)
  case atStart =>
    exact ⟨0, Nat.zero_le _, rfl, HB1.out.alloc HB1.out.size _, List.replicate al (.int .i64 0), by unfold Bk; simpa using (Go.MapKept.heap_alloc w1 (.cells (Array.replicate al (.int .i64 0)) 2)).1, by simp, fun s u h => absurd h (Nat.not_lt_zero _)⟩
  case round =>
    obtain ⟨t, ht, rfl, hbel, cs, hbk, hcl, hcs⟩ := hrel
    have HBx : Hid (Below w.heap.size w wr) := hbel
    have HCx : Hid (Bk wr w1.heap.size 2 cs ∧ cs.length = al ∧ ∀ s u, s < t → vs[s]? = some u → cs[s]? = some (.int .i64 u)) := ⟨hbk, hcl, hcs⟩
    obtain ⟨b1, b2, b3, b4, b6, b7⟩ := HF.out wr hbel
    clear hbel hbk hcl hcs a1 a2 a3 a4 k1 k2 k3 k4
    by_cases hlt : t < al
    · obtain ⟨u, hu⟩ : ∃ u, vs[t]? = some u := ⟨_, List.getElem?_eq_getElem (by have := HVL.out; omega)⟩
      have HU : Hid (vs[t]? = some u) := hu
      have q1 := b6 t u hu
      have q2 := b7 t hlt
      have q3 : (gs t : Int) < m := by have := HA.out t hlt; omega
      have q4 : gs t < m := HA.out t hlt
      have hlt' : (t : Int) < al := by omega
      obtain ⟨c9, hc9⟩ : ∃ v, cs[t]? = some v := ⟨_, List.getElem?_eq_getElem (by have := HCx.out.2.1; omega)⟩
      have x1 := HCx.out.1.cell hc9
      have x2 := HCx.out.1.fz t
      have e1 : IntKind.i64.wrap ((t : Int) + 1) = (t : Int) + 1 := wrapI _ (by omega) (by omega)
      clear hu b6 b7 hc9
      go_wp2
      go_round
      case rel =>
        refine ⟨t + 1, by omega, by go_num, below_grown (Nat.le_refl _) HBx.out (grown_set wr w1.heap.size t _) (fun k e => by cases e; exact Nat.le_of_eq HS1.out.symm), _, HCx.out.1.set t _, by simpa using HCx.out.2.1, fun s v hs hv => ?_⟩
        by_cases he : t = s
        · subst he
          rw [HU.out] at hv
          cases hv
          rw [List.getElem?_set_self (by have := HCx.out.2.1; omega)]
        · rw [List.getElem?_set_ne he]
          exact HCx.out.2.2 s v (by omega) hv
      case measure => simp [intOf]; omega
    · obtain rfl : al = t := by omega
      have HFin : Hid (Bk wr w.heap.size 2 (vs.map fun u => .int .i64 u)) := by
        have h := args_all HVL.out HCx.out.2.1 HCx.out.2.2
        show Bk _ _ _ _
        rw [← h, ← HS1.out]
        exact HCx.out.1
      have hlt' : ¬ (al : Int) < al := by omega
      have hal2 : (al : Int) = 2 := by have := HVL.out; rw [HV2.out] at this; simp at this; omega
      have hF2 := HFin.out
      rw [HV2.out, ← HS1.out] at hF2
      have y0 := hF2.cell (j := 0) rfl
      have y1 := hF2.cell (j := 1) rfl
      clear hF2 b6 b7 b4 b1
      go_wp2
      go_region_with (first | (go_at_call 136; refine (HOp.out _ (by first | exact HBx.out | exact HBx.out.drew)).mono ?_; rintro e w3 ⟨rfl, dx, hT⟩; have HT : Hid (T w3) := hT; clear hT) | (go_at_call 132; refine (HAn.out _ HT.out).mono ?_; rintro e w5 ⟨rfl, hq⟩))
      all_goals (
        go_wp2
        go_returns
        exact ⟨rfl, hq⟩)
end
end Go.Proofs.YtdppoblbenbafaaGreatDoor
