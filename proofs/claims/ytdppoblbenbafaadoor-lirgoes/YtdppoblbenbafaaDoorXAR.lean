/- One step: the runtime's functions. One step: what is printed, read, asked for. A function of the program, called. A function of the program, called without arguments. Arguments become a call's first registers. -/
import Derived.Test.YtdppoblbenbafaaDoorXAP
import Derived.Test.YtdppoblbenbafaaDoorXAQ
import Derived.Test.YtdppoblbenbafaaDoorXAK
import Derived.Test.YtdppoblbenbafaaDoorXAI
import Derived.Test.YtdppoblbenbafaaDoorXAD
import Derived.Test.YtdppoblbenbafaaDoorXAJ
import Derived.Laws.CopyRow
namespace Go.Proofs.YtdppoblbenbafaaDoor
section
open Go.RowKit Go.Shelf
variable {p : List Fun} {pp : Option Addr} {pc : Nat} {W0 : World} {R m1 m2 : Nat} {r : Rs} {C ca P pa : Nat} {gl : List (Nat × Cal)} {gp : List (Nat × Par)} {W : World} {s : St} {tq : Nat} {lq : List (Nat × Cal)}
theorem RelD.grow (h : RelD p pp pc W0 R m1 m2 r C ca P pa gl gp W s) {W' : World} (hb : Below W.heap.size W W') : RelD p pp pc W0 R m1 m2 r C ca P pa gl gp W' s := by
  obtain ⟨tq, lq, rfl, h2⟩ := h.hd
  exact h.regs (q := tq) (Onl.of_below hb) (by simp) rfl (own_onl h.co (Onl.of_below (S := fun _ => False) hb) (fun _ _ h => h)) (fun x hx => (h.rg x hx).2.onl (Onl.of_below (S := fun _ => False) hb) (fun h => h)) h.ls rfl rfl rfl rfl rfl rfl rfl
/-- What makes calls and parts anew. -/
theorem RelD.make (h : RelD p pp pc W0 R m1 m2 r C ca P pa gl gp W s) {r' : Rs} {C' ca' P' pa' : Nat} {gl' : List (Nat × Cal)} {gp' : List (Nat × Par)} {W' : World} {s' : St} (k : Onl (fun b => b = R ∨ b = P ∨ b = C) W W') (hR : Rb W' R r') (a1 : r'.pg = r.pg) (a2 : r'.fm = r.fm) (a3 : r'.om = r.om) (a4 : r'.iv = r.iv) (a5 : r'.ov = r.ov) (cv : r'.cv = .slice (some ⟨C', 0, none⟩) gl'.length ca') (co : W'.ownsRow W0.heap.size 81 7 r'.cv gl'.length (rowV p gl')) (pv : r'.pv = .slice (some ⟨P', 0, none⟩) gp'.length pa') (po : W'.ownsRow W0.heap.size 96 3 r'.pv gp'.length (flP (gp'.map ptO))) (rg : ∀ x ∈ gl', W0.heap.size ≤ x.1 ∧ RgB W' x.1 x.2.rg) (nd : (gl'.map (·.1)).Nodup) (wd : ∀ x ∈ gp', ¬ x.2.kd = 0 → W0.heap.size ≤ x.1 ∧ RgB W' x.1 x.2.ws ∧ x.1 ∉ gl'.map (·.1)) (wn : ((gp'.filter lvG).map (·.1)).Nodup) (ls : gl'.map (·.2) = s'.top :: s'.low) (gs : gp'.map (·.2) = s'.ps) (en : r'.en = s'.en) (nx : r'.nx = s'.nx) (hp : r'.hp = s'.hp) (fin : r'.fin = 0) (cd : r'.cd = 0) (st : r'.st = s'.st) (e1 : s'.inp = s.inp) (e2 : s'.out = s.out) : RelD p pp pc W0 R m1 m2 r' C' ca' P' pa' gl' gp' W' s' := by
  obtain ⟨c0, cs, hC⟩ := h.bC
  obtain ⟨p0, ps, hP⟩ := h.bP
  obtain ⟨m1c, hm1⟩ := h.h1
  have hS : ∀ b, (b = R ∨ b = P ∨ b = C) → W0.heap.size ≤ b := fun b hb => by rcases hb with rfl | rfl | rfl; exact h.rB; exact p0; exact c0
  refine ⟨Onl.below (Nat.le_refl _) h.bel k hS, h.rB, hR, by rw [a1]; exact h.pg, by rw [a2]; exact h.fm, by rw [a3]; exact h.om, ⟨m1c, ?_⟩, ?_, cv, co, pv, po, rg, nd, wd, wn, ls, gs, en, nx, hp, fin, cd, st, ?_, ?_⟩
  · rw [k.block m1 (Array.getElem?_eq_some_iff.1 hm1).1 (by rintro (e | e | e); exact bk_nmap h.rb hm1 e.symm; exact bk_nmap hP hm1 e.symm; exact bk_nmap hC hm1 e.symm)]; exact hm1
  · rw [k.block m2 (Array.getElem?_eq_some_iff.1 h.h2).1 (by rintro (e | e | e); exact bk_nmap h.rb h.h2 e.symm; exact bk_nmap hP h.h2 e.symm; exact bk_nmap hC h.h2 e.symm)]; exact h.h2
  · rw [a4, e1]
    exact h.iv.below (Onl.below h.bel.size (Below.refl _ _) k hS)
  · rw [a5, e2]
    refine own_onl h.ov k (fun g hg => ?_)
    obtain ⟨_, os, hO⟩ := h.bO hg
    rintro (e | e | e)
    · exact hO.ne h.rb (by decide) e
    · exact hO.ne hP (by decide) e
    · exact hO.ne hC (by decide) e
/-- Registers stay behind such a step. -/
theorem RelD.rgs (h : RelD p pp pc W0 R m1 m2 r C ca P pa gl gp W s) {W' : World} (k : Onl (fun b => b = R ∨ b = P ∨ b = C) W W') {b : Nat} {l : List Int} (hb : RgB W b l) : RgB W' b l := by
  obtain ⟨c0, cs, hC⟩ := h.bC
  obtain ⟨p0, ps, hP⟩ := h.bP
  refine hb.onl k ?_
  rintro (e | e | e)
  · exact hb.ne h.rb (by decide) e
  · exact hb.ne hP (by decide) e
  · exact hb.ne hC (by decide) e
/-- A register of the innermost call is set. -/
theorem RelD.setq (h : RelD p pp pc W0 R m1 m2 r C ca P pa ((tq, s.top) :: lq) gp W s) (d : Nat) (v : Int) : RelD p pp pc W0 R m1 m2 r C ca P pa ((tq, { s.top with rg := s.top.rg.set d v }) :: lq) gp (W.setCell ⟨tq, d, none⟩ (.int .i64 v)) { s with top := { s.top with rg := s.top.rg.set d v } } := by
  obtain ⟨c0, cs, hC⟩ := h.bC
  obtain ⟨q0, hQ⟩ := h.rg (tq, s.top) (by simp)
  have hls := h.ls
  simp only [List.map_cons, List.cons.injEq] at hls
  refine h.regs (q := tq) ((Onl.of_below (Below.refl _ _)).set (S := fun b => b = C ∨ b = tq) (.inr rfl)) (by simp) (by simp) ?_ ?_ (by simp [hls.2]) rfl rfl rfl rfl rfl rfl rfl
  · have e : rowV p ((tq, { s.top with rg := s.top.rg.set d v }) :: lq) = rowV p ((tq, s.top) :: lq) := by
      rw [rowV, rowV, calV_rg p tq s.top _ (by simp)]
    rw [e]
    refine own_set h.co (fun e => ?_)
    rw [h.cv] at e
    cases e
    exact hQ.ne hC (by decide) rfl
  · intro y hy
    rcases List.mem_cons.1 hy with rfl | hy
    · exact RgB.set hQ d v
    · have n1 := h.nd
      simp only [List.map_cons, List.nodup_cons] at n1
      exact ((h.rg y (by simp [hy])).2.other (fun e => n1.1 (by rw [← e]; exact List.mem_map.2 ⟨y, hy, rfl⟩)))
theorem answer_any (h : RelD p pp pc W0 R m1 m2 r C ca P pa gl gp W s) (hn : gl.length ≤ 1000000) (d v : Int) (hd : d = -1 ∨ (0 ≤ d ∧ d < s.top.rg.length)) : Calls Tryd.prog 53 #[.pointer (some ⟨R, 0, none⟩), .int .i64 d, .int .i64 v] W fun e w' => e = .returned (.tuple #[]) ∧ OutD p pp pc W0 R m1 m2 w' (.inl { s with top := setR s.top d v }) := by
  obtain ⟨tq, lq, rfl, h2⟩ := h.hd
  rcases hd with rfl | hd
  · refine (answer_none R v W).mono ?_
    rintro e w' ⟨rfl, rfl⟩
    rw [show setR s.top (-1) v = s.top from rfl]
    exact ⟨rfl, _, _, _, _, _, _, _, h⟩
  · obtain ⟨n, rfl⟩ : ∃ n : Nat, d = n := ⟨d.toNat, by omega⟩
    have hs := h.stpF
    have hnl : n < s.top.rg.length := by omega
    refine (answer53g R C ca lq.length tq s.top.rg.length s.top.rg.length n v s.top.rg[n] W hs.h3 (by simp at hn; omega) hs.c1 hnl (hs.qv n _ (List.getElem?_eq_getElem hnl)) (hs.qz n)).mono ?_
    rintro e w' ⟨rfl, k, rfl⟩
    rw [setR_nat]
    exact ⟨rfl, _, _, _, _, _, _, _, (h.drew k).setq n v⟩
theorem kept_obj {e : TypeId} {w w' : World} {b : Nat} {es : Array MapEntry} {c : Nat} {x : Option Nat} (h : Lib.OthersKept e x w w') (hb : w.heap[b]? = some (.map es c)) (hn : some b ≠ x) : w'.heap[b]? = some (.map es c) := h b _ hb hn (fun c fz e => by cases e)
/-- A number is printed. -/
theorem RelD.printed (h : RelD p pp pc W0 R m1 m2 r C ca P pa gl gp W s) {W' : World} {ov : Value} {l : List UInt8} (hb : Below W0.heap.size W W') (hk : Lib.OthersKept 5 (some R) W W') (hR : Rb W' R { r with ov := ov }) (ho : W'.ownsRow W0.heap.size 5 1 ov (s.out.length + l.length) (Lib.byteCells (s.out ++ l))) : RelD p pp pc W0 R m1 m2 { r with ov := ov } C ca P pa gl gp W' { s with out := s.out ++ l } := by
  obtain ⟨c0, cs, hC, h1, h2, h3, h4⟩ := own_bk h.co h.cv
  obtain ⟨p0, ps, hP, j1, j2, j3, j4⟩ := own_bk h.po h.pv
  obtain ⟨m1c, hm1⟩ := h.h1
  have nR : ∀ {b t cs}, Bk W b t cs → t ≠ 60 → t ≠ 5 → Bk W' b t cs := fun hbk ht h5 => kept_cell hk hbk (fun e => by cases e; exact hbk.ne h.rb ht rfl) h5
  refine ⟨h.bel.trans hb, h.rB, hR, h.pg, h.fm, h.om, ⟨m1c, kept_obj hk hm1 (fun e => by cases e; exact bk_nmap h.rb hm1 rfl)⟩, kept_obj hk h.h2 (fun e => by cases e; exact bk_nmap h.rb h.h2 rfl), h.cv, ?_, h.pv, ?_, fun x hx => ⟨(h.rg x hx).1, nR (h.rg x hx).2 (by decide) (by decide)⟩, h.nd, fun x hx hx0 => ?_, h.wn, h.ls, h.gs, h.en, h.nx, h.hp, h.fin, h.cd, h.st, h.iv.below hb, ?_⟩
  · rw [show ({ r with ov := ov } : Rs).cv = r.cv from rfl, h.cv]
    exact own_of c0 (nR hC (by decide) (by decide)) h1 h2 h3 h4
  · rw [show ({ r with ov := ov } : Rs).pv = r.pv from rfl, h.pv]
    exact own_of p0 (nR hP (by decide) (by decide)) j1 j2 j3 j4
  · obtain ⟨t1, t2, t3⟩ := h.wd x hx hx0
    exact ⟨t1, nR t2 (by decide) (by decide), t3⟩
  · rw [show ({ s with out := s.out ++ l } : St).out = s.out ++ l from rfl, List.length_append]
    exact ho
theorem do_call (h : RelD p pp pc W0 R m1 m2 r C ca P pa ((tq, s.top) :: lq) gp W s) (hn : lq.length < 1000000) {f : Fun} {bl : Blk} {i : Ins} (hj : s.top.j < 1000000) {g1 o1 bc g2 o2 ic : Nat} (hP : InsP W0 W p s.top f bl i g1 o1 bc g2 o2 ic) (hop : i.op = 7) (hc : ∀ W', RelD p pp pc W0 R m1 m2 r C ca P pa ((tq, { s.top with j := s.top.j + 1 }) :: lq) gp W' { s with top := { s.top with j := s.top.j + 1 } } → InsP W0 W' p s.top f bl i g1 o1 bc g2 o2 ic → Calls Tryd.prog 44 #[.pointer (some ⟨R, 0, none⟩), .pointer (some ⟨g2, o2 + s.top.j * 9, none⟩)] W' fun e w' => e = .returned (.tuple #[]) ∧ OutD p pp pc W0 R m1 m2 w' (calS p { s with top := { s.top with j := s.top.j + 1 } } i)) (hins : ∀ W', Below W0.heap.size W0 W' → InsP W0 W' p s.top f bl i g1 o1 bc g2 o2 ic) : Calls Tryd.prog 22 #[.pointer (some ⟨R, 0, none⟩), .pointer (some ⟨g2, o2 + s.top.j * 9, none⟩)] W fun e w' => e = .returned (.tuple #[]) ∧ OutD p pp pc W0 R m1 m2 w' (stpS p s i) := by
  have hs := h.stpF
  obtain ⟨c0, _⟩ := h.bC
  have i0 := hP.ce 0 _ rfl
  rw [hop] at i0
  have e : stpS p s i = calS p { s with top := { s.top with j := s.top.j + 1 } } i := by
    unfold stpS
    rw [if_neg (by omega), if_neg (by omega), if_neg (by omega), if_neg (by omega), if_neg (by omega), if_neg (by omega), if_pos hop]
  rw [e]
  refine do_call22g R C ca lq.length g2 (o2 + s.top.j * 9) s.top.j (fun w' => OutD p pp pc W0 R m1 m2 w' (calS p { s with top := { s.top with j := s.top.j + 1 } } i)) W hs.h3 hn hs.c5 (hs.z _) hj i0 ?_ (by have := hP.lt; omega) hs.nRC
  intro k
  exact hc _ (h.next k) (hins _ (h.next k).bel)
end
section
open Go.RowKit Go.Shelf
variable {p : List Fun} {pp : Option Addr} {pc : Nat} {W0 : World} {R m1 m2 : Nat} {r : Rs} {C ca P pa : Nat} {gl : List (Nat × Cal)} {gp : List (Nat × Par)} {W : World} {s : St} {tq : Nat} {lq : List (Nat × Cal)} {c : Cal} {f : Fun} {bl : Blk} {i : Ins} {g1 o1 bc g2 o2 ic : Nat}
theorem reg_in (c : Cal) {a : Int} (h : 0 ≤ a ∧ a < c.rg.length) : ∃ (n : Nat) (v : Int), a = (n : Int) ∧ c.rg[n]? = some v ∧ getR c a = v ∧ n < c.rg.length ∧ v ∈ c.rg := by
  have hn : a.toNat < c.rg.length := by omega
  refine ⟨a.toNat, c.rg[a.toNat], by omega, List.getElem?_eq_getElem hn, ?_, hn, List.getElem_mem hn⟩
  unfold getR
  rw [if_neg (by omega), List.getD_eq_getElem?_getD, List.getElem?_eq_getElem hn]
  rfl
theorem InsP.cell_on (hP : InsP W0 W p c f bl i g1 o1 bc g2 o2 ic) {W' : World} (hb : Below W0.heap.size W W') {t : Nat} {v : Value} (ht : (inC i)[t]? = some v) : W'.cell? ⟨g2, o2 + c.j * 9 + t, none⟩ = some v := (World.cell?_of_block (hb.block g2 hP.lt)).trans (hP.ce t v ht)
/-- What the table of powers is asked for. -/
def PwT (W0 : World) : Prop := Lib.TabBelow Tryd.prog W0.heap.size W0 "internal/strconv.uint64pow10" .u64 Lib.pow10Tab
theorem one_arg (hP : InsP W0 W p c f bl i g1 o1 bc g2 o2 ic) (hl : i.gs.length = 1) : ∃ a z zo, i.gs = [a] ∧ W.cell? ⟨z, zo, none⟩ = some (.int .i64 a) ∧ W.cell? ⟨g2, o2 + c.j * 9 + 6, none⟩ = some (.slice (some ⟨z, zo, none⟩) 1 i.ac) := by
  obtain ⟨a, ha⟩ : ∃ a, i.gs = [a] := by
    match h : i.gs with
    | [a] => exact ⟨a, rfl⟩
    | [] => rw [h] at hl; cases hl
    | _ :: _ :: _ => rw [h] at hl; simp at hl
  obtain ⟨_, _, h3⟩ := hP.ar
  obtain ⟨g, o, e, hk⟩ := h3 (by omega)
  have t := hP.ce 6 _ rfl
  rw [e, hl] at t
  exact ⟨a, g, o, ha, by have := hk 0 a (by rw [ha]; rfl); simpa using this, t⟩
theorem call_prints (h : RelD p pp pc W0 R m1 m2 r C ca P pa ((tq, s.top) :: lq) gp W s) (hn : lq.length < 100000) (hP : InsP W0 W p c f bl i g1 o1 bc g2 o2 ic) (hg : ∀ y ∈ i.gs, 0 ≤ y ∧ y < s.top.rg.length) (hr : ∀ v ∈ s.top.rg, I64 v) (hd : i.d = -1 ∨ (0 ≤ i.d ∧ i.d < s.top.rg.length)) (hl : i.gs.length = 1) (hnm : i.nm.data.toList = [114, 116, 46, 112, 114, 105, 110, 116]) (ho : s.out.length ≤ 1000000000) (hT : PwT W0) : Calls Tryd.prog 44 #[.pointer (some ⟨R, 0, none⟩), .pointer (some ⟨g2, o2 + c.j * 9, none⟩)] W fun e w' => e = .returned (.tuple #[]) ∧ OutD p pp pc W0 R m1 m2 w' (calS p s i) := by
  have hs := h.stpF
  obtain ⟨a', z, zo, hgs, az, i6⟩ := one_arg hP hl
  obtain ⟨a, va, e1, hva, gva, hal, hvm⟩ := reg_in s.top (hg a' (by rw [hgs]; simp))
  obtain ⟨v0, v1⟩ := hr va hvm
  have i1 := hP.ce 1 _ rfl
  have i5 := hP.ce 5 _ rfl
  rw [nm_of hnm] at i5
  rw [e1] at az
  have e : calS p s i = .inl { s with top := setR s.top i.d 0, out := s.out ++ (Lib.itoa va ++ [10]) } := by
    unfold calS
    rw [if_pos hnm, hgs]
    simp [gva]
  rw [e]
  refine call_print R C ca lq.length g2 (o2 + c.j * 9) i.ac s.top.rg.length s.top.rg.length tq z zo a va i.d 0 (fun W' => ∃ r', RelD p pp pc W0 R m1 m2 r' C ca P pa ((tq, s.top) :: lq) gp W' { s with out := s.out ++ (Lib.itoa va ++ [10]) }) _ W hs.h3 (by omega) hs.c1 hal (hs.qv a va hva) az i1 i5 i6 ?_ ?_
  · intro W' hb
    have hx := h.grow hb
    have hb0 : Below W0.heap.size W W' := hb.mono h.bel.size
    refine (print54g R W0.heap.size s.out.length va r (Lib.byteCells s.out) W' hx.rb hx.rB hx.ov hx.bel.size ho v0 v1 (hT.on hx.bel)).mono ?_
    rintro e w' ⟨rfl, ov, q1, q2, q3, q4⟩
    refine ⟨rfl, hP.cell_on (hb0.trans q3) rfl, _, hx.printed q3 q4 q1 ?_⟩
    rw [Lib.byteCells_append, Lib.byteCells_append, show (Lib.itoa va ++ ([10] : List UInt8)).length = (Lib.itoa va).length + 1 by simp, ← Nat.add_assoc]
    exact q2
  · rintro W' ⟨r', hx⟩
    exact answer_any hx (by simp only [List.length_cons]; omega) i.d 0 hd
theorem InV.tail {W0 W : World} {v : Value} {b : UInt8} {l : List UInt8} (h : InV W0 W v (b :: l)) : ∃ g o c, v = .slice (some ⟨g, o, none⟩) (l.length + 1) (c + 1) ∧ l.length ≤ c ∧ W.cell? ⟨g, o, none⟩ = some (.int .u8 b.toNat) ∧ ∀ q, (0 < l.length → q = o + 1) → ∀ W', Below W0.heap.size W W' → InV W0 W' (.slice (some ⟨g, q, none⟩) l.length c) l := by
  obtain ⟨a, c, e, h1, h2⟩ := h
  obtain ⟨g, o, e2, h3, h4⟩ := h2 (by simp)
  simp only [List.length_cons] at h1 e
  refine ⟨g, o, c - 1, by rw [e, e2, show c - 1 + 1 = c by omega], by omega, by have := h4 0 b rfl; simpa using this, fun q hq W' hb => ⟨_, _, rfl, by omega, fun hl => ⟨g, q, rfl, h3, fun j x hj => ?_⟩⟩⟩
  rw [hq hl, show o + 1 + j = o + (j + 1) by omega, World.cell?_of_block (hb.block g h3)]
  exact h4 (j + 1) x (by simpa using hj)
theorem call_reads (h : RelD p pp pc W0 R m1 m2 r C ca P pa ((tq, s.top) :: lq) gp W s) (hn : lq.length < 100000) (hP : InsP W0 W p c f bl i g1 o1 bc g2 o2 ic) (hd : i.d = -1 ∨ (0 ≤ i.d ∧ i.d < s.top.rg.length)) (hl : i.gs.length = 0) (hnm : i.nm.data.toList = [114, 116, 46, 114, 101, 97, 100]) : Calls Tryd.prog 44 #[.pointer (some ⟨R, 0, none⟩), .pointer (some ⟨g2, o2 + c.j * 9, none⟩)] W fun e w' => e = .returned (.tuple #[]) ∧ OutD p pp pc W0 R m1 m2 w' (calS p s i) := by
  have hs := h.stpF
  have i1 := hP.ce 1 _ rfl
  have i5 := hP.ce 5 _ rfl
  have i6 := hP.ce 6 _ rfl
  rw [hl] at i6
  rw [nm_of hnm] at i5
  have hls := h.ls
  cases hin : s.inp with
  | nil =>
    have e : calS p s i = .inl { s with top := setR s.top i.d (-1), inp := [] } := by
      unfold calS
      rw [if_neg (by rw [hnm]; decide), if_pos hnm, hin]
      rfl
    rw [e]
    refine call_read R C ca lq.length g2 (o2 + c.j * 9) i.ac i.ar i.d (-1) (fun W' => RelD p pp pc W0 R m1 m2 r C ca P pa ((tq, s.top) :: lq) gp W' { s with inp := [] }) _ W hs.h3 (by omega) i1 i5 i6 ?_ ?_
    · intro W' hb
      have hx := h.grow hb
      obtain ⟨a, cc, ev, _⟩ := hx.iv
      rw [hin] at ev
      have r8 := hx.rb.cell (j := 8) rfl
      refine (read_none R a cc W' (by rw [r8, ev]; rfl)).mono ?_
      rintro e w' ⟨rfl, rfl⟩
      refine ⟨rfl, hP.cell_on (hb.mono h.bel.size) rfl, ?_⟩
      rw [← hin]
      exact hx
    · intro W' hx
      exact answer_any hx (by simp only [List.length_cons]; omega) i.d (-1) hd
  | cons b l =>
    have e : calS p s i = .inl { s with top := setR s.top i.d ((b.toNat : Nat) : Int), inp := l } := by
      unfold calS
      rw [if_neg (by rw [hnm]; decide), if_pos hnm, hin]
      rfl
    rw [e]
    refine call_read R C ca lq.length g2 (o2 + c.j * 9) i.ac i.ar i.d ((b.toNat : Nat) : Int) (fun W' => ∃ r', RelD p pp pc W0 R m1 m2 r' C ca P pa ((tq, s.top) :: lq) gp W' { s with inp := l }) _ W hs.h3 (by omega) i1 i5 i6 ?_ ?_
    · intro W' hb
      have hx := h.grow hb
      have hiv := hx.iv
      rw [hin] at hiv
      obtain ⟨g, o, cc, ev, hcl, hcell, hrest⟩ := hiv.tail
      have r8 := hx.rb.cell (j := 8) rfl
      refine (read_one R g o l.length cc b.toNat W' (by rw [r8, ev]) hcl hcell (UInt8.toNat_lt b) (hx.rb.fz 8)).mono ?_
      rintro e w' ⟨rfl, q, hq, rfl⟩
      have hbR : Below W0.heap.size W' (W'.setCell ⟨R, 8, none⟩ (.slice (some ⟨g, q, none⟩) l.length cc)) := Onl.below hx.bel.size (Below.refl _ _) ((Onl.of_below (Below.refl _ _)).set (S := fun b => b = R) rfl) (fun b e => by rw [e]; exact h.rB)
      refine ⟨rfl, hP.cell_on ((hb.mono h.bel.size).trans hbR) rfl, { r with iv := .slice (some ⟨g, q, none⟩) l.length cc }, ?_⟩
      exact hx.run ((Onl.of_below (Below.refl _ _)).set (S := fun b => b = R) rfl) (hx.rb.set 8 _) rfl rfl rfl rfl rfl rfl hx.ls rfl hx.en hx.nx hx.hp (hrest q hq _ hbR) rfl hx.st hx.fin hx.cd
    · rintro W' ⟨r', hx⟩
      exact answer_any hx (by simp only [List.length_cons]; omega) i.d _ hd
end
section
open Go.RowKit Go.Shelf
/-- Arguments, as far as they are laid. -/
structure ArgI (w : World) (g al t : Nat) (vs : List Int) (wx : World) : Prop where
  bel : Below w.heap.size w wx
  bk : ∃ cs, Bk wx g 2 cs ∧ cs.length = al ∧ ∀ s u, s < t → vs[s]? = some u → cs[s]? = some (.int .i64 u)
theorem args_all {vs : List Int} {cs : List Value} {al : Nat} (hv : vs.length = al) (hc : cs.length = al) (h : ∀ s u, s < al → vs[s]? = some u → cs[s]? = some (.int .i64 u)) : cs = vs.map fun u => .int .i64 u := by
  apply List.ext_getElem?
  intro i
  by_cases hi : i < al
  · rw [h i vs[i] hi (List.getElem?_eq_getElem (by omega)), List.getElem?_map, List.getElem?_eq_getElem (by omega)]
    rfl
  · rw [List.getElem?_eq_none (by omega), List.getElem?_eq_none (by simp; omega)]
set_option maxRecDepth 20000 in
set_option maxHeartbeats 4000000 in
theorem call_enter (R C ca n x o ac al m rc q z zo k m1 : Nat) (nm : ByteArray) (gs : Nat → Nat) (vs : List Int) (d : Int) (Q : World → Prop) (w : World) (h3 : w.cell? ⟨R, 3, none⟩ = some (.slice (some ⟨C, 0, none⟩) (n + 1) ca)) (hn : n < 1000000) (hal : al ≤ 4096) (hvl : vs.length = al) (c1 : w.cell? ⟨C, n * 7 + 1, none⟩ = some (.slice (some ⟨q, 0, none⟩) m rc)) (ha : ∀ t, t < al → gs t < m) (qa : ∀ t u, vs[t]? = some u → w.cell? ⟨q, gs t, none⟩ = some (.int .i64 u)) (az : ∀ t, t < al → w.cell? ⟨z, zo + t, none⟩ = some (.int .i64 (gs t))) (i1 : w.cell? ⟨x, o + 1, none⟩ = some (.int .i64 d)) (i5 : w.cell? ⟨x, o + 5, none⟩ = some (.string nm)) (i6 : w.cell? ⟨x, o + 6, none⟩ = some (.slice (some ⟨z, zo, none⟩) al ac)) (n1 : (nm.toList == [114, 116, 46, 112, 114, 105, 110, 116]) = false) (n2 : (nm.toList == [114, 116, 46, 114, 101, 97, 100]) = false) (n3 : (nm.toList == [114, 116, 46, 97, 108, 108, 111, 99]) = false) (n4 : (nm.toList == [114, 116, 46, 102, 114, 101, 101]) = false) (r1 : w.cell? ⟨R, 1, none⟩ = some (.map (some m1))) (hlk : ∀ W, Below w.heap.size w W → (Instr.lookup 52 (.map (some m1)) (.string nm) false).run Tryd.prog W = .ok (.int .i64 k) W) (hop : ∀ W, Below w.heap.size w W → Bk W w.heap.size 2 (vs.map fun u => .int .i64 u) → Calls Tryd.prog 18 #[.pointer (some ⟨R, 0, none⟩), .int .i64 k, .slice (some ⟨w.heap.size, 0, none⟩) al al, .int .i64 d] W fun e w' => e = .returned (.tuple #[]) ∧ Q w') : Calls Tryd.prog 44 #[.pointer (some ⟨R, 0, none⟩), .pointer (some ⟨x, o, none⟩)] w fun e w' => e = .returned (.tuple #[]) ∧ Q w' := by
  have hI : Hid (Calls Tryd.prog 41 #[.pointer (some ⟨R, 0, none⟩)] w fun e w' => e = .returned (.pointer (some ⟨C, n * 7, none⟩)) ∧ ∃ k, w' = w.drewN k) := innermost41g R C ca n w h3 hn
  have HOp : Hid (∀ W, Below w.heap.size w W → Bk W w.heap.size 2 (vs.map fun u => .int .i64 u) → Calls Tryd.prog 18 #[.pointer (some ⟨R, 0, none⟩), .int .i64 k, .slice (some ⟨w.heap.size, 0, none⟩) al al, .int .i64 d] W fun e w' => e = .returned (.tuple #[]) ∧ Q w') := hop
  have HLk : Hid (∀ W, Below w.heap.size w W → (Instr.lookup 52 (.map (some m1)) (.string nm) false).run Tryd.prog W = .ok (.int .i64 k) W) := hlk
  have HF : Hid (∀ W, Below w.heap.size w W → W.cell? ⟨C, n * 7 + 1, none⟩ = some (.slice (some ⟨q, 0, none⟩) m rc) ∧ W.cell? ⟨x, o + 1, none⟩ = some (.int .i64 d) ∧ W.cell? ⟨x, o + 5, none⟩ = some (.string nm) ∧ W.cell? ⟨x, o + 6, none⟩ = some (.slice (some ⟨z, zo, none⟩) al ac) ∧ W.cell? ⟨R, 1, none⟩ = some (.map (some m1)) ∧ (∀ t u, vs[t]? = some u → W.cell? ⟨q, gs t, none⟩ = some (.int .i64 u)) ∧ (∀ t, t < al → W.cell? ⟨z, zo + t, none⟩ = some (.int .i64 (gs t)))) := fun W hW => by
    have key : ∀ b t v, w.cell? ⟨b, t, none⟩ = some v → W.cell? ⟨b, t, none⟩ = some v := fun b t v h => by rw [hW.cell (p := ⟨b, t, none⟩) (World.block_lt_of_cell? _ _ h)]; exact h
    exact ⟨key _ _ _ c1, key _ _ _ i1, key _ _ _ i5, key _ _ _ i6, key _ _ _ r1, fun t u h => key _ _ _ (qa t u h), fun t h => key _ _ _ (az t h)⟩
  have HL : Hid (C < w.heap.size ∧ x < w.heap.size ∧ R < w.heap.size) := ⟨World.block_lt_of_cell? _ _ c1, World.block_lt_of_cell? _ _ i1, World.block_lt_of_cell? _ _ r1⟩
  have HA : Hid (∀ t, t < al → gs t < m) := ha
  have HVL : Hid (vs.length = al) := hvl
  have mk : ∀ W, (Instr.makeSlice 78 (.int .i64 al) (.int .i64 al)).run Tryd.prog W = .ok (.slice (some ⟨W.heap.size, 0, none⟩) al al) (W.alloc (.cells (Array.replicate al (.int .i64 0)) 2)) := fun W => by have := mkI al W hal; simpa using this
  clear hop hlk h3 c1 qa az i1 i5 i6 r1 ha hvl hn
  go_enter Tryd.func44, Tryd.ntmps44
  go_wp2_with fail
  refine hI.out.mono ?_
  rintro e w1 ⟨rfl, n9, hw1⟩
  have HB1 : Hid (Below w.heap.size w w1) := by show Below _ _ _; rw [hw1]; exact below_drewN (Below.refl _ _) n9
  have HS1 : Hid (w1.heap.size = w.heap.size) := by show _ = _; rw [hw1]; rfl
  obtain ⟨k1, k2, k3, k4, k5, k6, k7⟩ := HF.out w1 HB1.out
  obtain ⟨a1, a2, a3, a4, a5, a6, a7⟩ := HF.out (w1.alloc (.cells (Array.replicate al (.int .i64 0)) 2)) (HB1.out.alloc HB1.out.size _)
  clear hw1 k6 k7 a6 a7
  go_wp2
  go_loopw [21] (fun i wx => ∃ t : Nat, t ≤ al ∧ i = .int .i64 t ∧ ArgI w w1.heap.size al t vs wx) (fun i _ => al - (intOf i).toNat)
  case atStart =>
    exact ⟨0, Nat.zero_le _, rfl, HB1.out.alloc HB1.out.size _, List.replicate al (.int .i64 0), by unfold Bk; simpa using (Go.MapKept.heap_alloc w1 (.cells (Array.replicate al (.int .i64 0)) 2)).1, by simp, fun s u h => absurd h (Nat.not_lt_zero _)⟩
  case round =>
    obtain ⟨t, ht, rfl, hbel, cs, hbk, hcl, hcs⟩ := hrel
    have HBx : Hid (Below w.heap.size w wr) := hbel
    have HCx : Hid (Bk wr w1.heap.size 2 cs ∧ cs.length = al ∧ ∀ s u, s < t → vs[s]? = some u → cs[s]? = some (.int .i64 u)) := ⟨hbk, hcl, hcs⟩
    obtain ⟨b1, b2, b3, b4, b5, b6, b7⟩ := HF.out wr hbel
    clear hbel hbk hcl hcs a1 a2 a3 a4 a5 k1 k2 k3 k4 k5
    by_cases hlt : t < al
    · obtain ⟨u, hu⟩ : ∃ u, vs[t]? = some u := ⟨_, List.getElem?_eq_getElem (by have := HVL.out; omega)⟩
      have HU : Hid (vs[t]? = some u) := hu
      have q1 := b6 t u hu
      have q2 := b7 t hlt
      have q3 : (gs t : Int) < m := by have := HA.out t hlt; omega
      have q4 : gs t < m := HA.out t hlt
      have hlt' : (t : Int) < al := by omega
      obtain ⟨c9, hc9⟩ : ∃ v, cs[t]? = some v := ⟨_, List.getElem?_eq_getElem (by have := HCx.out.2.1; omega)⟩
      have x1 := HCx.out.1.cell hc9
      have x2 := HCx.out.1.fz t
      have e1 : IntKind.i64.wrap ((t : Int) + 1) = (t : Int) + 1 := wrapI _ (by omega) (by omega)
      clear hu b6 b7 hc9
      go_wp2
      go_round
      case rel =>
        refine ⟨t + 1, by omega, by go_num, below_grown (Nat.le_refl _) HBx.out (grown_set wr w1.heap.size t _) (fun k e => by cases e; exact Nat.le_of_eq HS1.out.symm), _, HCx.out.1.set t _, by simpa using HCx.out.2.1, fun s v hs hv => ?_⟩
        by_cases he : t = s
        · subst he
          rw [HU.out] at hv
          cases hv
          rw [List.getElem?_set_self (by have := HCx.out.2.1; omega)]
        · rw [List.getElem?_set_ne he]
          exact HCx.out.2.2 s v (by omega) hv
      case measure => simp [intOf]; omega
    · obtain rfl : al = t := by omega
      have HFin : Hid (Bk wr w.heap.size 2 (vs.map fun u => .int .i64 u)) := by
        have h := args_all HVL.out HCx.out.2.1 HCx.out.2.2
        show Bk _ _ _ _
        rw [← h, ← HS1.out]
        exact HCx.out.1
      have hlt' : ¬ (al : Int) < al := by omega
      have l1 := HLk.out wr HBx.out
      have l2 := HLk.out wr.drew HBx.out.drew
      have HOp2 : Hid (∀ W, W = wr ∨ W = wr.drew → Calls Tryd.prog 18 #[.pointer (some ⟨R, 0, none⟩), .int .i64 k, .slice (some ⟨w1.heap.size, 0, none⟩) al al, .int .i64 d] W fun e w' => e = .returned (.tuple #[]) ∧ Q w') := fun W hW => by
        rw [HS1.out]
        rcases hW with rfl | rfl
        · exact HOp.out _ HBx.out HFin.out
        · exact HOp.out _ HBx.out.drew HFin.out.drew
      clear b6 b7 b4 b1
      go_wp2
      go_region_with (first | (go_at_call 18; refine (HOp2.out _ (by first | exact .inr rfl | exact .inl rfl)).mono ?_; rintro e w5 ⟨rfl, hq⟩))
      all_goals (
        go_wp2
        go_returns
        exact ⟨rfl, hq⟩)
end
section
open Go.RowKit Go.Shelf
set_option maxRecDepth 20000 in
set_option maxHeartbeats 4000000 in
theorem call_enter0 (R C ca n x o ac k m1 : Nat) (zp : Option Addr) (nm : ByteArray) (d : Int) (Q : World → Prop) (w : World) (h3 : w.cell? ⟨R, 3, none⟩ = some (.slice (some ⟨C, 0, none⟩) (n + 1) ca)) (hn : n < 1000000) (i1 : w.cell? ⟨x, o + 1, none⟩ = some (.int .i64 d)) (i5 : w.cell? ⟨x, o + 5, none⟩ = some (.string nm)) (i6 : w.cell? ⟨x, o + 6, none⟩ = some (.slice zp 0 ac)) (n1 : (nm.toList == [114, 116, 46, 112, 114, 105, 110, 116]) = false) (n2 : (nm.toList == [114, 116, 46, 114, 101, 97, 100]) = false) (n3 : (nm.toList == [114, 116, 46, 97, 108, 108, 111, 99]) = false) (n4 : (nm.toList == [114, 116, 46, 102, 114, 101, 101]) = false) (r1 : w.cell? ⟨R, 1, none⟩ = some (.map (some m1))) (hlk : ∀ W, Below w.heap.size w W → (Instr.lookup 52 (.map (some m1)) (.string nm) false).run Tryd.prog W = .ok (.int .i64 k) W) (hop : ∀ W, Below w.heap.size w W → Bk W w.heap.size 2 [] → Calls Tryd.prog 18 #[.pointer (some ⟨R, 0, none⟩), .int .i64 k, .slice (some ⟨w.heap.size, 0, none⟩) 0 0, .int .i64 d] W fun e w' => e = .returned (.tuple #[]) ∧ Q w') : Calls Tryd.prog 44 #[.pointer (some ⟨R, 0, none⟩), .pointer (some ⟨x, o, none⟩)] w fun e w' => e = .returned (.tuple #[]) ∧ Q w' := by
  have hI : Hid (Calls Tryd.prog 41 #[.pointer (some ⟨R, 0, none⟩)] w fun e w' => e = .returned (.pointer (some ⟨C, n * 7, none⟩)) ∧ ∃ k, w' = w.drewN k) := innermost41g R C ca n w h3 hn
  have HOp : Hid (∀ W, Below w.heap.size w W → Bk W w.heap.size 2 [] → Calls Tryd.prog 18 #[.pointer (some ⟨R, 0, none⟩), .int .i64 k, .slice (some ⟨w.heap.size, 0, none⟩) 0 0, .int .i64 d] W fun e w' => e = .returned (.tuple #[]) ∧ Q w') := hop
  have HLk : Hid (∀ W, Below w.heap.size w W → (Instr.lookup 52 (.map (some m1)) (.string nm) false).run Tryd.prog W = .ok (.int .i64 k) W) := hlk
  have HF : Hid (∀ W, Below w.heap.size w W → W.cell? ⟨x, o + 1, none⟩ = some (.int .i64 d) ∧ W.cell? ⟨x, o + 5, none⟩ = some (.string nm) ∧ W.cell? ⟨x, o + 6, none⟩ = some (.slice zp 0 ac) ∧ W.cell? ⟨R, 1, none⟩ = some (.map (some m1))) := fun W hW => by
    have key : ∀ b t v, w.cell? ⟨b, t, none⟩ = some v → W.cell? ⟨b, t, none⟩ = some v := fun b t v h => by rw [hW.cell (p := ⟨b, t, none⟩) (World.block_lt_of_cell? _ _ h)]; exact h
    exact ⟨key _ _ _ i1, key _ _ _ i5, key _ _ _ i6, key _ _ _ r1⟩
  clear hop hlk h3 i1 i5 i6 r1 hn
  go_enter Tryd.func44, Tryd.ntmps44
  go_wp2_with fail
  refine hI.out.mono ?_
  rintro e w1 ⟨rfl, n9, hw1⟩
  have HB1 : Hid (Below w.heap.size w w1) := by show Below _ _ _; rw [hw1]; exact below_drewN (Below.refl _ _) n9
  have HS1 : Hid (w1.heap.size = w.heap.size) := by show _ = _; rw [hw1]; rfl
  have HBa : Hid (Below w.heap.size w (w1.alloc (.cells #[] 2))) := HB1.out.alloc HB1.out.size _
  obtain ⟨k1, k2, k3, k4⟩ := HF.out w1 HB1.out
  obtain ⟨a1, a2, a3, a4⟩ := HF.out (w1.alloc (.cells #[] 2)) HBa.out
  have mk := make0 w1
  have l1 := HLk.out (w1.alloc (.cells #[] 2)) HBa.out
  have l2 := HLk.out (w1.alloc (.cells #[] 2)).drew HBa.out.drew
  have hFin : Bk (w1.alloc (.cells #[] 2)) w.heap.size 2 [] := by
    rw [← HS1.out]
    exact Bk.new w1 [] 2
  have HOp2 : Hid (∀ W, W = w1.alloc (.cells #[] 2) ∨ W = (w1.alloc (.cells #[] 2)).drew → Calls Tryd.prog 18 #[.pointer (some ⟨R, 0, none⟩), .int .i64 k, .slice (some ⟨w1.heap.size, 0, none⟩) 0 0, .int .i64 d] W fun e w' => e = .returned (.tuple #[]) ∧ Q w') := fun W hW => by
    rw [HS1.out]
    rcases hW with rfl | rfl
    · exact HOp.out _ HBa.out hFin
    · exact HOp.out _ HBa.out.drew hFin.drew
  clear hw1 hFin
  go_wp2
  refine wp_loop_rounds 1 ?_
  rw [rounds_succ]
  go_wp2
  go_region_with (first | (go_at_call 18; refine (HOp2.out _ (by first | exact .inr rfl | exact .inl rfl)).mono ?_; rintro e w5 ⟨rfl, hq⟩))
  all_goals (
    go_wp2
    go_returns
    exact ⟨rfl, hq⟩)
end
section
open Go.RowKit Go.Shelf
theorem size2 : (Tryd.prog.info? 2).map (·.size) = some 1 := by kernel_rfl
theorem copy_args (W : World) (h g m al : Nat) (vs : List Value) (hh : Bk W h 2 (List.replicate m (.int .i64 0))) (hg : Bk W g 2 vs) (hl : vs.length = al) (ham : al ≤ m) (h1 : ∀ v ∈ vs, v.oneCell' = true) : ∃ V, (Builtin.copy_ #[78, 78] 3 #[.slice (some ⟨h, 0, none⟩) m m, .slice (some ⟨g, 0, none⟩) al al]).run Tryd.prog W = .ok (.int .i64 al) V ∧ Onl (fun b => b = h) W V ∧ Bk V h 2 (vs ++ List.replicate (m - al) (.int .i64 0)) := by
  have hr := run_copy_row Tryd.prog W 78 78 3 2 h 0 m m ⟨g, 0, none⟩ al al (List.replicate m (Value.int .i64 0)).toArray 2 vs Tryd.underlying78 size2 hh (by rw [hl]; exact (Nat.min_eq_left ham).symm) (fun j v hj => by
    have := hg.cell hj
    have e : (⟨g, 0, none⟩ : Addr).add j = ⟨g, j, none⟩ := by unfold Addr.add; split <;> simp_all
    rw [e]
    exact this) (by simp; omega) h1
  have e : (((List.replicate m (Value.int .i64 0)).toArray.toList.take 0 ++ vs ++ (List.replicate m (Value.int .i64 0)).toArray.toList.drop (0 + vs.length))) = vs ++ List.replicate (m - al) (.int .i64 0) := by
    simp [hl]
  rw [e, hl] at hr
  exact ⟨_, hr, (setRow_bk hh _).2, (setRow_bk hh _).1⟩
theorem copy_none (W : World) (h m : Nat) : (Builtin.copy_ #[78, 78] 3 #[.slice (some ⟨h, 0, none⟩) m m, .slice none 0 0]).run Tryd.prog W = .ok (.int .i64 0) W := run_copy_nil Tryd.prog W 78 78 3 2 ⟨h, 0, none⟩ m m Tryd.underlying78 (by rw [size2]; rfl)
end
end Go.Proofs.YtdppoblbenbafaaDoor
