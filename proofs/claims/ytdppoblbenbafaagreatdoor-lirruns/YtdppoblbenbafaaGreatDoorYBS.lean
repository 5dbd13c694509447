/- A whole run. A whole run, walked. -/
import Derived.Test.YtdppoblbenbafaaGreatDoorYBE
namespace Go.Proofs.YtdppoblbenbafaaGreatDoor
section
open Go.RowKit Go.Shelf
/-- The run's loop. -/
structure LpR (p : List Fun) (pp : Option Addr) (pc : Nat) (W0 : World) (R m1 m2 fuel : Nat) (O : Oc) (wx : World) : Prop where
  or : (∃ s n, GoD p pp pc W0 R m1 m2 wx s ∧ Wf p s ∧ s.st + n = fuel ∧ runS p n s = O) ∨ (EndD W0 R wx O ∧ ¬ O.en = 0)
def stM (R : Nat) (wx : World) : Nat := match wx.cell? ⟨R, 12, none⟩ with | some v => (intOf v).toNat | none => 0
def xz : Obj := .cells #[.int .i64 0, .int .i64 0, .slice none 0 0, .int .i64 0] 36
theorem start_mp (p : List Fun) (w : World) (r : Rs) : MpK p (w.alloc xz) (w.heap.size + 1 + 1 + 1) (w.heap.size + 1) (w.heap.size + 1 + 1) r 0 ((((w.alloc xz).alloc (.map #[] 0)).alloc (.map oes 14)).alloc (.cells (rsC r).toArray 102)) := by
  refine ⟨(((Below.refl _ (w.alloc xz)).alloc (Nat.le_refl _) _).alloc (by simp) _).alloc (by simp) _, ?_, ?_, ?_⟩
  · have t := Bk.new (((w.alloc xz).alloc (.map #[] 0)).alloc (.map oes 14)) (rsC r) 102
    rw [show (((w.alloc xz).alloc (.map #[] 0)).alloc (.map oes 14)).heap.size = w.heap.size + 1 + 1 + 1 by simp] at t
    exact t
  · rw [(Go.MapKept.heap_alloc _ _).2 _ (by simp), (Go.MapKept.heap_alloc _ _).2 _ (by simp), (show w.heap.size + 1 = (w.alloc xz).heap.size by simp), (Go.MapKept.heap_alloc _ _).1]
    rfl
  · rw [(Go.MapKept.heap_alloc _ _).2 _ (by simp), (show w.heap.size + 1 + 1 = ((w.alloc xz).alloc (.map #[] 0)).heap.size by simp), (Go.MapKept.heap_alloc _ _).1]
theorem stp_end {p : List Fun} {s : St} {i : Ins} {o : Oc} (h : stpS p s i = .inr o) : (o.en = 1 ∨ (o.en = 3 ∧ toB i = true)) ∧ o.st = s.st := by
  have H : (o.en = 1 ∧ o.st = s.st) ∨ (o.en = 3 ∧ o.st = s.st ∧ toB i = true) := by
    unfold stpS at h
    dsimp only at h
    by_cases o1 : i.op = 1
    · rw [if_pos o1] at h; cases h
    rw [if_neg o1] at h
    by_cases o2 : i.op = 2
    · rw [if_pos o2] at h; cases h
    rw [if_neg o2] at h
    by_cases o3 : i.op = 3
    · rw [if_pos o3] at h; cases h
    rw [if_neg o3] at h
    by_cases o4 : i.op = 4
    · rw [if_pos o4] at h
      split at h
      · cases h
      · cases h; exact .inr ⟨rfl, rfl, by simp [toB, o4]⟩
    rw [if_neg o4] at h
    by_cases o5 : i.op = 5
    · rw [if_pos o5] at h
      split at h
      · cases h
      · cases h; exact .inr ⟨rfl, rfl, by simp [toB, o5]⟩
    rw [if_neg o5] at h
    by_cases o6 : i.op = 6
    · rw [if_pos o6] at h; cases h
    rw [if_neg o6] at h
    by_cases o7 : i.op = 7
    · rw [if_pos o7] at h
      unfold calS at h
      simp only [] at h
      split at h
      · cases h
      split at h
      · cases h
      split at h
      · split at h
        · cases h; exact .inl ⟨rfl, rfl⟩
        · cases h
      split at h
      · rename_i q
        split at h
        · cases h
        · cases h; exact .inr ⟨rfl, rfl, by simp [toB, o7, q]⟩
      · cases h
    rw [if_neg o7] at h
    by_cases o8 : i.op = 8
    · rw [if_pos o8] at h; cases h
    rw [if_neg o8] at h
    by_cases o9 : i.op = 9
    · rw [if_pos o9] at h; cases h
    rw [if_neg o9] at h
    by_cases o10 : i.op = 10
    · rw [if_pos o10] at h
      unfold bakS at h
      simp only [] at h
      split at h
      · cases h; exact .inl ⟨rfl, rfl⟩
      · cases h
    rw [if_neg o10] at h
    cases h
    exact .inl ⟨rfl, rfl⟩
  rcases H with ⟨a, b⟩ | ⟨a, b, c⟩
  · exact ⟨.inl a, b⟩
  · exact ⟨.inr ⟨a, c⟩, b⟩
variable {p : List Fun} {pp : Option Addr} {pc : Nat} {W0 : World} {R m1 m2 : Nat} {W : World} {s : St}
theorem end21g {r : Rs} (h : Rb W R r) (a b : Int) : Calls Tryz.prog 71 #[.pointer (some ⟨R, 0, none⟩), .int .i64 a, .int .i64 b] W fun e w' => e = .returned (.tuple #[]) ∧ w' = (W.setCell ⟨R, 9, none⟩ (.int .i64 a)).setCell ⟨R, 10, none⟩ (.int .i64 b) := end36 R a b (rsC r) _ h.cl rfl
theorem stM_of {W : World} {R : Nat} {k : Nat} (h : W.cell? ⟨R, 12, none⟩ = some (.int .i64 ((k : Nat) : Int))) : stM R W = k := by
  unfold stM
  rw [h]
  simp [intOf]
theorem GoD.m12 (h : GoD p pp pc W0 R m1 m2 W s) : W.cell? ⟨R, 12, none⟩ = some (.int .i64 ((s.st : Nat) : Int)) := by
  obtain ⟨r, C, ca, P, pa, gl, gp, h⟩ := h
  have := h.rb.cell (j := 12) rfl
  rw [h.st] at this
  exact this
theorem EndD.cells {o : Oc} (h : EndD W0 R W o) : ∃ ov, W.cell? ⟨R, 9, none⟩ = some (.int .i64 o.en) ∧ W.cell? ⟨R, 10, none⟩ = some (.int .i64 o.cd) ∧ W.cell? ⟨R, 11, none⟩ = some ov ∧ W.cell? ⟨R, 12, none⟩ = some (.int .i64 ((o.st : Nat) : Int)) ∧ W.ownsRow W0.heap.size 5 1 ov o.out.length (Lib.byteCells o.out) ∧ Below W0.heap.size W0 W := by
  obtain ⟨r, h1, h2, h3, h4, h5, h6, h7⟩ := h
  have c9 := h3.cell (j := 9) rfl
  have c10 := h3.cell (j := 10) rfl
  have c12 := h3.cell (j := 12) rfl
  rw [h4] at c9
  rw [h5] at c10
  rw [h6] at c12
  exact ⟨r.ov, c9, c10, h3.cell (j := 11) rfl, c12, h7, h1⟩
/-- What a round of the loop is given. -/
structure RndF (p : List Fun) (pp : Option Addr) (pc : Nat) (W0 : World) (R m1 m2 fuel : Nat) (O : Oc) (W : World) (st n x xo : Nat) (d : Bool) : Prop where
  r9 : W.cell? ⟨R, 9, none⟩ = some (.int .i64 0)
  r12 : W.cell? ⟨R, 12, none⟩ = some (.int .i64 ((st : Nat) : Int))
  z12 : W.frozen? ⟨R, 12, none⟩ = false
  sn : st + n = fuel
  c19 : Calls Tryz.prog 69 #[.pointer (some ⟨R, 0, none⟩)] W fun e w' => e = .returned (.pointer (some ⟨x, xo, none⟩)) ∧ ∃ k, w' = W.drewN k
  c20 : ∀ k, Calls Tryz.prog 70 #[.pointer (some ⟨R, 0, none⟩), .pointer (some ⟨x, xo, none⟩)] (W.drewN k) fun e w' => e = .returned (.bool d) ∧ w' = W.drewN k
  c21 : ∀ k, Calls Tryz.prog 71 #[.pointer (some ⟨R, 0, none⟩), .int .i64 2, .int .i64 0] (W.drewN k) fun e w' => e = .returned (.tuple #[]) ∧ w' = ((W.drewN k).setCell ⟨R, 9, none⟩ (.int .i64 2)).setCell ⟨R, 10, none⟩ (.int .i64 0)
  stop : (n = 0 ∨ d = true) → ∀ k, EndD W0 R (((W.drewN k).setCell ⟨R, 9, none⟩ (.int .i64 2)).setCell ⟨R, 10, none⟩ (.int .i64 0)) O
  go : ¬ n = 0 → d = false → ∀ k, Calls Tryz.prog 72 #[.pointer (some ⟨R, 0, none⟩), .pointer (some ⟨x, xo, none⟩)] ((W.drewN k).setCell ⟨R, 12, none⟩ (.int .i64 ((st : Int) + 1))) fun e w' => e = .returned (.tuple #[]) ∧ LpR p pp pc W0 R m1 m2 fuel O w' ∧ stM R w' = st + 1
theorem round_facts (hp : PrF p) (hI : FunA W0 pp pc p) (hT : PwT W0) (hG : GoD p pp pc W0 R m1 m2 W s) (hW : Wf p s) {n fuel : Nat} (hs : s.st + n = fuel) (hf : fuel ≤ 524288) {O : Oc} (hO : runS p n s = O) : ∃ x xo d, RndF p pp pc W0 R m1 m2 fuel O W s.st n x xo d := by
  have h12 := hG.m12
  obtain ⟨r, C, ca, P, pa, gl, gp, h⟩ := hG
  obtain ⟨tq, lq, rfl, hlq⟩ := h.hd
  obtain ⟨f, bl, i, hc⟩ := hW.top
  obtain ⟨g1, o1, bc, g2, o2, ic, hins⟩ := ins_all hI hc
  have hB := hW.bnd (by omega)
  have hll : lq.length = s.low.length := by
    have := congrArg List.length hlq
    simpa using this
  have hlo := hB.lo
  have hi : insAt p s.top = some i := by
    unfold insAt
    rw [hc.hf, Option.bind_some, hc.hb, Option.bind_some, hc.hi]
  have r9 := h.rb.cell (j := 9) rfl
  rw [h.fin] at r9
  have kR : ∀ k, Onl (fun b => b = R) W (((W.drewN k).setCell ⟨R, 9, none⟩ (.int .i64 2)).setCell ⟨R, 10, none⟩ (.int .i64 0)) := fun k => ((onl_drew W k (fun b => b = R)).set rfl).set rfl
  refine ⟨g2, o2 + s.top.j * 9, depB s i, r9, h12, h.rb.fz 12, hs, next_ins h (by omega) hc (hins W h.bel), fun k => deep_any (h.drew k) (hins _ (h.drew k).bel), fun k => end21g (h.rb.drewN k) 2 0, ?_, ?_⟩
  · intro hstop k
    have eO : O = ⟨2, 0, s.out, s.st⟩ := by
      rw [← hO]
      cases n with
      | zero => rfl
      | succ n =>
        have hd : depB s i = true := by rcases hstop with h | h; cases h; exact h
        rw [runS, hi]
        simp only [hd, if_true]
    rw [eO]
    refine ⟨{ r with fin := 2, cd := 0 }, Onl.below (Nat.le_refl _) h.bel (kR k) (fun b e => by rw [e]; exact h.rB), h.rB, ((h.rb.drewN k).set 9 (.int .i64 2)).set 10 (.int .i64 0), rfl, rfl, h.st, own_onl h.ov (kR k) (fun g hg e => ?_)⟩
    obtain ⟨_, os, hO⟩ := h.bO hg
    exact hO.ne h.rb (by decide) e
  · intro hn0 hd k
    obtain ⟨m, rfl⟩ : ∃ m, n = m + 1 := ⟨n - 1, by omega⟩
    have k12 : Onl (fun b => b = R) W ((W.drewN k).setCell ⟨R, 12, none⟩ (.int .i64 ((s.st : Int) + 1))) := (onl_drew W k (fun b => b = R)).set rfl
    have hb12 : Below W0.heap.size W ((W.drewN k).setCell ⟨R, 12, none⟩ (.int .i64 ((s.st : Int) + 1))) := Onl.below h.bel.size (Below.refl _ _) k12 (fun b e => by rw [e]; exact h.rB)
    have h' : RelD p pp pc W0 R m1 m2 { r with st := r.st + 1 } C ca P pa ((tq, s.top) :: lq) gp ((W.drewN k).setCell ⟨R, 12, none⟩ (.int .i64 ((s.st : Int) + 1))) { s with st := s.st + 1 } := h.run k12 (by
      have t := (h.rb.drewN k).set 12 (.int .i64 ((s.st : Int) + 1))
      rw [← h.st] at t ⊢
      exact t) rfl rfl rfl rfl rfl rfl h.ls rfl h.en h.nx h.hp (h.iv.below hb12) rfl (by show r.st + 1 = _; rw [h.st]; simp) h.fin h.cd
    refine (step_all (s := { s with st := s.st + 1 }) hp hI hT h' ⟨hB.lo, hB.nx, hB.hp, hB.en, hB.ps, hB.out, hB.pa⟩ hW.ans hc hins).mono ?_
    rintro e w' ⟨rfl, ho⟩
    refine ⟨rfl, ?_⟩
    rw [runS, hi] at hO
    simp only [hd] at hO
    cases hst : stpS p { s with st := s.st + 1 } i with
    | inl s' =>
      rw [hst] at ho hO
      obtain ⟨w1, w2⟩ := wf_step hp hW hc hd (by omega) hst
      refine ⟨⟨.inl ⟨s', m, ho, w1, by rw [w2]; omega, hO⟩⟩, ?_⟩
      rw [← w2]
      exact stM_of (GoD.m12 ho)
    | inr o =>
      rw [hst] at ho hO
      obtain ⟨e1, e2⟩ := stp_end hst
      have hO' : o = O := hO
      subst hO'
      refine ⟨⟨.inr ⟨ho, by rcases e1 with e1 | e1 <;> omega⟩⟩, ?_⟩
      obtain ⟨_, _, _, _, c12, _⟩ := EndD.cells ho
      rw [e2] at c12
      exact stM_of c12
end
section
open Go.RowKit Go.Shelf
set_option maxRecDepth 20000
set_option maxHeartbeats 8000000
theorem enter_first {p : List Fun} {W0 : World} {R m1 m2 g oo pc il ic : Nat} {iv : Option Addr} {l : List UInt8} {V : World} {f : Fun} (hp : PrF p) (hI : FunA W0 (some ⟨g, oo, none⟩) pc p) (hf : p[0]? = some f) (hR : W0.heap.size ≤ R) (hiv : InV W0 V (.slice iv il ic) l) (hK : MpK p W0 R m1 m2 ⟨.slice (some ⟨g, oo, none⟩) p.length pc, .map (some m1), .map (some m2), .slice none 0 0, .slice none 0 0, 0, 65536, 0, .slice iv il ic, 0, 0, .slice none 0 0, 0⟩ p.length V) : Calls Tryz.prog 68 #[.pointer (some ⟨R, 0, none⟩), .int .i64 0, .slice none 0 0, .int .i64 (-1)] V fun e w' => e = .returned (.tuple #[]) ∧ GoD p (some ⟨g, oo, none⟩) pc W0 R m1 m2 w' (s0 p l) := by
  obtain ⟨hF, _⟩ := prog_fn hp.pr hf
  obtain ⟨hm, hfr, _⟩ := rg_le hf hF
  obtain ⟨g', o', e, f0, f1, f2, f3, f4, hbv⟩ := fn_cells (hI.below hK.bel) hf hF
  cases e
  have hB : W0.heap.size ≤ V.heap.size := hK.bel.size
  have hh : Bk ((V.alloc (.cells #[.string f.h.nm, .int .i64 f.h.pa, .int .i64 ((rgOf p 0 : Nat) : Int), .int .i64 ((frOf p 0 : Nat) : Int), .slice f.h.ba f.h.bl f.h.bc] 27)).alloc (.cells (Array.replicate (rgOf p 0) (.int .i64 0)) 2)) (V.heap.size + 1) 2 (List.replicate (rgOf p 0) (.int .i64 0)) := by
    have t := Bk.new (V.alloc (.cells #[.string f.h.nm, .int .i64 f.h.pa, .int .i64 ((rgOf p 0 : Nat) : Int), .int .i64 ((frOf p 0 : Nat) : Int), .slice f.h.ba f.h.bl f.h.bc] 27)) (List.replicate (rgOf p 0) (.int .i64 0)) 2
    simpa using t
  have t := enter18g R W0.heap.size 0 0 0 g oo p.length pc (rgOf p 0) (frOf p 0) f.h.bl f.h.bc f.h.ba f.h.nm f.h.pa (-1) 0 (.slice none 0 0) _ [] [] (List.replicate (rgOf p 0) (.int .i64 0)) V _ hK.rb rfl (List.getElem?_eq_some_iff.1 hf).1 f0 f1 f2 f3 f4 ⟨rfl, .inl ⟨rfl, rfl⟩⟩ ⟨rfl, .inl ⟨rfl, rfl⟩⟩ hB hm hfr (by omega) (by omega) (by show (0 : Int) ≤ 65536; omega) (by show (65536 : Int) ≤ _; omega) (copy_none _ _ _) (Onl.of_below (Below.refl _ _)) hh
  refine Calls.mono t ?_
  rintro e w' ⟨rfl, hE⟩
  refine ⟨rfl, first_rel hK hR hiv ?_⟩
  rw [hbv]
  exact hE
theorem outcome_any (p : List Fun) (pp : Option Addr) (pc ic fuel : Nat) (iv : Option Addr) (l : List UInt8) (w : World) (hp : PrF p) (hI : FunA w pp pc p) (hT : PwT w) (hiv : InV w w (.slice iv l.length ic) l) (hf : fuel ≤ 524288) : Calls Tryz.prog 30 #[.slice pp p.length pc, .slice iv l.length ic, .int .i64 fuel] w fun e w' => ∃ ov, e = .returned (.agg #[.int .i64 (runP p l fuel).en, .int .i64 (runP p l fuel).cd, ov, .int .i64 ((runP p l fuel).st : Nat)]) ∧ w'.ownsRow w.heap.size 5 1 ov (runP p l fuel).out.length (Lib.byteCells (runP p l fuel).out) ∧ Below w.heap.size w w' := by
  have hmm := @run_makeMap Tryz.prog
  obtain ⟨f0, hf0⟩ := first_fn hp
  have hxc := hI.1
  have hxc2 := hI.2.1
  obtain ⟨g, oo, hxo, _⟩ := hI.2.2.2 (by have := (List.getElem?_eq_some_iff.1 hf0).1; omega)
  subst hxo
  obtain ⟨r0, hr0⟩ : ∃ r0 : Rs, r0 = ⟨.slice (some ⟨g, oo, none⟩) p.length pc, .map (some (w.heap.size + 1)), .map (some (w.heap.size + 1 + 1)), .slice none 0 0, .slice none 0 0, 0, 65536, 0, .slice iv l.length ic, 0, 0, .slice none 0 0, 0⟩ := ⟨_, rfl⟩
  have HW : Hid (∃ W, W = ((((w.alloc (.cells #[.int .i64 0, .int .i64 0, .slice none 0 0, .int .i64 0] 36)).alloc (.map #[] 0)).alloc (.map oes 14)).alloc (.cells #[.slice (some ⟨g, oo, none⟩) p.length pc, .map (some (w.heap.size + 1)), .map (some (w.heap.size + 1 + 1)), .slice none 0 0, .slice none 0 0, .int .i64 0, .int .i64 65536, .int .i64 0, .slice iv l.length ic, .int .i64 0, .int .i64 0, .slice none 0 0, .int .i64 0] 102)) ∧ MpK p (w.alloc xz) (w.heap.size + 1 + 1 + 1) (w.heap.size + 1) (w.heap.size + 1 + 1) r0 0 W) := ⟨_, rfl, by rw [hr0]; exact start_mp p w _⟩
  have HI : Hid (FunA (w.alloc xz) (some ⟨g, oo, none⟩) pc p) := hI.below ((Below.refl _ _).alloc (Nat.le_refl _) _)
  have HT : Hid (PwT (w.alloc xz)) := pw_alloc xz hT
  have HP : Hid (PrF p ∧ fuel ≤ 524288) := ⟨hp, hf⟩
  have HIV : Hid (InV w w (.slice iv l.length ic) l) := hiv
  have HS : Hid ((w.alloc xz).heap.size = w.heap.size + 1) := by show _ = _; simp
  have HF0 : Hid (p[0]? = some f0) := hf0
  have HR0 : Hid (r0 = ⟨.slice (some ⟨g, oo, none⟩) p.length pc, .map (some (w.heap.size + 1)), .map (some (w.heap.size + 1 + 1)), .slice none 0 0, .slice none 0 0, 0, 65536, 0, .slice iv l.length ic, 0, 0, .slice none 0 0, 0⟩) := hr0
  have HX : Hid (Bk (w.alloc xz) w.heap.size 36 [.int .i64 0, .int .i64 0, .slice none 0 0, .int .i64 0]) := Bk.new w [.int .i64 0, .int .i64 0, .slice none 0 0, .int .i64 0] 36
  obtain ⟨O, hO⟩ : ∃ O, O = runP p l fuel := ⟨_, rfl⟩
  have HO : Hid (O = runP p l fuel) := hO
  rw [← hO]
  obtain ⟨n, hn⟩ : ∃ n, n = p.length := ⟨_, rfl⟩
  obtain ⟨il, hil⟩ : ∃ il, il = l.length := ⟨_, rfl⟩
  have HL : Hid (n = p.length ∧ il = l.length) := ⟨hn, hil⟩
  have HND : Hid (nodB (p.take 0) (p.drop 0) = true) := by
    have h := hp.pr
    unfold prB at h
    simp only [Bool.and_eq_true] at h
    exact h.2.2.1
  rw [← hn, ← hil] at HW HR0
  rw [← hn] at hxc
  rw [← hn, ← hil]
  clear hI hT hiv hf hp hf0 hr0 hO hn hil
  go_enter Tryz.func30, Tryz.ntmps30
  go_wp2_with (first | (go_at_call 23; refine (operations7 _).mono ?_; rintro e w' ⟨rfl, rfl⟩))
  obtain ⟨W, hWe, hK⟩ := HW.out
  rw [← hWe]
  have HK0 : Hid (MpK p (w.alloc xz) (w.heap.size + 1 + 1 + 1) (w.heap.size + 1) (w.heap.size + 1 + 1) r0 0 W) := hK
  clear hWe hK HW hmm
  go_loopw [23] (fun v wx => ∃ j : Nat, j ≤ n ∧ v = .int .i64 j ∧ MpK p (w.alloc xz) (w.heap.size + 1 + 1 + 1) (w.heap.size + 1) (w.heap.size + 1 + 1) r0 j wx ∧ nodB (p.take j) (p.drop j) = true) (fun v _ => n - (intOf v).toNat)
  case atStart => exact ⟨0, Nat.zero_le _, rfl, HK0.out, HND.out⟩
  case round =>
    obtain ⟨j, hj, rfl, hK, hNd⟩ := hrel
    have HK : Hid (MpK p (w.alloc xz) (w.heap.size + 1 + 1 + 1) (w.heap.size + 1) (w.heap.size + 1 + 1) r0 j wr) := hK
    have HNd : Hid (nodB (p.take j) (p.drop j) = true) := hNd
    clear hK hNd HK0 W
    by_cases hlt : j < n
    · obtain ⟨x, hi⟩ : ∃ x, p[j]? = some x := ⟨_, List.getElem?_eq_getElem (by have := HL.out.1; omega)⟩
      obtain ⟨g', oo', hxo', hcc⟩ := (HI.out.below HK.out.bel).2.2.2 (by have := HL.out.1; omega)
      cases hxo'
      have d0 := hcc j x hi 0 _ rfl
      have d1 := hcc j x hi 1 _ rfl
      have d2 := hcc j x hi 2 _ rfl
      have d3 := hcc j x hi 3 _ rfl
      have d4 := hcc j x hi 4 _ rfl
      rw [Nat.add_zero] at d0
      have HX1 : Hid (p[j]? = some x) := hi
      have HV : Hid (∃ V, V = wr.alloc (.cells #[.string x.h.nm, .int .i64 x.h.pa, .int .i64 x.h.rg, .int .i64 x.h.fr, .slice x.h.ba x.h.bl x.h.bc] 27) ∧ MpK p (w.alloc xz) (w.heap.size + 1 + 1 + 1) (w.heap.size + 1) (w.heap.size + 1 + 1) r0 j V ∧ Bk V wr.heap.size 27 [.string x.h.nm, .int .i64 x.h.pa, .int .i64 x.h.rg, .int .i64 x.h.fr, .slice x.h.ba x.h.bl x.h.bc]) := ⟨_, rfl, HK.out.grow ((Below.refl _ _).alloc (Nat.le_refl _) _), Bk.new wr _ _⟩
      clear hcc hi
      go_wp2
      obtain ⟨V, hV, hKV, hb⟩ := HV.out
      rw [← hV]
      have HKV : Hid (MpK p (w.alloc xz) (w.heap.size + 1 + 1 + 1) (w.heap.size + 1) (w.heap.size + 1 + 1) r0 j V) := hKV
      have r1 := hKV.rb.cell (j := 1) rfl
      rw [HR0.out] at r1
      have b0 := hb.cell (j := 0) rfl
      have hnd := HNd.out
      rw [nodB_at HX1.out] at hnd
      simp only [Bool.and_eq_true, Option.isNone_iff_eq_none] at hnd
      have hq := ixE_none x.h.nm (p.take j) hnd.1 0 0
      have hu := upd59 (w.heap.size + 1) x.h.nm (.int .i64 j) (ixE 0 (p.take j)).toArray j V.drew hKV.h1 (by simpa using hq)
      rw [ixE_at HX1.out] at hu
      have HND1 : Hid (nodB (p.take (j + 1)) (p.drop (j + 1)) = true) := hnd.2
      have HKU : Hid (MpK p (w.alloc xz) (w.heap.size + 1 + 1 + 1) (w.heap.size + 1) (w.heap.size + 1 + 1) r0 (j + 1) (swp V.drew (w.heap.size + 1) (.map (ixE 0 (p.take (j + 1))).toArray (j + 1)))) := (HKV.out.grow (Below.refl _ _).drew).upd (by have := HS.out; omega) (by omega)
      clear HV hV hKV hb hnd hq d0 d1 d2 d3 d4
      go_region
      go_wp2
      go_round
      case rel => exact ⟨j + 1, by omega, by go_num, HKU.out, HND1.out⟩
      case measure => simp [intOf]; omega
    · obtain rfl : n = j := by omega
      have HV : Hid (∃ V, V = wr ∧ MpK p (w.alloc xz) (w.heap.size + 1 + 1 + 1) (w.heap.size + 1) (w.heap.size + 1 + 1) r0 p.length V) := ⟨_, rfl, by rw [← HL.out.1]; exact HK.out⟩
      have HE : Hid (Calls Tryz.prog 68 #[.pointer (some ⟨w.heap.size + 1 + 1 + 1, 0, none⟩), .int .i64 0, .slice none 0 0, .int .i64 (-1)] wr fun e w' => e = .returned (.tuple #[]) ∧ GoD p (some ⟨g, oo, none⟩) pc (w.alloc xz) (w.heap.size + 1 + 1 + 1) (w.heap.size + 1) (w.heap.size + 1 + 1) w' (s0 p l)) := by
        obtain ⟨V, e, hK⟩ := HV.out
        subst e
        rw [HR0.out, HL.out.1] at hK
        have hiv : InV (w.alloc xz) V (.slice iv il ic) l := by
          obtain ⟨a, c, e1, e2, e3⟩ := HIV.out
          cases e1
          refine ⟨_, _, by rw [HL.out.2], e2, fun h0 => ?_⟩
          obtain ⟨g9, o9, e4, e5, e6⟩ := e3 h0
          have hb0 : Below w.heap.size w V := ((Below.refl w.heap.size w).alloc (Nat.le_refl _) xz).trans (hK.bel.mono (by have := HS.out; omega))
          exact ⟨g9, o9, e4, by have := HS.out; omega, fun j b hj => (World.cell?_of_block (hb0.block g9 e5)).trans (e6 j b hj)⟩
        exact enter_first HP.out.1 HI.out HF0.out (by have := HS.out; omega) hiv hK
      clear HK HNd HV HND
      go_wp2_with fail
      refine HE.out.mono ?_
      rintro e w1 ⟨rfl, hG⟩
      have HG : Hid (GoD p (some ⟨g, oo, none⟩) pc (w.alloc xz) (w.heap.size + 1 + 1 + 1) (w.heap.size + 1) (w.heap.size + 1 + 1) w1 (s0 p l)) := hG
      clear hG HE
      generalize hw1 : w1 = W1 at *
      clear hw1
      have HL0 : Hid (LpR p (some ⟨g, oo, none⟩) pc (w.alloc xz) (w.heap.size + 1 + 1 + 1) (w.heap.size + 1) (w.heap.size + 1 + 1) fuel O W1) := ⟨.inl ⟨s0 p l, fuel, HG.out, wf_s0 HP.out.1 l, by show 0 + fuel = fuel; omega, by rw [HO.out]; rfl⟩⟩
      clear HG
      go_wp2_with fail
      clear HF0 HIV HR0 hxc
      go_loopw [10] (fun _ wx => LpR p (some ⟨g, oo, none⟩) pc (w.alloc xz) (w.heap.size + 1 + 1 + 1) (w.heap.size + 1) (w.heap.size + 1 + 1) fuel O wx) (fun _ wx => fuel - stM (w.heap.size + 1 + 1 + 1) wx)
      case atStart => exact HL0.out
      case round =>
        obtain ⟨hrel⟩ := hrel
        rcases hrel with ⟨s, n', hG, hW, hsn, hO⟩ | ⟨hE, hen⟩
        · obtain ⟨x, xo, d, hR⟩ := round_facts HP.out.1 HI.out HT.out hG hW hsn HP.out.2 hO
          have HR : Hid (RndF p (some ⟨g, oo, none⟩) pc (w.alloc xz) (w.heap.size + 1 + 1 + 1) (w.heap.size + 1) (w.heap.size + 1 + 1) fuel O wr s.st n' x xo d) := hR
          have r9 := hR.r9
          have r12 := hR.r12
          have z12 := hR.z12
          have HM : Hid (stM (w.heap.size + 1 + 1 + 1) wr = s.st) := stM_of r12
          have hst : s.st ≤ 524288 := by have := HP.out.2; omega
          have ew : IntKind.i64.wrap ((s.st : Int) + 1) = (s.st : Int) + 1 := wrapI _ (by omega) (by omega)
          have hdr : ∀ k, (wr.drewN k).cell? ⟨w.heap.size + 1 + 1 + 1, 12, none⟩ = some (.int .i64 ((s.st : Nat) : Int)) := dcell r12
          have hdz : ∀ k, (wr.drewN k).frozen? ⟨w.heap.size + 1 + 1 + 1, 12, none⟩ = false := fun _ => z12
          by_cases hn0 : n' = 0
          · have hst2 : (s.st : Int) = fuel := by omega
            clear hG hW hO hR
            go_wp2_with fail
            refine HR.out.c19.mono ?_
            rintro e w2 ⟨rfl, k, rfl⟩
            go_wp2_with fail
            refine (HR.out.c21 k).mono ?_
            rintro e w' ⟨rfl, rfl⟩
            have HEND : Hid (EndD (w.alloc xz) (w.heap.size + 1 + 1 + 1) ((((wr.drewN k).setCell ⟨w.heap.size + 1 + 1 + 1, 9, none⟩ (.int .i64 2)).setCell ⟨w.heap.size + 1 + 1 + 1, 10, none⟩ (.int .i64 0))) O) := HR.out.stop (.inl hn0) k
            clear HR HM r9 r12 z12 hdr hdz
            generalize ((((wr.drewN k).setCell ⟨w.heap.size + 1 + 1 + 1, 9, none⟩ (.int .i64 2)).setCell ⟨w.heap.size + 1 + 1 + 1, 10, none⟩ (.int .i64 0))) = WZ at *
            obtain ⟨ov, c9, c10, c11, c12, hown, hbl⟩ := HEND.out.cells
            have hx : Bk WZ w.heap.size 36 [.int .i64 0, .int .i64 0, .slice none 0 0, .int .i64 0] := HX.out.keep (hbl.block w.heap.size (by have := HS.out; omega))
            have x0 := hx.cell (j := 0) rfl
            have x1 := hx.cell (j := 1) rfl
            have x2 := hx.cell (j := 2) rfl
            have x3 := hx.cell (j := 3) rfl
            have zx0 := hx.fz 0
            have zx1 := hx.fz 1
            have zx2 := hx.fz 2
            have zx3 := hx.fz 3
            have ho5 := own_ne hown hx (by decide)
            obtain ⟨cg, cn, cc, rfl⟩ : ∃ cg cn cc, ov = .slice cg cn cc := by
              obtain ⟨_, ⟨e, _⟩ | ⟨g9, cap9, cur9, e, _⟩⟩ := hown
              · exact ⟨_, _, _, e⟩
              · exact ⟨_, _, _, e⟩
            have HX4 : Hid (Bk ((((WZ.setCell ⟨w.heap.size, 0, none⟩ (.int .i64 O.en)).setCell ⟨w.heap.size, 1, none⟩ (.int .i64 O.cd)).setCell ⟨w.heap.size, 2, none⟩ (.slice cg cn cc)).setCell ⟨w.heap.size, 3, none⟩ (.int .i64 ((O.st : Nat) : Int))) w.heap.size 36 [.int .i64 O.en, .int .i64 O.cd, .slice cg cn cc, .int .i64 ((O.st : Nat) : Int)]) := (((hx.set 0 (.int .i64 O.en)).set 1 (.int .i64 O.cd)).set 2 (.slice cg cn cc)).set 3 (.int .i64 ((O.st : Nat) : Int))
            have HO4 : Hid (((((WZ.setCell ⟨w.heap.size, 0, none⟩ (.int .i64 O.en)).setCell ⟨w.heap.size, 1, none⟩ (.int .i64 O.cd)).setCell ⟨w.heap.size, 2, none⟩ (.slice cg cn cc)).setCell ⟨w.heap.size, 3, none⟩ (.int .i64 ((O.st : Nat) : Int))).ownsRow w.heap.size 5 1 (.slice cg cn cc) O.out.length (Lib.byteCells O.out)) := own_low (own_set (own_set (own_set (own_set hown ho5) ho5) ho5) ho5) (by have := HS.out; omega)
            have HB4 : Hid (Below w.heap.size w ((((WZ.setCell ⟨w.heap.size, 0, none⟩ (.int .i64 O.en)).setCell ⟨w.heap.size, 1, none⟩ (.int .i64 O.cd)).setCell ⟨w.heap.size, 2, none⟩ (.slice cg cn cc)).setCell ⟨w.heap.size, 3, none⟩ (.int .i64 ((O.st : Nat) : Int)))) := Onl.below (Nat.le_refl _) (((Below.refl w.heap.size w).alloc (Nat.le_refl _) xz).trans (hbl.mono (by have := HS.out; omega))) (((((Onl.of_below (Below.refl _ _)).set (S := fun b => b = w.heap.size) rfl).set rfl).set rfl).set rfl) (fun b e => by omega)
            clear hx hown hbl ho5
            go_wp2
            clear x0 x1 x2 x3 zx0 zx1 zx2 zx3 c9 c10 c11 c12
            generalize ((((WZ.setCell ⟨w.heap.size, 0, none⟩ (.int .i64 O.en)).setCell ⟨w.heap.size, 1, none⟩ (.int .i64 O.cd)).setCell ⟨w.heap.size, 2, none⟩ (.slice cg cn cc)).setCell ⟨w.heap.size, 3, none⟩ (.int .i64 ((O.st : Nat) : Int))) = Wf at *
            have c0 := HX4.out.cell (j := 0) rfl
            have c1 := HX4.out.cell (j := 1) rfl
            have c2 := HX4.out.cell (j := 2) rfl
            have c3 := HX4.out.cell (j := 3) rfl
            exact bodyPost_ret (v := .agg #[.int .i64 O.en, .int .i64 O.cd, .slice cg cn cc, .int .i64 ((O.st : Nat) : Int)]) (by simp [results, Tryz.results30, go_sem, c0, c1, c2, c3]) rfl ⟨_, rfl, HO4.out, HB4.out⟩
          · have hst2 : ¬ (s.st : Int) = fuel := by omega
            clear hG hW hO hR
            go_wp2_with fail
            refine HR.out.c19.mono ?_
            rintro e w2 ⟨rfl, k, rfl⟩
            go_wp2_with fail
            refine (HR.out.c20 k).mono ?_
            rintro e w2 ⟨rfl, rfl⟩
            cases d with
            | true =>
              go_wp2_with fail
              refine (HR.out.c21 k).mono ?_
              rintro e w' ⟨rfl, rfl⟩
              have HEND : Hid (EndD (w.alloc xz) (w.heap.size + 1 + 1 + 1) ((((wr.drewN k).setCell ⟨w.heap.size + 1 + 1 + 1, 9, none⟩ (.int .i64 2)).setCell ⟨w.heap.size + 1 + 1 + 1, 10, none⟩ (.int .i64 0))) O) := HR.out.stop (.inr rfl) k
              clear HR HM r9 r12 z12 hdr hdz
              generalize ((((wr.drewN k).setCell ⟨w.heap.size + 1 + 1 + 1, 9, none⟩ (.int .i64 2)).setCell ⟨w.heap.size + 1 + 1 + 1, 10, none⟩ (.int .i64 0))) = WZ at *
              obtain ⟨ov, c9, c10, c11, c12, hown, hbl⟩ := HEND.out.cells
              have hx : Bk WZ w.heap.size 36 [.int .i64 0, .int .i64 0, .slice none 0 0, .int .i64 0] := HX.out.keep (hbl.block w.heap.size (by have := HS.out; omega))
              have x0 := hx.cell (j := 0) rfl
              have x1 := hx.cell (j := 1) rfl
              have x2 := hx.cell (j := 2) rfl
              have x3 := hx.cell (j := 3) rfl
              have zx0 := hx.fz 0
              have zx1 := hx.fz 1
              have zx2 := hx.fz 2
              have zx3 := hx.fz 3
              have ho5 := own_ne hown hx (by decide)
              obtain ⟨cg, cn, cc, rfl⟩ : ∃ cg cn cc, ov = .slice cg cn cc := by
                obtain ⟨_, ⟨e, _⟩ | ⟨g9, cap9, cur9, e, _⟩⟩ := hown
                · exact ⟨_, _, _, e⟩
                · exact ⟨_, _, _, e⟩
              have HX4 : Hid (Bk ((((WZ.setCell ⟨w.heap.size, 0, none⟩ (.int .i64 O.en)).setCell ⟨w.heap.size, 1, none⟩ (.int .i64 O.cd)).setCell ⟨w.heap.size, 2, none⟩ (.slice cg cn cc)).setCell ⟨w.heap.size, 3, none⟩ (.int .i64 ((O.st : Nat) : Int))) w.heap.size 36 [.int .i64 O.en, .int .i64 O.cd, .slice cg cn cc, .int .i64 ((O.st : Nat) : Int)]) := (((hx.set 0 (.int .i64 O.en)).set 1 (.int .i64 O.cd)).set 2 (.slice cg cn cc)).set 3 (.int .i64 ((O.st : Nat) : Int))
              have HO4 : Hid (((((WZ.setCell ⟨w.heap.size, 0, none⟩ (.int .i64 O.en)).setCell ⟨w.heap.size, 1, none⟩ (.int .i64 O.cd)).setCell ⟨w.heap.size, 2, none⟩ (.slice cg cn cc)).setCell ⟨w.heap.size, 3, none⟩ (.int .i64 ((O.st : Nat) : Int))).ownsRow w.heap.size 5 1 (.slice cg cn cc) O.out.length (Lib.byteCells O.out)) := own_low (own_set (own_set (own_set (own_set hown ho5) ho5) ho5) ho5) (by have := HS.out; omega)
              have HB4 : Hid (Below w.heap.size w ((((WZ.setCell ⟨w.heap.size, 0, none⟩ (.int .i64 O.en)).setCell ⟨w.heap.size, 1, none⟩ (.int .i64 O.cd)).setCell ⟨w.heap.size, 2, none⟩ (.slice cg cn cc)).setCell ⟨w.heap.size, 3, none⟩ (.int .i64 ((O.st : Nat) : Int)))) := Onl.below (Nat.le_refl _) (((Below.refl w.heap.size w).alloc (Nat.le_refl _) xz).trans (hbl.mono (by have := HS.out; omega))) (((((Onl.of_below (Below.refl _ _)).set (S := fun b => b = w.heap.size) rfl).set rfl).set rfl).set rfl) (fun b e => by omega)
              clear hx hown hbl ho5
              go_wp2
              clear x0 x1 x2 x3 zx0 zx1 zx2 zx3 c9 c10 c11 c12
              generalize ((((WZ.setCell ⟨w.heap.size, 0, none⟩ (.int .i64 O.en)).setCell ⟨w.heap.size, 1, none⟩ (.int .i64 O.cd)).setCell ⟨w.heap.size, 2, none⟩ (.slice cg cn cc)).setCell ⟨w.heap.size, 3, none⟩ (.int .i64 ((O.st : Nat) : Int))) = Wf at *
              have c0 := HX4.out.cell (j := 0) rfl
              have c1 := HX4.out.cell (j := 1) rfl
              have c2 := HX4.out.cell (j := 2) rfl
              have c3 := HX4.out.cell (j := 3) rfl
              exact bodyPost_ret (v := .agg #[.int .i64 O.en, .int .i64 O.cd, .slice cg cn cc, .int .i64 ((O.st : Nat) : Int)]) (by simp [results, Tryz.results30, go_sem, c0, c1, c2, c3]) rfl ⟨_, rfl, HO4.out, HB4.out⟩
            | false =>
              go_wp2_with fail
              refine (HR.out.go hn0 rfl k).mono ?_
              rintro e w3 ⟨rfl, hl, hm⟩
              have HL3 : Hid (LpR p (some ⟨g, oo, none⟩) pc (w.alloc xz) (w.heap.size + 1 + 1 + 1) (w.heap.size + 1) (w.heap.size + 1 + 1) fuel O w3 ∧ stM (w.heap.size + 1 + 1 + 1) w3 = s.st + 1 ∧ s.st < fuel) := ⟨hl, hm, by have := HR.out.sn; omega⟩
              clear hl hm HR r9 r12 z12 hdr hdz
              go_wp2_with fail
              go_round
              case rel => exact HL3.out.1
              case measure => have h1 := HL3.out.2; have h2 := HM.out; omega
        · have HEND : Hid (EndD (w.alloc xz) (w.heap.size + 1 + 1 + 1) wr O) := hE
          have q9' : ¬ O.en = 0 := hen
          clear hE hen
          obtain ⟨ov, c9, c10, c11, c12, hown, hbl⟩ := HEND.out.cells
          have hx : Bk wr w.heap.size 36 [.int .i64 0, .int .i64 0, .slice none 0 0, .int .i64 0] := HX.out.keep (hbl.block w.heap.size (by have := HS.out; omega))
          have x0 := hx.cell (j := 0) rfl
          have x1 := hx.cell (j := 1) rfl
          have x2 := hx.cell (j := 2) rfl
          have x3 := hx.cell (j := 3) rfl
          have zx0 := hx.fz 0
          have zx1 := hx.fz 1
          have zx2 := hx.fz 2
          have zx3 := hx.fz 3
          have ho5 := own_ne hown hx (by decide)
          obtain ⟨cg, cn, cc, rfl⟩ : ∃ cg cn cc, ov = .slice cg cn cc := by
            obtain ⟨_, ⟨e, _⟩ | ⟨g9, cap9, cur9, e, _⟩⟩ := hown
            · exact ⟨_, _, _, e⟩
            · exact ⟨_, _, _, e⟩
          have HX4 : Hid (Bk ((((wr.setCell ⟨w.heap.size, 0, none⟩ (.int .i64 O.en)).setCell ⟨w.heap.size, 1, none⟩ (.int .i64 O.cd)).setCell ⟨w.heap.size, 2, none⟩ (.slice cg cn cc)).setCell ⟨w.heap.size, 3, none⟩ (.int .i64 ((O.st : Nat) : Int))) w.heap.size 36 [.int .i64 O.en, .int .i64 O.cd, .slice cg cn cc, .int .i64 ((O.st : Nat) : Int)]) := (((hx.set 0 (.int .i64 O.en)).set 1 (.int .i64 O.cd)).set 2 (.slice cg cn cc)).set 3 (.int .i64 ((O.st : Nat) : Int))
          have HO4 : Hid (((((wr.setCell ⟨w.heap.size, 0, none⟩ (.int .i64 O.en)).setCell ⟨w.heap.size, 1, none⟩ (.int .i64 O.cd)).setCell ⟨w.heap.size, 2, none⟩ (.slice cg cn cc)).setCell ⟨w.heap.size, 3, none⟩ (.int .i64 ((O.st : Nat) : Int))).ownsRow w.heap.size 5 1 (.slice cg cn cc) O.out.length (Lib.byteCells O.out)) := own_low (own_set (own_set (own_set (own_set hown ho5) ho5) ho5) ho5) (by have := HS.out; omega)
          have HB4 : Hid (Below w.heap.size w ((((wr.setCell ⟨w.heap.size, 0, none⟩ (.int .i64 O.en)).setCell ⟨w.heap.size, 1, none⟩ (.int .i64 O.cd)).setCell ⟨w.heap.size, 2, none⟩ (.slice cg cn cc)).setCell ⟨w.heap.size, 3, none⟩ (.int .i64 ((O.st : Nat) : Int)))) := Onl.below (Nat.le_refl _) (((Below.refl w.heap.size w).alloc (Nat.le_refl _) xz).trans (hbl.mono (by have := HS.out; omega))) (((((Onl.of_below (Below.refl _ _)).set (S := fun b => b = w.heap.size) rfl).set rfl).set rfl).set rfl) (fun b e => by omega)
          clear hx hown hbl ho5
          go_wp2
          clear x0 x1 x2 x3 zx0 zx1 zx2 zx3 c9 c10 c11 c12
          generalize ((((wr.setCell ⟨w.heap.size, 0, none⟩ (.int .i64 O.en)).setCell ⟨w.heap.size, 1, none⟩ (.int .i64 O.cd)).setCell ⟨w.heap.size, 2, none⟩ (.slice cg cn cc)).setCell ⟨w.heap.size, 3, none⟩ (.int .i64 ((O.st : Nat) : Int))) = Wf at *
          have c0 := HX4.out.cell (j := 0) rfl
          have c1 := HX4.out.cell (j := 1) rfl
          have c2 := HX4.out.cell (j := 2) rfl
          have c3 := HX4.out.cell (j := 3) rfl
          exact bodyPost_ret (v := .agg #[.int .i64 O.en, .int .i64 O.cd, .slice cg cn cc, .int .i64 ((O.st : Nat) : Int)]) (by simp [results, Tryz.results30, go_sem, c0, c1, c2, c3]) rfl ⟨_, rfl, HO4.out, HB4.out⟩
end
end Go.Proofs.YtdppoblbenbafaaGreatDoor
