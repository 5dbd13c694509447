/- One step, whichever. A run begins. The document's plain run and the program's tell the same, from the first step on. The document's run as it lies beside a run, plainly. -/
import Derived.Test.YtdppoblbenbafaaGreatDoorYAY
import Derived.Test.YtdppoblbenbafaaGreatDoorO1
import Derived.Test.YtdppoblbenbafaaGreatDoorYBD
import Derived.Test.YtdppoblbenbafaaGreatDoorYBB
import Derived.Test.YtdppoblbenbafaaGreatDoorYBA
namespace Go.Proofs.YtdppoblbenbafaaGreatDoor
section
open Go.RowKit Go.Shelf
variable {p : List Fun} {pp : Option Addr} {pc : Nat} {W0 : World} {R m1 m2 : Nat} {r : Rs} {C ca P pa : Nat} {gl : List (Nat × Cal)} {gp : List (Nat × Par)} {W : World} {s : St} {tq : Nat} {lq : List (Nat × Cal)} {c : Cal} {f : Fun} {bl : Blk} {i : Ins} {g1 o1 bc g2 o2 ic : Nat}
theorem ins_all (hI : FunA W0 pp pc p) (hc : CalF p c f bl i) : ∃ g1 o1 bc g2 o2 ic, ∀ W, Below W0.heap.size W0 W → InsP W0 W p c f bl i g1 o1 bc g2 o2 ic := by
  obtain ⟨g1, o1, bc, g2, o2, ic, h⟩ := ins_cells hI (Below.refl _ W0) hc
  refine ⟨g1, o1, bc, g2, o2, ic, fun W hb => ?_⟩
  have hlt : g1 < W0.heap.size := World.block_lt_of_cell? _ _ h.y0
  obtain ⟨u1, u2, u3⟩ := (hI.below hb).2.2.1 f (List.mem_of_getElem? hc.hf)
  have u4 := (u3.2.2.1 bl (List.mem_of_getElem? hc.hb)).2.2.1 i (List.mem_of_getElem? hc.hi)
  exact ⟨h.bv, (World.cell?_of_block (hb.block g1 hlt)).trans h.y0, fun t v ht => (World.cell?_of_block (hb.block g2 h.lt)).trans (h.ce t v ht), h.lt, u4.1, h.sz⟩
/-- The bounds of a run. -/
structure Bnd (s : St) : Prop where
  lo : s.low.length ≤ 999
  nx : 0 ≤ s.nx ∧ s.nx ≤ 1099511627776
  hp : 0 ≤ s.hp ∧ s.hp ≤ 8192
  en : 0 ≤ s.en ∧ s.en ≤ 900000
  ps : s.ps.length ≤ 1000000
  out : s.out.length ≤ 1000000000
  pa : ∀ x ∈ s.ps, PaF x
theorem Wf.bnd {p : List Fun} {s : St} (h : Wf p s) (hst : s.st ≤ 600000) : Bnd s :=
  ⟨h.lo, ⟨h.nx.1, by have := h.nx.2; omega⟩, h.hp, ⟨h.en.1, by have := h.en.2; omega⟩, by have := h.ps; omega, by have := h.out; omega, h.pa⟩
theorem ans_first {c : Cal} {l : List Cal} (h : AnsL c l) : AnsF c l := fun t r e => by
  subst e
  exact h.1
theorem step_all (hp : PrF p) (hI : FunA W0 pp pc p) (hT : PwT W0) (h : RelD p pp pc W0 R m1 m2 r C ca P pa ((tq, s.top) :: lq) gp W s) (hB : Bnd s) (hA : AnsL s.top s.low) (hc : CalF p s.top f bl i) (hins : ∀ W', Below W0.heap.size W0 W' → InsP W0 W' p s.top f bl i g1 o1 bc g2 o2 ic) : Calls Tryz.prog 72 #[.pointer (some ⟨R, 0, none⟩), .pointer (some ⟨g2, o2 + s.top.j * 9, none⟩)] W fun e w' => e = .returned (.tuple #[]) ∧ OutD p pp pc W0 R m1 m2 w' (stpS p s i) := by
  obtain ⟨hF, hIF, hE, hl1, hl2, hbl, hn64, _⟩ := ins_facts_at hp hc
  have hP := hins W h.bel
  have hll : lq.length = s.low.length := by
    have := congrArg List.length h.ls
    simp only [List.length_map, List.length_cons] at this
    omega
  have hlo := hB.lo
  have hgp : gp.length ≤ 1000000 := by
    have := congrArg List.length h.gs
    rw [List.length_map] at this
    have := hB.ps
    omega
  have hj : s.top.j < 1000000 := by omega
  have ho := hIF.op
  have hreg : (f.h.rg.toNat : Int) = f.h.rg := by have := hF.rg; have := hF.pa; omega
  by_cases o1' : i.op = 1
  · exact step_const h (by omega) hc hj hIF hP o1'
  by_cases o2' : i.op = 2
  · exact step_move h (by omega) hc hj hIF hP o2'
  by_cases o3 : i.op = 3
  · exact step_bin h (by omega) hc hj hIF hP o3
  by_cases o4 : i.op = 4
  · exact step_load h (by omega) hgp (fun x hx => (hB.pa x hx).ad) hc hj hIF hP o4
  by_cases o5 : i.op = 5
  · exact step_store h (by omega) hgp (fun x hx => (hB.pa x hx).ad) hc hj hIF hP o5
  by_cases o6 : i.op = 6
  · exact step_frame h (by omega) hc hj hIF hP o6
  by_cases o7 : i.op = 7
  · refine do_callR h (by omega) hj hP o7 (fun W' hx hPx => ?_) hins
    have hg : ∀ y ∈ i.gs, 0 ≤ y ∧ y < s.top.rg.length := fun y hy => by
      have := hIF.gs y hy
      rw [hc.ln]
      omega
    have hd : i.d = -1 ∨ (0 ≤ i.d ∧ i.d < s.top.rg.length) := by
      rw [hc.ln]
      rcases hIF.dc o7 with h | h
      · exact .inl h
      · exact .inr (by omega)
    have hca := hIF.ca o7
    have glen : ∀ k, rtA i.nm.data.toList = some k → (i.gs.length : Int) = k := fun k hk => by
      unfold calB at hca
      rw [hk] at hca
      simpa using hca
    by_cases q1 : i.nm.data.toList = [114, 116, 46, 112, 114, 105, 110, 116]
    · exact call_prints (s := { s with top := { s.top with j := s.top.j + 1 } }) hx (by omega) hPx hg hc.rg hd (by have := glen 1 (by rw [q1]; decide); omega) q1 hB.out hT
    by_cases q2 : i.nm.data.toList = [114, 116, 46, 114, 101, 97, 100]
    · exact call_reads (s := { s with top := { s.top with j := s.top.j + 1 } }) hx (by omega) hPx hd (by have := glen 0 (by rw [q2]; decide); omega) q2
    by_cases q3 : i.nm.data.toList = [114, 116, 46, 97, 108, 108, 111, 99]
    · exact call_allocs (s := { s with top := { s.top with j := s.top.j + 1 } }) hx (by omega) hPx hg hd (by have := glen 1 (by rw [q3]; decide); omega) q3 hB.nx hB.hp hgp
    by_cases q4 : i.nm.data.toList = [114, 116, 46, 102, 114, 101, 101]
    · refine call_frees (s := { s with top := { s.top with j := s.top.j + 1 } }) hx (by omega) hPx hg hd (by have := glen 2 (by rw [q4]; decide); omega) q4 hB.hp hB.en hgp (fun a b hb => ?_)
      obtain ⟨_, x, hx, e⟩ := enK_two (l := s.ps) (e := s.en) (t := a) (c := b) hb
      have := (hB.pa x hx).ln
      omega
    exact call_fns (s := { s with top := { s.top with j := s.top.j + 1 } }) hx (by omega) hI hp.pr hPx hg (by unfold rtA; rw [if_neg q2, if_neg q1, if_neg q3, if_neg q4]) hca hB.nx hgp
  by_cases o8 : i.op = 8
  · exact step_jump h (by omega) hj hIF hP o8
  by_cases o9 : i.op = 9
  · exact step_if h (by omega) hc hj hIF hP o9
  by_cases o10 : i.op = 10
  · refine step_ret h (by omega) hB.en.1 hB.en.2 hgp ?_ (ans_first hA) hc hj hIF hP o10
    exact (rg_le hc.hf hF).2.1
  · exact step_trap h (by omega) hj hIF hP (by omega)
/-- The next instruction. -/
theorem next_ins (h : RelD p pp pc W0 R m1 m2 r C ca P pa ((tq, s.top) :: lq) gp W s) (hn : lq.length < 1000000) (hc : CalF p s.top f bl i) (hP : InsP W0 W p s.top f bl i g1 o1 bc g2 o2 ic) : Calls Tryz.prog 69 #[.pointer (some ⟨R, 0, none⟩)] W fun e w' => e = .returned (.pointer (some ⟨g2, o2 + s.top.j * 9, none⟩)) ∧ ∃ k, w' = W.drewN k := by
  have hs := h.stpF
  have c0 : W.cell? ⟨C, lq.length * 7, none⟩ = some (.slice (some ⟨g1, o1, none⟩) f.bs.length bc) := by
    have := own_cell h.co h.cv (i := lq.length * 7 + 0) (u := bvOf p s.top.k) (by rw [rowV_at]; rfl)
    rw [hP.bv] at this
    exact this
  exact instruction19g R C ca lq.length g1 o1 f.bs.length bc g2 o2 bl.l.length ic s.top.b s.top.j W hs.h3 hn c0 hs.c4 hs.c5 (List.getElem?_eq_some_iff.1 hc.hb).1 (List.getElem?_eq_some_iff.1 hc.hi).1 hP.y0
theorem deep_any (h : RelD p pp pc W0 R m1 m2 r C ca P pa ((tq, s.top) :: lq) gp W s) (hP : InsP W0 W p c f bl i g1 o1 bc g2 o2 ic) : Calls Tryz.prog 70 #[.pointer (some ⟨R, 0, none⟩), .pointer (some ⟨g2, o2 + c.j * 9, none⟩)] W fun e w' => e = .returned (.bool (depB s i)) ∧ w' = W := by
  have hs := h.stpF
  have i0 := hP.ce 0 _ rfl
  have i5 := hP.ce 5 _ rfl
  have hll : lq.length = s.low.length := by
    have := congrArg List.length h.ls
    simp only [List.length_map, List.length_cons] at this
    omega
  unfold depB
  by_cases o7 : i.op = 7
  · rw [o7] at i0
    by_cases hm : 1000 ≤ s.low.length + 1
    · cases hr : rtA i.nm.data.toList with
      | none =>
        have hv : rtV i.nm.toList = .tuple #[.int .i64 0, .bool false] := by unfold rtV; rw [ByteArray.toList_eq, hr]
        have t := deep_many R g2 (o2 + c.j * 9) (lq.length + 1) _ ca i.nm 0 false W i0 i5 hs.h3 (by omega) hv
        simpa [o7, hm] using t
      | some k =>
        have hv : rtV i.nm.toList = .tuple #[.int .i64 k, .bool true] := by unfold rtV; rw [ByteArray.toList_eq, hr]
        have t := deep_many R g2 (o2 + c.j * 9) (lq.length + 1) _ ca i.nm k true W i0 i5 hs.h3 (by omega) hv
        simpa [o7, hm] using t
    · have t := deep_few R g2 (o2 + c.j * 9) (lq.length + 1) _ ca W i0 hs.h3 (by omega)
      simpa [o7, hm] using t
  · have t := deep_op R g2 (o2 + c.j * 9) i.op W i0 o7
    simpa [o7] using t
end
section
open Go.RowKit Go.Shelf
theorem ixE_none (s : ByteArray) : ∀ (ps : List Fun), fnOf ps s = none → ∀ n i, Instr.findNow .string (.string s) (ixE n ps) i = some none
  | [], _, _, _ => rfl
  | y :: r, h, n, i => by
    unfold fnOf at h
    rw [List.find?_cons] at h
    split at h
    · cases h
    · rename_i hne
      have this := ixE_none s r h (n + 1) (i + 1)
      obtain ⟨b, hb, hiff⟩ := Go.MapKept.sameNow_of_keys (d := .string) (a := .string s) (b := .string y.h.nm) trivial trivial
      have : b = false := by
        cases b with
        | false => rfl
        | true => have t := hiff.1 rfl; simp at t hne; exact absurd t.symm hne
      subst this
      simp [ixE, Instr.findNow, *]
theorem ixE_snoc (x : Fun) : ∀ (ps : List Fun) (n : Nat), ixE n (ps ++ [x]) = ixE n ps ++ [{ key := .string x.h.nm, val := .int .i64 ((n + ps.length : Nat) : Int), born := n + ps.length }]
  | [], n => by simp [ixE]
  | y :: r, n => by
    simp only [List.cons_append, ixE, ixE_snoc x r (n + 1), List.length_cons]
    rw [show n + 1 + r.length = n + (r.length + 1) by omega]
theorem ixE_at {l : List Fun} {j : Nat} {x : Fun} (h : l[j]? = some x) : (ixE 0 (l.take j)).toArray.push { key := .string x.h.nm, val := .int .i64 ((j : Nat) : Int), born := j } = (ixE 0 (l.take (j + 1))).toArray := by
  obtain ⟨hj, e⟩ := List.getElem?_eq_some_iff.1 h
  rw [List.take_add_one, h]
  have hl : (l.take j).length = j := by rw [List.length_take]; omega
  rw [show (some x).toList = [x] from rfl, ixE_snoc, hl]
  simp
/-- The run, ahead of its first call. -/
structure MpK (p : List Fun) (W0 : World) (R m1 m2 : Nat) (r : Rs) (j : Nat) (wx : World) : Prop where
  bel : Below W0.heap.size W0 wx
  rb : Rb wx R r
  h1 : wx.heap[m1]? = some (.map (ixE 0 (p.take j)).toArray j)
  h2 : wx.heap[m2]? = some (.map oes 14)
theorem MpK.grow {p : List Fun} {W0 : World} {R m1 m2 : Nat} {r : Rs} {j : Nat} {wx w' : World} (h : MpK p W0 R m1 m2 r j wx) (hb : Below wx.heap.size wx w') : MpK p W0 R m1 m2 r j w' :=
  ⟨h.bel.trans (hb.mono h.bel.size), h.rb.below hb, by rw [hb.block _ (Array.getElem?_eq_some_iff.1 h.h1).1]; exact h.h1, by rw [hb.block _ (Array.getElem?_eq_some_iff.1 h.h2).1]; exact h.h2⟩
theorem MpK.upd {p : List Fun} {W0 : World} {R m1 m2 : Nat} {r : Rs} {j : Nat} {wx : World} (h : MpK p W0 R m1 m2 r j wx) (hm : W0.heap.size ≤ m1) (hn : m2 ≠ m1) : MpK p W0 R m1 m2 r (j + 1) (swp wx m1 (.map (ixE 0 (p.take (j + 1))).toArray (j + 1))) := by
  have nR : R ≠ m1 := bk_nmap h.rb h.h1
  refine ⟨swp_below h.bel _ _ hm, h.rb.keep (swp_heap _ _ _ _ nR), ?_, by rw [swp_heap _ _ _ _ hn]; exact h.h2⟩
  show (wx.heap.setIfInBounds _ _)[m1]? = _
  rw [Array.getElem?_setIfInBounds_self, if_pos (Array.getElem?_eq_some_iff.1 h.h1).1]
/-- What a run begins with. -/
def s0 (p : List Fun) (l : List UInt8) : St := ⟨⟨0, List.replicate (rgOf p 0) 0, 65536, 0, 0, -1⟩, [], [⟨1, 65536, List.replicate (frOf p 0) 0⟩], 0, 65536 + 8 * ((frOf p 0 : Int) + 1), 0, l, [], 0⟩
def runP (p : List Fun) (l : List UInt8) (fuel : Nat) : Oc := runS p fuel (s0 p l)
theorem first_fn {p : List Fun} (hp : PrF p) : ∃ f, p[0]? = some f := by
  have h := hp.pr
  unfold prB at h
  simp only [Bool.and_eq_true, decide_eq_true_eq] at h
  exact ⟨_, List.getElem?_eq_getElem (by omega)⟩
theorem wf_s0 {p : List Fun} (hp : PrF p) (l : List UInt8) : Wf p (s0 p l) := by
  obtain ⟨f, hf⟩ := first_fn hp
  obtain ⟨hF, _⟩ := prog_fn hp.pr hf
  obtain ⟨h1, h2, h3⟩ := rg_le hf hF
  have hbl : f.h.bl = f.bs.length := hp.bl f (List.mem_of_getElem? hf)
  have hb := hF.bl
  have ht : AtF p ⟨0, List.replicate (rgOf p 0) 0, 65536, 0, 0, -1⟩ := by
    refine at_block hp (c := ⟨0, List.replicate (rgOf p 0) 0, 65536, 0, 0, -1⟩) hf (by show 0 < _; omega) rfl ?_ ?_
    · simp only [List.length_replicate]
      unfold rgOf
      rw [hf]
      rfl
    · intro v hv
      rw [(List.mem_replicate.1 hv).2]
      exact i64_small _ (by omega) (by omega)
  exact {
    top := ht
    low := fun c hc => by cases (show c ∈ ([] : List Cal) from hc)
    ans := trivial
    lo := by show (0 : Nat) ≤ 999; omega
    nx := ⟨by show (0 : Int) ≤ 65536 + 8 * ((frOf p 0 : Int) + 1); omega, by show 65536 + 8 * ((frOf p 0 : Int) + 1) ≤ 65536 + (((0 : Nat) : Int) + 1) * 32776; omega⟩
    hp := ⟨by show (0 : Int) ≤ 0; omega, by show (0 : Int) ≤ 8192; omega⟩
    en := ⟨by show (0 : Int) ≤ 0; omega, by show (0 : Int) ≤ ((0 : Nat) : Int); omega⟩
    ps := by show (1 : Nat) ≤ 0 + 1; omega
    out := by show (0 : Nat) ≤ 0 * 65; omega
    hs := by show (0 : Int) = (sumH [⟨1, 65536, List.replicate (frOf p 0) 0⟩] : Int); simp [sumH, hA]
    pa := fun x hx => by
      have hx' : x ∈ [(⟨1, 65536, List.replicate (frOf p 0) 0⟩ : Par)] := hx
      simp only [List.mem_singleton] at hx'
      subst hx'
      refine ⟨by show (0 : Int) ≤ 65536; omega, by simp only [List.length_replicate]; omega, fun v hv => ?_⟩
      rw [(List.mem_replicate.1 hv).2]
      exact i64_small _ (by omega) (by omega) }
/-- A run behind its first call's beginning. -/
theorem first_rel {p : List Fun} {pp : Option Addr} {pc : Nat} {W0 : World} {R m1 m2 : Nat} {iv : Value} {l : List UInt8} {V W' : World} (hK : MpK p W0 R m1 m2 ⟨.slice pp p.length pc, .map (some m1), .map (some m2), .slice none 0 0, .slice none 0 0, 0, 65536, 0, iv, 0, 0, .slice none 0 0, 0⟩ p.length V) (hR : W0.heap.size ≤ R) (hiv : InV W0 V iv l) (hE : EnP R W0.heap.size 0 0 (rgOf p 0) (frOf p 0) (bvOf p 0) (-1) ⟨.slice pp p.length pc, .map (some m1), .map (some m2), .slice none 0 0, .slice none 0 0, 0, 65536, 0, iv, 0, 0, .slice none 0 0, 0⟩ [] [] (List.replicate (rgOf p 0) (.int .i64 0)) V W') : GoD p pp pc W0 R m1 m2 W' (s0 p l) := by
  obtain ⟨cv, pv, gw, k0, hRb, ho, hpo, hq, hg, hgl⟩ := hE.out
  obtain ⟨C', ca', ec, hC'⟩ := own_sl ho
  obtain ⟨P', pa', ep, hP'⟩ := own_sl hpo
  have k : Onl (fun b => b = R) V W' := k0.mono fun b hb => by
    rcases hb with hb | hb | hb
    · exact hb
    · cases hb
    · cases hb
  have h1 := hK.h1
  rw [List.take_length] at h1
  have hs := hK.bel.size
  have nm1 : m1 ≠ R := fun e => bk_nmap hK.rb hK.h1 e.symm
  have nm2 : m2 ≠ R := fun e => bk_nmap hK.rb hK.h2 e.symm
  have hbel : Below W0.heap.size W0 W' := Onl.below (Nat.le_refl _) hK.bel k (fun b e => by rw [e]; exact hR)
  have hbel2 : Below W0.heap.size V W' := Onl.below hs (Below.refl _ _) k (fun b e => by rw [e]; exact hR)
  have hq' : RgB W' (V.heap.size + 1) (List.replicate (rgOf p 0) 0) := by
    show Bk W' _ 2 _
    rw [rep_map]
    exact hq
  refine ⟨_, C', ca', P', pa', [(V.heap.size + 1, (s0 p l).top)], [(gw, ⟨1, 65536, List.replicate (frOf p 0) 0⟩)], hbel, hR, hRb, rfl, rfl, rfl, ⟨p.length, ?_⟩, ?_, ec, ?_, ep, ?_, ?_, by simp, ?_, by simp, rfl, rfl, rfl, rfl, rfl, rfl, rfl, rfl, ?_, ?_⟩
  · rw [k.block m1 (Array.getElem?_eq_some_iff.1 h1).1 nm1]; exact h1
  · rw [k.block m2 (Array.getElem?_eq_some_iff.1 hK.h2).1 nm2]; exact hK.h2
  · simp only [rowV, calV, s0, List.length_replicate, List.nil_append, List.length_singleton]
    exact ho
  · have e := flP_snoc [] (gw, ⟨1, 65536, List.replicate (frOf p 0) 0⟩) (by simp)
    simp only [List.nil_append, List.length_replicate] at e
    rw [e]
    exact hpo
  · intro x hx
    simp only [List.mem_singleton] at hx
    subst hx
    exact ⟨by show _ ≤ V.heap.size + 1; omega, hq'⟩
  · intro x hx _
    simp only [List.mem_singleton] at hx
    subst hx
    refine ⟨by show _ ≤ gw; omega, ?_, ?_⟩
    · show Bk W' gw 2 _
      rw [rep_map]
      exact hg
    · simp
      omega
  · exact hiv.below hbel2
  · exact ⟨rfl, .inl ⟨rfl, rfl⟩⟩
theorem pw_alloc {w : World} (o : Obj) (h : PwT w) : PwT (w.alloc o) := fun w' hb => h w' (by
  have h1 : Below w.heap.size w (w.alloc o) := (Below.refl _ _).alloc (Nat.le_refl _) o
  exact h1.trans (hb.mono h1.size))
end
section
open Go.RowKit Go.Shelf
theorem Sim.tick {p : List Fun} {s : St} {r : Rt} (h : Sim p s r) : Sim p { s with st := s.st + 1 } { r with st := r.st + 1 } :=
  ⟨h.top, h.low, h.lv, h.srt, h.srtR, h.nx, h.hp, h.inp, h.out, (by show r.st + 1 = s.st + 1; rw [h.st]), h.bnd, h.bndR, h.fr, h.nd⟩
theorem dep_is {s : St} {i : Ins} : depB s i = true ↔ i.op = 7 ∧ 1000 ≤ s.low.length + 1 ∧ rtA i.nm.data.toList = none := by
  unfold depB
  simp
theorem deep_same {p : List Fun} {s : St} {r : Rt} (h : Sim p s r) {i : Ins} (hd : depB s i = true) : stpR p { r with st := r.st + 1 } i = .inr ⟨2, 0, s.out, s.st⟩ := by
  obtain ⟨o7, hl, hr⟩ := dep_is.1 hd
  unfold stpR
  dsimp only
  rw [o7, if_neg (by decide), if_neg (by decide), if_neg (by decide), if_neg (by decide), if_neg (by decide), if_neg (by decide), if_pos rfl]
  unfold calR
  dsimp only
  unfold rtA at hr
  split at hr
  · cases hr
  rename_i n2
  split at hr
  · cases hr
  rename_i n1
  split at hr
  · cases hr
  rename_i n3
  split at hr
  · cases hr
  rename_i n4
  rw [if_neg n1, if_neg n2, if_neg n3, if_neg n4, if_pos (by rw [h.low_len]; exact hl), h.out, h.st]
  rfl
theorem run_same {p : List Fun} (hp : PrF p) : ∀ (n : Nat) (s : St) (r : Rt), Sim p s r → Wf p s → s.st + n ≤ 600000 → runR p n r = runS p n s
  | 0, s, r, h, _, _ => by rw [runR, runS, h.out, h.st]
  | n + 1, s, r, h, hW, hs => by
    obtain ⟨f, bl, i, hc⟩ := hW.top
    have hi : insAt p s.top = some i := by
      unfold insAt
      rw [hc.hf, Option.bind_some, hc.hb, Option.bind_some, hc.hi]
    rw [runR, runS, h.top, hi]
    dsimp only
    cases hd : depB s i with
    | true => rw [if_pos rfl, deep_same h hd]
    | false =>
      rw [if_neg (by decide)]
      have hB := stp_same h.tick (i := i) (fun o7 hr => by
        by_cases hl : 1000 ≤ s.low.length + 1
        · rw [dep_is.2 ⟨o7, hl, hr⟩] at hd; cases hd
        · show s.low.length + 1 < 1000; omega)
      cases h1 : stpS p { s with st := s.st + 1 } i with
      | inl s' =>
        obtain ⟨hW', hst⟩ := wf_step hp hW hc hd (by omega) h1
        rw [h1] at hB
        cases h2 : stpR p { r with st := r.st + 1 } i with
        | inl r' =>
          rw [h2] at hB
          exact run_same hp n s' r' hB hW' (by omega)
        | inr o => rw [h2] at hB; exact hB.elim
      | inr o =>
        rw [h1] at hB
        cases h2 : stpR p { r with st := r.st + 1 } i with
        | inl r' => rw [h2] at hB; exact hB.elim
        | inr o' =>
          rw [h2] at hB
          exact hB.symm
/-- The document's run at its beginning. -/
def r0 (p : List Fun) (l : List UInt8) : Rt := ⟨((s0 p l).top, 0), [], [⟨65536, List.replicate (frOf p 0) 0, false, false⟩], 65536 + 8 * ((frOf p 0 : Int) + 1), 0, l, [], 0⟩
theorem sim_first (p : List Fun) (l : List UInt8) : Sim p (s0 p l) (r0 p l) := by
  refine ⟨rfl, rfl, rfl, List.pairwise_singleton _ _, List.pairwise_singleton _ _, rfl, rfl, rfl, rfl, rfl, fun a ha => ?_, fun a ha => ?_, fun x hx => ?_, ?_⟩
  · rw [show a = ⟨1, 65536, List.replicate (frOf p 0) 0⟩ from List.mem_singleton.1 ha]
    show 65536 + 8 * (((List.replicate (frOf p 0) (0 : Int)).length : Int) + 1) ≤ 65536 + 8 * ((frOf p 0 : Int) + 1)
    rw [List.length_replicate]
    exact Int.le_refl _
  · rw [show a = ⟨65536, List.replicate (frOf p 0) 0, false, false⟩ from List.mem_singleton.1 ha]
    show 65536 + 8 * (((List.replicate (frOf p 0) (0 : Int)).length : Int) + 1) ≤ 65536 + 8 * ((frOf p 0 : Int) + 1)
    rw [List.length_replicate]
    exact Int.le_refl _
  · rw [show x = ((s0 p l).top, 0) from List.mem_singleton.1 hx]
    exact ⟨⟨65536, List.replicate (frOf p 0) 0, false, false⟩, rfl, rfl, rfl, rfl, List.length_replicate ..⟩
  · show [0].Nodup
    simp
/-- What the document's run tells is what the program's tells. -/
theorem runR_is {p : List Fun} (hp : PrF p) (l : List UInt8) (fuel : Nat) (hf : fuel ≤ 600000) : runR p fuel (r0 p l) = runP p l fuel :=
  run_same hp fuel (s0 p l) (r0 p l) (sim_first p l) (wf_s0 hp l) (by show 0 + fuel ≤ _; omega)
end
section
open Go.RowKit Go.Shelf
def cafX (x : Nat × (Cal × Nat)) : List Value := fmC ((x.2.1.k : Nat) : Int) x.1 x.2.1.rg.length ((x.2.2 : Nat) : Int) ((x.2.1.b : Nat) : Int) ((x.2.1.j : Nat) : Int) x.2.1.an
/-- The row of calls: the innermost one last. -/
def rowX : List (Nat × (Cal × Nat)) → List Value
  | [] => []
  | x :: l => rowX l ++ cafX x
theorem rowX_len : ∀ l, (rowX l).length = l.length * 6
  | [] => rfl
  | x :: l => by simp [rowX, rowX_len l, cafX, fmC]; omega
theorem rowX_at (x : Nat × (Cal × Nat)) (l : List (Nat × (Cal × Nat))) (t : Nat) (v : Value) (h : (cafX x)[t]? = some v) : (rowX (x :: l))[l.length * 6 + t]? = some v := by
  rw [rowX, List.getElem?_append_right (by rw [rowX_len]; omega), rowX_len, show l.length * 6 + t - l.length * 6 = t by omega, h]
theorem rowX_low (x : Nat × (Cal × Nat)) (l : List (Nat × (Cal × Nat))) (i : Nat) (v : Value) (h : (rowX l)[i]? = some v) : (rowX (x :: l))[i]? = some v := by
  rw [rowX, List.getElem?_append_left (List.getElem?_eq_some_iff.1 h).1, h]
theorem rowX_set (x y : Nat × (Cal × Nat)) (l : List (Nat × (Cal × Nat))) (t : Nat) (u : Value) (h : cafX y = (cafX x).set t u) : rowX (y :: l) = (rowX (x :: l)).set (l.length * 6 + t) u := by
  rw [rowX, rowX, h, List.set_append_right _ _ (by rw [rowX_len]; omega), rowX_len, show l.length * 6 + t - l.length * 6 = t by omega]
/-- The document's run as it lies. -/
structure RelX (p : List Fun) (pp : Option Addr) (pc : Nat) (L : List UInt8) (W0 : World) (R : Nat) (r : Rq) (C ca P pa : Nat) (gl : List (Nat × (Cal × Nat))) (go : List (Nat × Ob)) (W : World) (s : Rt) : Prop where
  bel : Below W0.heap.size W0 W
  rB : W0.heap.size ≤ R
  rb : Rqb W R r
  pg : r.pg = .slice pp p.length pc
  cv : r.cv = .slice (some ⟨C, 0, none⟩) gl.length ca
  co : W.ownsRow W0.heap.size 109 6 r.cv gl.length (rowX gl)
  pv : r.ob = .slice (some ⟨P, 0, none⟩) go.length pa
  po : W.ownsRow W0.heap.size 146 4 r.ob go.length (flO go)
  rg : ∀ x ∈ gl, W0.heap.size ≤ x.1 ∧ RgB W x.1 x.2.1.rg
  nd : (gl.map (·.1)).Nodup
  wd : ∀ x ∈ go, W0.heap.size ≤ x.1 ∧ RgB W x.1 x.2.ws ∧ x.1 ∉ gl.map (·.1)
  wn : (go.map (·.1)).Nodup
  ls : gl.map (·.2) = s.top :: s.low
  os : go.map (·.2) = s.os
  nx : r.nx = s.nx
  hp : r.hp = s.hp
  en : r.en = 0
  cd : r.cd = 0
  ovr : r.ovr = false
  st : r.st = s.st
  iv : InV W0 W0 r.iv L
  rd : ∃ k : Nat, r.rd = (k : Int) ∧ k ≤ L.length ∧ s.inp = L.drop k
  ov : W.ownsRow W0.heap.size 5 1 r.ov s.out.length (Lib.byteCells s.out)
variable {p : List Fun} {pp : Option Addr} {pc : Nat} {L : List UInt8} {W0 : World} {R : Nat} {r : Rq} {C ca P pa : Nat} {gl : List (Nat × (Cal × Nat))} {go : List (Nat × Ob)} {W : World} {s : Rt}
theorem RelX.bC (h : RelX p pp pc L W0 R r C ca P pa gl go W s) : W0.heap.size ≤ C ∧ ∃ cs, Bk W C 109 cs ∧ cs.take (gl.length * 6) = rowX gl ∧ gl.length ≤ ca ∧ ca ≤ maxLen ∧ cs.length = ca * 6 := by
  obtain ⟨h1, cs, h2, h3, h4, h5, h6⟩ := own_bk h.co h.cv
  exact ⟨h1, cs, h2, h6, h3, h4, h5⟩
theorem RelX.bP (h : RelX p pp pc L W0 R r C ca P pa gl go W s) : W0.heap.size ≤ P ∧ ∃ cs, Bk W P 146 cs ∧ cs.take (go.length * 4) = flO go ∧ go.length ≤ pa ∧ pa ≤ maxLen ∧ cs.length = pa * 4 := by
  obtain ⟨h1, cs, h2, h3, h4, h5, h6⟩ := own_bk h.po h.pv
  exact ⟨h1, cs, h2, h6, h3, h4, h5⟩
theorem RelX.bO (h : RelX p pp pc L W0 R r C ca P pa gl go W s) {g : Nat} (hg : r.ov.ownBlock = some g) : W0.heap.size ≤ g ∧ ∃ cs, Bk W g 5 cs := own_block h.ov hg
theorem RelX.hd (h : RelX p pp pc L W0 R r C ca P pa gl go W s) : ∃ tq lq, gl = (tq, s.top) :: lq ∧ lq.map (·.2) = s.low := by
  have := h.ls
  cases gl with
  | nil => cases this
  | cons x l =>
    simp only [List.map_cons, List.cons.injEq] at this
    obtain ⟨e1, e2⟩ := this
    exact ⟨x.1, l, by rw [← e1], e2⟩
theorem RelX.obA (h : RelX p pp pc L W0 R r C ca P pa gl go W s) : ObA W P go := fun k x hk t v ht => own_cell h.po h.pv (flO_at go k x hk t v ht)
theorem RelX.len (h : RelX p pp pc L W0 R r C ca P pa gl go W s) : gl.length = s.low.length + 1 ∧ go.length = s.os.length := by
  have h1 := congrArg List.length h.ls
  have h2 := congrArg List.length h.os
  simp only [List.length_map, List.length_cons] at h1 h2
  exact ⟨h1, h2⟩
/-- What touches the calls' row and registers alone. -/
theorem RelX.regs (h : RelX p pp pc L W0 R r C ca P pa gl go W s) {gl' : List (Nat × (Cal × Nat))} {W' : World} {s' : Rt} {q : Nat} (k : Onl (fun b => b = C ∨ b = q) W W') (hq : q ∈ gl.map (·.1)) (hkeys : gl'.map (·.1) = gl.map (·.1)) (hco : W'.ownsRow W0.heap.size 109 6 r.cv gl.length (rowX gl')) (hrg : ∀ x ∈ gl', RgB W' x.1 x.2.1.rg) (hls : gl'.map (·.2) = s'.top :: s'.low) (e1 : s'.os = s.os) (e3 : s'.nx = s.nx) (e4 : s'.hp = s.hp) (e5 : s'.inp = s.inp) (e6 : s'.out = s.out) (e7 : s'.st = s.st) : RelX p pp pc L W0 R r C ca P pa gl' go W' s' := by
  obtain ⟨c0, cs, hC, _⟩ := h.bC
  obtain ⟨p0, ps, hP, _⟩ := h.bP
  obtain ⟨x, hx, rfl⟩ := List.mem_map.1 hq
  obtain ⟨q0, hQ⟩ := h.rg x hx
  have hlen : gl'.length = gl.length := by have := congrArg List.length hkeys; simpa using this
  have k0 : ∀ b, (b = C ∨ b = x.1) → W0.heap.size ≤ b := fun b hb => by rcases hb with rfl | rfl; exact c0; exact q0
  refine ⟨Onl.below (Nat.le_refl _) h.bel k k0, h.rB, h.rb.onl k ?_, h.pg, by rw [hlen]; exact h.cv, by rw [hlen]; exact hco, h.pv, own_onl h.po k ?_, ?_, by rw [hkeys]; exact h.nd, ?_, h.wn, hls, by rw [e1]; exact h.os, by rw [e3]; exact h.nx, by rw [e4]; exact h.hp, h.en, h.cd, h.ovr, by rw [e7]; exact h.st, h.iv, by rw [e5]; exact h.rd, ?_⟩
  · rintro (e | e)
    · exact h.rb.ne hC (by decide) e
    · exact h.rb.ne hQ (by decide) e
  · intro g hg
    rw [h.pv] at hg
    cases hg
    rintro (e | e)
    · exact hP.ne hC (by decide) e
    · exact hP.ne hQ (by decide) e
  · intro y hy
    have hm : y.1 ∈ gl.map (·.1) := by rw [← hkeys]; exact List.mem_map.2 ⟨y, hy, rfl⟩
    obtain ⟨z, hz, ez⟩ := List.mem_map.1 hm
    exact ⟨by rw [← ez]; exact (h.rg z hz).1, hrg y hy⟩
  · intro y hy
    obtain ⟨t1, t2, t3⟩ := h.wd y hy
    refine ⟨t1, t2.onl k ?_, by rw [hkeys]; exact t3⟩
    rintro (e | e)
    · exact t2.ne hC (by decide) e
    · exact t3 (by rw [e]; exact List.mem_map.2 ⟨x, hx, rfl⟩)
  · rw [e6]
    refine own_onl h.ov k (fun g hg => ?_)
    obtain ⟨_, os, hO⟩ := h.bO hg
    rintro (e | e)
    · exact hO.ne hC (by decide) e
    · exact hO.ne hQ (by decide) e
/-- A cell of the innermost call's row that is set. -/
theorem RelX.cell {tq : Nat} {lq : List (Nat × (Cal × Nat))} (h : RelX p pp pc L W0 R r C ca P pa ((tq, s.top) :: lq) go W s) {W' : World} {c : Cal} {cs : List Value} (k : Onl (fun b => b = C) W W') (hk : c.rg = s.top.1.rg) (hb : Bk W' C 109 cs) (hl : cs.length = ca * 6) (ht : cs.take ((lq.length + 1) * 6) = rowX ((tq, (c, s.top.2)) :: lq)) : RelX p pp pc L W0 R r C ca P pa ((tq, (c, s.top.2)) :: lq) go W' { s with top := (c, s.top.2) } := by
  obtain ⟨c0, cs0, hC, h1, h2, h3, h4⟩ := h.bC
  have hls := h.ls
  simp only [List.map_cons, List.cons.injEq] at hls
  refine h.regs (q := tq) (k.mono fun b e => .inl e) (by simp) (by simp) ?_ ?_ (by simp [hls.2]) rfl rfl rfl rfl rfl rfl
  · rw [h.cv]
    exact own_of c0 hb h2 h3 hl ht
  · intro x hx
    rcases List.mem_cons.1 hx with rfl | hx
    · have t := (h.rg (tq, s.top) (by simp)).2
      show RgB W' tq c.rg
      rw [hk]
      exact t.onl k (t.ne hC (by decide))
    · have t := (h.rg x (by simp [hx])).2
      exact t.onl k (t.ne hC (by decide))
/-- The next instruction is come to. -/
theorem RelX.ste {tq : Nat} {lq : List (Nat × (Cal × Nat))} (h : RelX p pp pc L W0 R r C ca P pa ((tq, s.top) :: lq) go W s) {W' : World} {cs : List Value} (hb0 : Bk W C 109 cs) (hS : SteQ C lq.length s.top.1.j cs W W') : RelX p pp pc L W0 R r C ca P pa ((tq, ({ s.top.1 with j := s.top.1.j + 1 }, s.top.2)) :: lq) go W' { s with top := ({ s.top.1 with j := s.top.1.j + 1 }, s.top.2) } := by
  obtain ⟨c0, cs0, hC, h1, h2, h3, h4⟩ := h.bC
  have e : cs = cs0 := by unfold Bk at hb0 hC; rw [hC] at hb0; cases hb0; rfl
  subst e
  refine h.cell (c := { s.top.1 with j := s.top.1.j + 1 }) hS.1 rfl hS.2 (by rw [List.length_set]; exact h4) ?_
  rw [List.take_set, ← List.length_cons (a := (tq, s.top)), h1, rowX_set (tq, s.top) (tq, ({ s.top.1 with j := s.top.1.j + 1 }, s.top.2)) lq 4 (.int .i64 ((s.top.1.j : Int) + 1)) (by simp [cafX, fmC])]
/-- A register that is set. -/
theorem RelX.put {tq : Nat} {lq : List (Nat × (Cal × Nat))} (h : RelX p pp pc L W0 R r C ca P pa ((tq, s.top) :: lq) go W s) {W' : World} {d : Nat} {v : Int} (hS : SetQ tq (s.top.1.rg.set d v) W W') : RelX p pp pc L W0 R r C ca P pa ((tq, ({ s.top.1 with rg := s.top.1.rg.set d v }, s.top.2)) :: lq) go W' { s with top := ({ s.top.1 with rg := s.top.1.rg.set d v }, s.top.2) } := by
  obtain ⟨c0, cs0, hC, h1, h2, h3, h4⟩ := h.bC
  have hls := h.ls
  simp only [List.map_cons, List.cons.injEq] at hls
  refine h.regs (q := tq) (hS.1.mono fun b e => .inr e) (by simp) (by simp) ?_ ?_ (by simp [hls.2]) rfl rfl rfl rfl rfl rfl
  · have e : rowX ((tq, ({ s.top.1 with rg := s.top.1.rg.set d v }, s.top.2)) :: lq) = rowX ((tq, s.top) :: lq) := by rw [rowX, rowX]; simp [cafX]
    rw [e]
    refine own_onl h.co hS.1 (fun g hg e => ?_)
    rw [h.cv] at hg
    cases hg
    exact (h.rg (tq, s.top) (by simp)).2.ne hC (by decide) e.symm
  · intro x hx
    rcases List.mem_cons.1 hx with rfl | hx
    · exact hS.2
    · have t := (h.rg x (by simp [hx])).2
      have hn := h.nd
      simp only [List.map_cons, List.nodup_cons] at hn
      exact t.onl hS.1 (fun e => hn.1 (by rw [← e]; exact List.mem_map.2 ⟨x, hx, rfl⟩))
end
end Go.Proofs.YtdppoblbenbafaaGreatDoor
