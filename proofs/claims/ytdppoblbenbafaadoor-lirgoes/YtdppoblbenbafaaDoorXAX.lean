/- A run begins. A whole run. -/
import Derived.Test.YtdppoblbenbafaaDoorXAW
import Derived.Test.YtdppoblbenbafaaDoorO1
namespace Go.Proofs.YtdppoblbenbafaaDoor
section
open Go.RowKit Go.Shelf
theorem ixE_none (s : ByteArray) : ∀ (ps : List Fun), fnOf ps s = none → ∀ n i, Instr.findNow .string (.string s) (ixE n ps) i = some none
  | [], _, _, _ => rfl
  | y :: r, h, n, i => by
    unfold fnOf at h
    rw [List.find?_cons] at h
    split at h
    · cases h
    · rename_i hne
      have this := ixE_none s r h (n + 1) (i + 1)
      obtain ⟨b, hb, hiff⟩ := Go.MapKept.sameNow_of_keys (d := .string) (a := .string s) (b := .string y.h.nm) trivial trivial
      have : b = false := by
        cases b with
        | false => rfl
        | true => have t := hiff.1 rfl; simp at t hne; exact absurd t.symm hne
      subst this
      simp [ixE, Instr.findNow, *]
theorem ixE_snoc (x : Fun) : ∀ (ps : List Fun) (n : Nat), ixE n (ps ++ [x]) = ixE n ps ++ [{ key := .string x.h.nm, val := .int .i64 ((n + ps.length : Nat) : Int), born := n + ps.length }]
  | [], n => by simp [ixE]
  | y :: r, n => by
    simp only [List.cons_append, ixE, ixE_snoc x r (n + 1), List.length_cons]
    rw [show n + 1 + r.length = n + (r.length + 1) by omega]
theorem ixE_at {l : List Fun} {j : Nat} {x : Fun} (h : l[j]? = some x) : (ixE 0 (l.take j)).toArray.push { key := .string x.h.nm, val := .int .i64 ((j : Nat) : Int), born := j } = (ixE 0 (l.take (j + 1))).toArray := by
  obtain ⟨hj, e⟩ := List.getElem?_eq_some_iff.1 h
  rw [List.take_add_one, h]
  have hl : (l.take j).length = j := by rw [List.length_take]; omega
  rw [show (some x).toList = [x] from rfl, ixE_snoc, hl]
  simp
/-- The run, ahead of its first call. -/
structure MpK (p : List Fun) (W0 : World) (R m1 m2 : Nat) (r : Rs) (j : Nat) (wx : World) : Prop where
  bel : Below W0.heap.size W0 wx
  rb : Rb wx R r
  h1 : wx.heap[m1]? = some (.map (ixE 0 (p.take j)).toArray j)
  h2 : wx.heap[m2]? = some (.map oes 14)
theorem MpK.grow {p : List Fun} {W0 : World} {R m1 m2 : Nat} {r : Rs} {j : Nat} {wx w' : World} (h : MpK p W0 R m1 m2 r j wx) (hb : Below wx.heap.size wx w') : MpK p W0 R m1 m2 r j w' :=
  ⟨h.bel.trans (hb.mono h.bel.size), h.rb.below hb, by rw [hb.block _ (Array.getElem?_eq_some_iff.1 h.h1).1]; exact h.h1, by rw [hb.block _ (Array.getElem?_eq_some_iff.1 h.h2).1]; exact h.h2⟩
theorem MpK.upd {p : List Fun} {W0 : World} {R m1 m2 : Nat} {r : Rs} {j : Nat} {wx : World} (h : MpK p W0 R m1 m2 r j wx) (hm : W0.heap.size ≤ m1) (hn : m2 ≠ m1) : MpK p W0 R m1 m2 r (j + 1) (swp wx m1 (.map (ixE 0 (p.take (j + 1))).toArray (j + 1))) := by
  have nR : R ≠ m1 := bk_nmap h.rb h.h1
  refine ⟨swp_below h.bel _ _ hm, h.rb.keep (swp_heap _ _ _ _ nR), ?_, by rw [swp_heap _ _ _ _ hn]; exact h.h2⟩
  show (wx.heap.setIfInBounds _ _)[m1]? = _
  rw [Array.getElem?_setIfInBounds_self, if_pos (Array.getElem?_eq_some_iff.1 h.h1).1]
/-- What a run begins with. -/
def s0 (p : List Fun) (l : List UInt8) : St := ⟨⟨0, List.replicate (rgOf p 0) 0, 65536, 0, 0, -1⟩, [], [⟨1, 65536, List.replicate (frOf p 0) 0⟩], 0, 65536 + 8 * ((frOf p 0 : Int) + 1), 0, l, [], 0⟩
def runP (p : List Fun) (l : List UInt8) (fuel : Nat) : Oc := runS p fuel (s0 p l)
theorem first_fn {p : List Fun} (hp : PrF p) : ∃ f, p[0]? = some f := by
  have h := hp.pr
  unfold prB at h
  simp only [Bool.and_eq_true, decide_eq_true_eq] at h
  exact ⟨_, List.getElem?_eq_getElem (by omega)⟩
theorem wf_s0 {p : List Fun} (hp : PrF p) (l : List UInt8) : Wf p (s0 p l) := by
  obtain ⟨f, hf⟩ := first_fn hp
  obtain ⟨hF, _⟩ := prog_fn hp.pr hf
  obtain ⟨h1, h2, h3⟩ := rg_le hf hF
  have hbl : f.h.bl = f.bs.length := hp.bl f (List.mem_of_getElem? hf)
  have hb := hF.bl
  have ht : AtF p ⟨0, List.replicate (rgOf p 0) 0, 65536, 0, 0, -1⟩ := by
    refine at_block hp (c := ⟨0, List.replicate (rgOf p 0) 0, 65536, 0, 0, -1⟩) hf (by show 0 < _; omega) rfl ?_ ?_
    · simp only [List.length_replicate]
      unfold rgOf
      rw [hf]
      rfl
    · intro v hv
      rw [(List.mem_replicate.1 hv).2]
      exact i64_small _ (by omega) (by omega)
  exact {
    top := ht
    low := fun c hc => by cases (show c ∈ ([] : List Cal) from hc)
    ans := trivial
    lo := by show (0 : Nat) ≤ 999; omega
    nx := ⟨by show (0 : Int) ≤ 65536 + 8 * ((frOf p 0 : Int) + 1); omega, by show 65536 + 8 * ((frOf p 0 : Int) + 1) ≤ 65536 + (((0 : Nat) : Int) + 1) * 32776; omega⟩
    hp := ⟨by show (0 : Int) ≤ 0; omega, by show (0 : Int) ≤ 8192; omega⟩
    en := ⟨by show (0 : Int) ≤ 0; omega, by show (0 : Int) ≤ ((0 : Nat) : Int); omega⟩
    ps := by show (1 : Nat) ≤ 0 + 1; omega
    out := by show (0 : Nat) ≤ 0 * 65; omega
    hs := by show (0 : Int) = (sumH [⟨1, 65536, List.replicate (frOf p 0) 0⟩] : Int); simp [sumH, hA]
    pa := fun x hx => by
      have hx' : x ∈ [(⟨1, 65536, List.replicate (frOf p 0) 0⟩ : Par)] := hx
      simp only [List.mem_singleton] at hx'
      subst hx'
      refine ⟨by show (0 : Int) ≤ 65536; omega, by simp only [List.length_replicate]; omega, fun v hv => ?_⟩
      rw [(List.mem_replicate.1 hv).2]
      exact i64_small _ (by omega) (by omega) }
/-- A run behind its first call's beginning. -/
theorem first_rel {p : List Fun} {pp : Option Addr} {pc : Nat} {W0 : World} {R m1 m2 : Nat} {iv : Value} {l : List UInt8} {V W' : World} (hK : MpK p W0 R m1 m2 ⟨.slice pp p.length pc, .map (some m1), .map (some m2), .slice none 0 0, .slice none 0 0, 0, 65536, 0, iv, 0, 0, .slice none 0 0, 0⟩ p.length V) (hR : W0.heap.size ≤ R) (hiv : InV W0 V iv l) (hE : EnP R W0.heap.size 0 0 (rgOf p 0) (frOf p 0) (bvOf p 0) (-1) ⟨.slice pp p.length pc, .map (some m1), .map (some m2), .slice none 0 0, .slice none 0 0, 0, 65536, 0, iv, 0, 0, .slice none 0 0, 0⟩ [] [] (List.replicate (rgOf p 0) (.int .i64 0)) V W') : GoD p pp pc W0 R m1 m2 W' (s0 p l) := by
  obtain ⟨cv, pv, gw, k0, hRb, ho, hpo, hq, hg, hgl⟩ := hE.out
  obtain ⟨C', ca', ec, hC'⟩ := own_sl ho
  obtain ⟨P', pa', ep, hP'⟩ := own_sl hpo
  have k : Onl (fun b => b = R) V W' := k0.mono fun b hb => by
    rcases hb with hb | hb | hb
    · exact hb
    · cases hb
    · cases hb
  have h1 := hK.h1
  rw [List.take_length] at h1
  have hs := hK.bel.size
  have nm1 : m1 ≠ R := fun e => bk_nmap hK.rb hK.h1 e.symm
  have nm2 : m2 ≠ R := fun e => bk_nmap hK.rb hK.h2 e.symm
  have hbel : Below W0.heap.size W0 W' := Onl.below (Nat.le_refl _) hK.bel k (fun b e => by rw [e]; exact hR)
  have hbel2 : Below W0.heap.size V W' := Onl.below hs (Below.refl _ _) k (fun b e => by rw [e]; exact hR)
  have hq' : RgB W' (V.heap.size + 1) (List.replicate (rgOf p 0) 0) := by
    show Bk W' _ 2 _
    rw [rep_map]
    exact hq
  refine ⟨_, C', ca', P', pa', [(V.heap.size + 1, (s0 p l).top)], [(gw, ⟨1, 65536, List.replicate (frOf p 0) 0⟩)], hbel, hR, hRb, rfl, rfl, rfl, ⟨p.length, ?_⟩, ?_, ec, ?_, ep, ?_, ?_, by simp, ?_, by simp, rfl, rfl, rfl, rfl, rfl, rfl, rfl, rfl, ?_, ?_⟩
  · rw [k.block m1 (Array.getElem?_eq_some_iff.1 h1).1 nm1]; exact h1
  · rw [k.block m2 (Array.getElem?_eq_some_iff.1 hK.h2).1 nm2]; exact hK.h2
  · simp only [rowV, calV, s0, List.length_replicate, List.nil_append, List.length_singleton]
    exact ho
  · have e := flP_snoc [] (gw, ⟨1, 65536, List.replicate (frOf p 0) 0⟩) (by simp)
    simp only [List.nil_append, List.length_replicate] at e
    rw [e]
    exact hpo
  · intro x hx
    simp only [List.mem_singleton] at hx
    subst hx
    exact ⟨by show _ ≤ V.heap.size + 1; omega, hq'⟩
  · intro x hx _
    simp only [List.mem_singleton] at hx
    subst hx
    refine ⟨by show _ ≤ gw; omega, ?_, ?_⟩
    · show Bk W' gw 2 _
      rw [rep_map]
      exact hg
    · simp
      omega
  · exact hiv.below hbel2
  · exact ⟨rfl, .inl ⟨rfl, rfl⟩⟩
theorem pw_alloc {w : World} (o : Obj) (h : PwT w) : PwT (w.alloc o) := fun w' hb => h w' (by
  have h1 : Below w.heap.size w (w.alloc o) := (Below.refl _ _).alloc (Nat.le_refl _) o
  exact h1.trans (hb.mono h1.size))
end
section
open Go.RowKit Go.Shelf
/-- No instruction touches memory by an address. -/
def NoT (p : List Fun) : Prop := ∀ f ∈ p, ∀ b ∈ f.bs, ∀ i ∈ b.l, toB i = false
/-- The run's loop. -/
structure LpR (p : List Fun) (pp : Option Addr) (pc : Nat) (W0 : World) (R m1 m2 fuel : Nat) (O : Oc) (wx : World) : Prop where
  or : (∃ s n, GoD p pp pc W0 R m1 m2 wx s ∧ Wf p s ∧ s.st + n = fuel ∧ runS p n s = O) ∨ (EndD W0 R wx O ∧ ¬ O.en = 0)
def stM (R : Nat) (wx : World) : Nat := match wx.cell? ⟨R, 12, none⟩ with | some v => (intOf v).toNat | none => 0
def xz : Obj := .cells #[.int .i64 0, .int .i64 0, .slice none 0 0, .int .i64 0] 30
theorem start_mp (p : List Fun) (w : World) (r : Rs) : MpK p (w.alloc xz) (w.heap.size + 1 + 1 + 1) (w.heap.size + 1) (w.heap.size + 1 + 1) r 0 ((((w.alloc xz).alloc (.map #[] 0)).alloc (.map oes 14)).alloc (.cells (rsC r).toArray 60)) := by
  refine ⟨(((Below.refl _ (w.alloc xz)).alloc (Nat.le_refl _) _).alloc (by simp) _).alloc (by simp) _, ?_, ?_, ?_⟩
  · have t := Bk.new (((w.alloc xz).alloc (.map #[] 0)).alloc (.map oes 14)) (rsC r) 60
    rw [show (((w.alloc xz).alloc (.map #[] 0)).alloc (.map oes 14)).heap.size = w.heap.size + 1 + 1 + 1 by simp] at t
    exact t
  · rw [(Go.MapKept.heap_alloc _ _).2 _ (by simp), (Go.MapKept.heap_alloc _ _).2 _ (by simp), (show w.heap.size + 1 = (w.alloc xz).heap.size by simp), (Go.MapKept.heap_alloc _ _).1]
    rfl
  · rw [(Go.MapKept.heap_alloc _ _).2 _ (by simp), (show w.heap.size + 1 + 1 = ((w.alloc xz).alloc (.map #[] 0)).heap.size by simp), (Go.MapKept.heap_alloc _ _).1]
theorem stp_end {p : List Fun} {s : St} {i : Ins} {o : Oc} (h : stpS p s i = .inr o) : (o.en = 1 ∨ (o.en = 3 ∧ toB i = true)) ∧ o.st = s.st := by
  have H : (o.en = 1 ∧ o.st = s.st) ∨ (o.en = 3 ∧ o.st = s.st ∧ toB i = true) := by
    unfold stpS at h
    dsimp only at h
    by_cases o1 : i.op = 1
    · rw [if_pos o1] at h; cases h
    rw [if_neg o1] at h
    by_cases o2 : i.op = 2
    · rw [if_pos o2] at h; cases h
    rw [if_neg o2] at h
    by_cases o3 : i.op = 3
    · rw [if_pos o3] at h; cases h
    rw [if_neg o3] at h
    by_cases o4 : i.op = 4
    · rw [if_pos o4] at h
      split at h
      · cases h
      · cases h; exact .inr ⟨rfl, rfl, by simp [toB, o4]⟩
    rw [if_neg o4] at h
    by_cases o5 : i.op = 5
    · rw [if_pos o5] at h
      split at h
      · cases h
      · cases h; exact .inr ⟨rfl, rfl, by simp [toB, o5]⟩
    rw [if_neg o5] at h
    by_cases o6 : i.op = 6
    · rw [if_pos o6] at h; cases h
    rw [if_neg o6] at h
    by_cases o7 : i.op = 7
    · rw [if_pos o7] at h
      unfold calS at h
      simp only [] at h
      split at h
      · cases h
      split at h
      · cases h
      split at h
      · split at h
        · cases h; exact .inl ⟨rfl, rfl⟩
        · cases h
      split at h
      · rename_i q
        split at h
        · cases h
        · cases h; exact .inr ⟨rfl, rfl, by simp [toB, o7, q]⟩
      · cases h
    rw [if_neg o7] at h
    by_cases o8 : i.op = 8
    · rw [if_pos o8] at h; cases h
    rw [if_neg o8] at h
    by_cases o9 : i.op = 9
    · rw [if_pos o9] at h; cases h
    rw [if_neg o9] at h
    by_cases o10 : i.op = 10
    · rw [if_pos o10] at h
      unfold bakS at h
      simp only [] at h
      split at h
      · cases h; exact .inl ⟨rfl, rfl⟩
      · cases h
    rw [if_neg o10] at h
    cases h
    exact .inl ⟨rfl, rfl⟩
  rcases H with ⟨a, b⟩ | ⟨a, b, c⟩
  · exact ⟨.inl a, b⟩
  · exact ⟨.inr ⟨a, c⟩, b⟩
variable {p : List Fun} {pp : Option Addr} {pc : Nat} {W0 : World} {R m1 m2 : Nat} {W : World} {s : St}
theorem end21g {r : Rs} (h : Rb W R r) (a b : Int) : Calls Tryd.prog 21 #[.pointer (some ⟨R, 0, none⟩), .int .i64 a, .int .i64 b] W fun e w' => e = .returned (.tuple #[]) ∧ w' = (W.setCell ⟨R, 9, none⟩ (.int .i64 a)).setCell ⟨R, 10, none⟩ (.int .i64 b) := end36 R a b (rsC r) _ h.cl rfl
theorem stM_of {W : World} {R : Nat} {k : Nat} (h : W.cell? ⟨R, 12, none⟩ = some (.int .i64 ((k : Nat) : Int))) : stM R W = k := by
  unfold stM
  rw [h]
  simp [intOf]
theorem GoD.m12 (h : GoD p pp pc W0 R m1 m2 W s) : W.cell? ⟨R, 12, none⟩ = some (.int .i64 ((s.st : Nat) : Int)) := by
  obtain ⟨r, C, ca, P, pa, gl, gp, h⟩ := h
  have := h.rb.cell (j := 12) rfl
  rw [h.st] at this
  exact this
theorem EndD.cells {o : Oc} (h : EndD W0 R W o) : ∃ ov, W.cell? ⟨R, 9, none⟩ = some (.int .i64 o.en) ∧ W.cell? ⟨R, 10, none⟩ = some (.int .i64 o.cd) ∧ W.cell? ⟨R, 11, none⟩ = some ov ∧ W.cell? ⟨R, 12, none⟩ = some (.int .i64 ((o.st : Nat) : Int)) ∧ W.ownsRow W0.heap.size 5 1 ov o.out.length (Lib.byteCells o.out) ∧ Below W0.heap.size W0 W := by
  obtain ⟨r, h1, h2, h3, h4, h5, h6, h7⟩ := h
  have c9 := h3.cell (j := 9) rfl
  have c10 := h3.cell (j := 10) rfl
  have c12 := h3.cell (j := 12) rfl
  rw [h4] at c9
  rw [h5] at c10
  rw [h6] at c12
  exact ⟨r.ov, c9, c10, h3.cell (j := 11) rfl, c12, h7, h1⟩
/-- What a round of the loop is given. -/
structure RndF (p : List Fun) (pp : Option Addr) (pc : Nat) (W0 : World) (R m1 m2 fuel : Nat) (O : Oc) (W : World) (st n x xo : Nat) (d : Bool) : Prop where
  r9 : W.cell? ⟨R, 9, none⟩ = some (.int .i64 0)
  r12 : W.cell? ⟨R, 12, none⟩ = some (.int .i64 ((st : Nat) : Int))
  z12 : W.frozen? ⟨R, 12, none⟩ = false
  sn : st + n = fuel
  c19 : Calls Tryd.prog 19 #[.pointer (some ⟨R, 0, none⟩)] W fun e w' => e = .returned (.pointer (some ⟨x, xo, none⟩)) ∧ ∃ k, w' = W.drewN k
  c20 : ∀ k, Calls Tryd.prog 20 #[.pointer (some ⟨R, 0, none⟩), .pointer (some ⟨x, xo, none⟩)] (W.drewN k) fun e w' => e = .returned (.bool d) ∧ w' = W.drewN k
  c21 : ∀ k, Calls Tryd.prog 21 #[.pointer (some ⟨R, 0, none⟩), .int .i64 2, .int .i64 0] (W.drewN k) fun e w' => e = .returned (.tuple #[]) ∧ w' = ((W.drewN k).setCell ⟨R, 9, none⟩ (.int .i64 2)).setCell ⟨R, 10, none⟩ (.int .i64 0)
  stop : (n = 0 ∨ d = true) → ∀ k, EndD W0 R (((W.drewN k).setCell ⟨R, 9, none⟩ (.int .i64 2)).setCell ⟨R, 10, none⟩ (.int .i64 0)) O
  go : ¬ n = 0 → d = false → ∀ k, Calls Tryd.prog 22 #[.pointer (some ⟨R, 0, none⟩), .pointer (some ⟨x, xo, none⟩)] ((W.drewN k).setCell ⟨R, 12, none⟩ (.int .i64 ((st : Int) + 1))) fun e w' => e = .returned (.tuple #[]) ∧ LpR p pp pc W0 R m1 m2 fuel O w' ∧ stM R w' = st + 1
theorem round_facts (hp : PrF p) (hI : FunA W0 pp pc p) (hT : PwT W0) (hG : GoD p pp pc W0 R m1 m2 W s) (hW : Wf p s) {n fuel : Nat} (hs : s.st + n = fuel) (hf : fuel ≤ 524288) {O : Oc} (hO : runS p n s = O) : ∃ x xo d, RndF p pp pc W0 R m1 m2 fuel O W s.st n x xo d := by
  have h12 := hG.m12
  obtain ⟨r, C, ca, P, pa, gl, gp, h⟩ := hG
  obtain ⟨tq, lq, rfl, hlq⟩ := h.hd
  obtain ⟨f, bl, i, hc⟩ := hW.top
  obtain ⟨g1, o1, bc, g2, o2, ic, hins⟩ := ins_all hI hc
  have hB := hW.bnd (by omega)
  have hll : lq.length = s.low.length := by
    have := congrArg List.length hlq
    simpa using this
  have hlo := hB.lo
  have hi : insAt p s.top = some i := by
    unfold insAt
    rw [hc.hf, Option.bind_some, hc.hb, Option.bind_some, hc.hi]
  have r9 := h.rb.cell (j := 9) rfl
  rw [h.fin] at r9
  have kR : ∀ k, Onl (fun b => b = R) W (((W.drewN k).setCell ⟨R, 9, none⟩ (.int .i64 2)).setCell ⟨R, 10, none⟩ (.int .i64 0)) := fun k => ((onl_drew W k (fun b => b = R)).set rfl).set rfl
  refine ⟨g2, o2 + s.top.j * 9, depB s i, r9, h12, h.rb.fz 12, hs, next_ins h (by omega) hc (hins W h.bel), fun k => deep_any (h.drew k) (hins _ (h.drew k).bel), fun k => end21g (h.rb.drewN k) 2 0, ?_, ?_⟩
  · intro hstop k
    have eO : O = ⟨2, 0, s.out, s.st⟩ := by
      rw [← hO]
      cases n with
      | zero => rfl
      | succ n =>
        have hd : depB s i = true := by rcases hstop with h | h; cases h; exact h
        rw [runS, hi]
        simp only [hd, if_true]
    rw [eO]
    refine ⟨{ r with fin := 2, cd := 0 }, Onl.below (Nat.le_refl _) h.bel (kR k) (fun b e => by rw [e]; exact h.rB), h.rB, ((h.rb.drewN k).set 9 (.int .i64 2)).set 10 (.int .i64 0), rfl, rfl, h.st, own_onl h.ov (kR k) (fun g hg e => ?_)⟩
    obtain ⟨_, os, hO⟩ := h.bO hg
    exact hO.ne h.rb (by decide) e
  · intro hn0 hd k
    obtain ⟨m, rfl⟩ : ∃ m, n = m + 1 := ⟨n - 1, by omega⟩
    have k12 : Onl (fun b => b = R) W ((W.drewN k).setCell ⟨R, 12, none⟩ (.int .i64 ((s.st : Int) + 1))) := (onl_drew W k (fun b => b = R)).set rfl
    have hb12 : Below W0.heap.size W ((W.drewN k).setCell ⟨R, 12, none⟩ (.int .i64 ((s.st : Int) + 1))) := Onl.below h.bel.size (Below.refl _ _) k12 (fun b e => by rw [e]; exact h.rB)
    have h' : RelD p pp pc W0 R m1 m2 { r with st := r.st + 1 } C ca P pa ((tq, s.top) :: lq) gp ((W.drewN k).setCell ⟨R, 12, none⟩ (.int .i64 ((s.st : Int) + 1))) { s with st := s.st + 1 } := h.run k12 (by
      have t := (h.rb.drewN k).set 12 (.int .i64 ((s.st : Int) + 1))
      rw [← h.st] at t ⊢
      exact t) rfl rfl rfl rfl rfl rfl h.ls rfl h.en h.nx h.hp (h.iv.below hb12) rfl (by show r.st + 1 = _; rw [h.st]; simp) h.fin h.cd
    refine (step_all (s := { s with st := s.st + 1 }) hp hI hT h' ⟨hB.lo, hB.nx, hB.hp, hB.en, hB.ps, hB.out, hB.pa⟩ hW.ans hc hins).mono ?_
    rintro e w' ⟨rfl, ho⟩
    refine ⟨rfl, ?_⟩
    rw [runS, hi] at hO
    simp only [hd] at hO
    cases hst : stpS p { s with st := s.st + 1 } i with
    | inl s' =>
      rw [hst] at ho hO
      obtain ⟨w1, w2⟩ := wf_step hp hW hc hd (by omega) hst
      refine ⟨⟨.inl ⟨s', m, ho, w1, by rw [w2]; omega, hO⟩⟩, ?_⟩
      rw [← w2]
      exact stM_of (GoD.m12 ho)
    | inr o =>
      rw [hst] at ho hO
      obtain ⟨e1, e2⟩ := stp_end hst
      have hO' : o = O := hO
      subst hO'
      refine ⟨⟨.inr ⟨ho, by rcases e1 with e1 | e1 <;> omega⟩⟩, ?_⟩
      obtain ⟨_, _, _, _, c12, _⟩ := EndD.cells ho
      rw [e2] at c12
      exact stM_of c12
end
end Go.Proofs.YtdppoblbenbafaaDoor
