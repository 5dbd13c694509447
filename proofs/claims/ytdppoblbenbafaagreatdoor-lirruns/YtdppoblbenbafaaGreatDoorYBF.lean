/- The document's run as it lies: memory, what is read and printed. The document's run as it lies: calls and returns. -/
import Derived.Test.YtdppoblbenbafaaGreatDoorYBE
namespace Go.Proofs.YtdppoblbenbafaaGreatDoor
section
open Go.RowKit Go.Shelf
variable {p : List Fun} {pp : Option Addr} {pc : Nat} {L : List UInt8} {W0 : World} {R : Nat} {r : Rq} {C ca P pa : Nat} {gl : List (Nat × (Cal × Nat))} {go : List (Nat × Ob)} {W : World} {s : Rt}
theorem RelX.mem (h : RelX p pp pc L W0 R r C ca P pa gl go W s) {S : Nat → Prop} {W' : World} (k : Onl S W W') (hS : ∀ b, S b → b = R ∨ ∃ t cs, Bk W b t cs ∧ W0.heap.size ≤ b ∧ t ≠ 109 ∧ t ≠ 2) {r' : Rq} (hR : Rqb W' R r') (a1 : r'.pg = r.pg) (a2 : r'.cv = r.cv) (a3 : r'.iv = r.iv) (a4 : r'.en = 0) (a5 : r'.cd = 0) (a6 : r'.ovr = false) {P' pa' : Nat} {go' : List (Nat × Ob)} {s' : Rt} (pv : r'.ob = .slice (some ⟨P', 0, none⟩) go'.length pa') (po : W'.ownsRow W0.heap.size 146 4 r'.ob go'.length (flO go')) (wd : ∀ x ∈ go', W0.heap.size ≤ x.1 ∧ RgB W' x.1 x.2.ws ∧ x.1 ∉ gl.map (·.1)) (wn : (go'.map (·.1)).Nodup) (e1 : s'.top = s.top) (e2 : s'.low = s.low) (os : go'.map (·.2) = s'.os) (e3 : r'.nx = s'.nx) (e4 : r'.hp = s'.hp) (e5 : r'.st = s'.st) (rd : ∃ k : Nat, r'.rd = (k : Int) ∧ k ≤ L.length ∧ s'.inp = L.drop k) (ov : W'.ownsRow W0.heap.size 5 1 r'.ov s'.out.length (Lib.byteCells s'.out)) : RelX p pp pc L W0 R r' C ca P' pa' gl go' W' s' := by
  obtain ⟨c0, cs, hC, _⟩ := h.bC
  have n1 : ¬ S C := fun e => by
    rcases hS C e with e | ⟨t, ds, hb, _, ht, _⟩
    · exact h.rb.ne hC (by decide) e.symm
    · exact hb.ne hC ht rfl
  have n2 : ∀ b vs, Bk W b 2 vs → ¬ S b := fun b vs hb e => by
    rcases hS b e with e | ⟨t, ds, hb', _, _, ht⟩
    · subst e; exact h.rb.ne hb (by decide) rfl
    · exact hb'.ne hb ht rfl
  refine ⟨Onl.below (Nat.le_refl _) h.bel k (fun b hb => by rcases hS b hb with e | ⟨_, _, _, hb, _⟩; rw [e]; exact h.rB; exact hb), h.rB, hR, a1.trans h.pg, a2.trans h.cv, ?_, pv, po, fun x hx => ⟨(h.rg x hx).1, (h.rg x hx).2.onl k (n2 _ _ (h.rg x hx).2)⟩, h.nd, wd, wn, by rw [e1, e2]; exact h.ls, os, e3, e4, a4, a5, a6, e5, a3 ▸ h.iv, rd, ov⟩
  rw [a2]
  exact own_onl h.co k (fun g hg e => by rw [h.cv] at hg; cases hg; exact n1 e)
theorem RelX.ovk (h : RelX p pp pc L W0 R r C ca P pa gl go W s) {S : Nat → Prop} {W' : World} (k : Onl S W W') (hS : ∀ b, S b → b = R ∨ ∃ t cs, Bk W b t cs ∧ t ≠ 5) : W'.ownsRow W0.heap.size 5 1 r.ov s.out.length (Lib.byteCells s.out) := own_onl h.ov k (fun g hg e => by
  obtain ⟨_, ds, hO⟩ := h.bO hg
  rcases hS g e with e | ⟨t, cs, hb, ht⟩
  · subst e; exact hO.ne h.rb (by decide) rfl
  · exact hb.ne hO ht rfl)
theorem RelX.pok (h : RelX p pp pc L W0 R r C ca P pa gl go W s) {S : Nat → Prop} {W' : World} (k : Onl S W W') (hS : ∀ b, S b → b = R ∨ ∃ t cs, Bk W b t cs ∧ t ≠ 146) : W'.ownsRow W0.heap.size 146 4 r.ob go.length (flO go) := own_onl h.po k (fun g hg e => by
  obtain ⟨_, ds, hP, _⟩ := h.bP
  rw [h.pv] at hg
  cases hg
  rcases hS P e with e | ⟨t, cs, hb, ht⟩
  · subst e; exact hP.ne h.rb (by decide) rfl
  · exact hb.ne hP ht rfl)
theorem RelX.wdk (h : RelX p pp pc L W0 R r C ca P pa gl go W s) {S : Nat → Prop} {W' : World} (k : Onl S W W') (hS : ∀ b, S b → b = R ∨ ∃ t cs, Bk W b t cs ∧ t ≠ 2) : ∀ x ∈ go, W0.heap.size ≤ x.1 ∧ RgB W' x.1 x.2.ws ∧ x.1 ∉ gl.map (·.1) := fun x hx => by
  obtain ⟨t1, t2, t3⟩ := h.wd x hx
  refine ⟨t1, t2.onl k (fun e => ?_), t3⟩
  rcases hS _ e with e | ⟨t, cs, hb, ht⟩
  · exact t2.ne h.rb (by decide) e
  · exact hb.ne t2 ht rfl
/-- Nothing that lies is touched. -/
theorem RelX.below (h : RelX p pp pc L W0 R r C ca P pa gl go W s) {W' : World} (hb : Below W.heap.size W W') : RelX p pp pc L W0 R r C ca P pa gl go W' s :=
  have k : Onl (fun _ => False) W W' := Onl.of_below hb
  h.mem k (fun _ e => e.elim) (h.rb.below hb) rfl rfl rfl h.en h.cd h.ovr h.pv (h.pok k (fun _ e => e.elim)) (h.wdk k (fun _ e => e.elim)) h.wn rfl rfl h.os h.nx h.hp h.st h.rd (h.ovk k (fun _ e => e.elim))
/-- A byte is read. -/
theorem RelX.readq (h : RelX p pp pc L W0 R r C ca P pa gl go W s) {k : Nat} {W' : World} (_hk : r.rd = (k : Int)) (hi : s.inp = L.drop k) (hl : k < L.length) (ho : Onl (fun b => b = R) W W') (hR : Rqb W' R { r with rd := (k : Int) + 1 }) : RelX p pp pc L W0 R { r with rd := (k : Int) + 1 } C ca P pa gl go W' { s with inp := s.inp.tail } :=
  h.mem (S := fun b => b = R) ho (fun _ e => .inl e) hR rfl rfl rfl h.en h.cd h.ovr h.pv (h.pok ho (fun _ e => .inl e)) (h.wdk ho (fun _ e => .inl e)) h.wn rfl rfl h.os h.nx h.hp h.st ⟨k + 1, rfl, hl, by show s.inp.tail = _; rw [hi, List.tail_drop]⟩ (h.ovk ho (fun _ e => .inl e))
/-- A number is printed. -/
theorem RelX.printed (h : RelX p pp pc L W0 R r C ca P pa gl go W s) {W' : World} {ov : Value} {l : List UInt8} (ho : Onl (fun b => b = R ∨ r.ov.ownBlock = some b) W W') (hR : Rqb W' R { r with ov := ov }) (hv : W'.ownsRow W0.heap.size 5 1 ov (s.out ++ l).length (Lib.byteCells (s.out ++ l))) : RelX p pp pc L W0 R { r with ov := ov } C ca P pa gl go W' { s with out := s.out ++ l } := by
  have hS : ∀ b, (b = R ∨ r.ov.ownBlock = some b) → b = R ∨ ∃ cs, Bk W b 5 cs ∧ W0.heap.size ≤ b := fun b e => e.imp id fun e => by
    obtain ⟨h0, cs, hb⟩ := h.bO e
    exact ⟨cs, hb, h0⟩
  exact h.mem ho (fun b e => (hS b e).imp id fun ⟨cs, hb, h0⟩ => ⟨5, cs, hb, h0, by decide, by decide⟩) hR rfl rfl rfl h.en h.cd h.ovr h.pv (h.pok ho (fun b e => (hS b e).imp id fun ⟨cs, hb, _⟩ => ⟨5, cs, hb, by decide⟩)) (h.wdk ho (fun b e => (hS b e).imp id fun ⟨cs, hb, _⟩ => ⟨5, cs, hb, by decide⟩)) h.wn rfl rfl h.os h.nx h.hp h.st h.rd hv
/-- A part more. -/
theorem RelX.made (h : RelX p pp pc L W0 R r C ca P pa gl go W s) {W' : World} {ob : Value} {g n : Nat} {hp : Int} (bk : Bool) (ho : Onl (fun b => b = R ∨ r.ob.ownBlock = some b) W W') (hR : Rqb W' R { r with ob := ob, nx := r.nx + 8 * ((n : Int) + 1), hp := hp }) (hP : W'.ownsRow W0.heap.size 146 4 ob (go.length + 1) (flO go ++ [.int .i64 r.nx, .slice (some ⟨g, 0, none⟩) n n, .bool bk, .bool false])) (hg : Bk W' g 2 (List.replicate n (.int .i64 0))) (hgs : W.heap.size ≤ g) : ∃ P' pa', RelX p pp pc L W0 R { r with ob := ob, nx := r.nx + 8 * ((n : Int) + 1), hp := hp } C ca P' pa' gl (go ++ [(g, ⟨r.nx, List.replicate n 0, bk, false⟩)]) W' { s with os := s.os ++ [⟨s.nx, List.replicate n 0, bk, false⟩], nx := s.nx + 8 * ((n : Int) + 1), hp := hp } := by
  obtain ⟨P', pa', hob⟩ : ∃ P' pa', ob = .slice (some ⟨P', 0, none⟩) (go.length + 1) pa' := by
    obtain ⟨_, ⟨_, h0⟩ | ⟨C, cap, cur, e, _⟩⟩ := hP
    · omega
    · exact ⟨C, cap, e⟩
  have hS : ∀ b, (b = R ∨ r.ob.ownBlock = some b) → b = R ∨ ∃ cs, Bk W b 146 cs ∧ W0.heap.size ≤ b := fun b e => e.imp id fun e => by
    obtain ⟨p0, cs, hP, _⟩ := h.bP
    rw [h.pv] at e
    cases e
    exact ⟨cs, hP, p0⟩
  have hge : W0.heap.size ≤ g := Nat.le_trans h.bel.size hgs
  have hrep : (List.replicate n (0 : Int)).map (Value.int .i64) = List.replicate n (.int .i64 0) := by simp
  refine ⟨P', pa', h.mem ho (fun b e => (hS b e).imp id fun ⟨cs, hb, h0⟩ => ⟨146, cs, hb, h0, by decide, by decide⟩) hR rfl rfl rfl h.en h.cd h.ovr (by rw [List.length_append]; exact hob) ?_ ?_ ?_ rfl rfl ?_ ?_ rfl h.st h.rd (h.ovk ho (fun b e => (hS b e).imp id fun ⟨cs, hb, _⟩ => ⟨146, cs, hb, by decide⟩))⟩
  · rw [List.length_append, flO_app]
    have e : flO [(g, (⟨r.nx, List.replicate n 0, bk, false⟩ : Ob))] = [.int .i64 r.nx, .slice (some ⟨g, 0, none⟩) n n, .bool bk, .bool false] := by simp [flO, obC]
    rw [e]
    exact hP
  · intro x hx
    rcases List.mem_append.1 hx with hx | hx
    · exact h.wdk ho (fun b e => (hS b e).imp id fun ⟨cs, hb, _⟩ => ⟨146, cs, hb, by decide⟩) x hx
    · rw [List.mem_singleton.1 hx]
      refine ⟨hge, by unfold RgB; rw [hrep]; exact hg, fun e => ?_⟩
      obtain ⟨y, hy, ey⟩ := List.mem_map.1 e
      have : y.1 < W.heap.size := (h.rg y hy).2.lt
      have ey' : y.1 = g := ey
      omega
  · rw [List.map_append]
    refine List.nodup_append.2 ⟨h.wn, by simp, fun a ha b hb => ?_⟩
    rw [show b = g by simpa using hb]
    obtain ⟨y, hy, ey⟩ := List.mem_map.1 ha
    have : y.1 < W.heap.size := (h.wd y hy).2.1.lt
    rw [← ey]
    intro e
    have e' : y.1 = g := e
    omega
  · show (go ++ [(g, (⟨r.nx, List.replicate n 0, bk, false⟩ : Ob))]).map (·.2) = s.os ++ [⟨s.nx, List.replicate n 0, bk, false⟩]
    rw [List.map_append, h.os]
    simp [h.nx]
  · show r.nx + _ = s.nx + _
    rw [h.nx]
theorem set_mem {α : Type} (f : α → Nat) : ∀ (l : List α) (k : Nat) (x y z : α), (l.map f).Nodup → l[k]? = some x → z ∈ l.set k y → z = y ∨ (z ∈ l ∧ f z ≠ f x)
  | [], _, _, _, _, _, h, _ => by cases h
  | a :: l, 0, x, y, z, hn, h, hz => by
    cases h
    rw [List.set_cons_zero] at hz
    rcases List.mem_cons.1 hz with rfl | hz
    · exact .inl rfl
    · rw [List.map_cons, List.nodup_cons] at hn
      exact .inr ⟨List.mem_cons_of_mem _ hz, fun e => hn.1 (e ▸ List.mem_map.2 ⟨z, hz, rfl⟩)⟩
  | a :: l, k + 1, x, y, z, hn, h, hz => by
    rw [List.set_cons_succ] at hz
    rw [List.map_cons, List.nodup_cons] at hn
    have h' : l[k]? = some x := by simpa using h
    rcases List.mem_cons.1 hz with rfl | hz
    · exact .inr ⟨List.mem_cons_self .., fun e => hn.1 (e ▸ List.mem_map.2 ⟨x, List.mem_of_getElem? h', rfl⟩)⟩
    · rcases set_mem f l k x y z hn.2 h' hz with e | ⟨e1, e2⟩
      · exact .inl e
      · exact .inr ⟨List.mem_cons_of_mem _ e1, e2⟩
theorem mapq_set_same {α β : Type} (f : α → β) (l : List α) (k : Nat) (x y : α) (h : l[k]? = some x) (e : f y = f x) : (l.set k y).map f = l.map f := by
  rw [List.map_set, e]
  apply List.ext_getElem?
  intro j
  rw [List.getElem?_set]
  split
  · rename_i hj; subst hj; obtain ⟨hl, he⟩ := List.getElem?_eq_some_iff.1 h; simp [hl, he]
  · rfl
/-- A word of a part is set. -/
theorem RelX.stored (h : RelX p pp pc L W0 R r C ca P pa gl go W s) {W' : World} {k m : Nat} {v : Int} {x : Nat × Ob} (hk : go[k]? = some x) (hS : SetQ x.1 (x.2.ws.set m v) W W') : RelX p pp pc L W0 R r C ca P pa gl (go.set k (x.1, { x.2 with ws := x.2.ws.set m v })) W' { s with os := wsR s.os k m v } := by
  obtain ⟨x0, x1, x2⟩ := h.wd x (List.mem_of_getElem? hk)
  obtain ⟨c0, cs, hC, _⟩ := h.bC
  have ho : s.os[k]? = some x.2 := by rw [← h.os, List.getElem?_map, hk]; rfl
  have hkeys : (go.set k (x.1, { x.2 with ws := x.2.ws.set m v })).map (·.1) = go.map (·.1) := mapq_set_same _ _ _ x _ hk rfl
  have hbs : ∀ b t (ds : List Value), b = x.1 → Bk W b t ds → t = 2 := fun b t ds e hb => by
    subst e
    exact Classical.byContradiction fun ht => hb.ne x1 ht rfl
  refine ⟨Onl.below (Nat.le_refl _) h.bel hS.1 (fun b e => by rw [e]; exact x0), h.rB, h.rb.onl hS.1 (fun e => by have := hbs R _ _ e h.rb; simp at this), h.pg, h.cv, own_onl h.co hS.1 (fun g hg e => by rw [h.cv] at hg; cases hg; have := hbs C _ _ e hC; simp at this), by rw [List.length_set]; exact h.pv, ?_, fun y hy => ⟨(h.rg y hy).1, (h.rg y hy).2.onl hS.1 (fun e => x2 (by rw [← show y.1 = x.1 from e]; exact List.mem_map.2 ⟨y, hy, rfl⟩))⟩, h.nd, ?_, by rw [hkeys]; exact h.wn, h.ls, ?_, h.nx, h.hp, h.en, h.cd, h.ovr, h.st, h.iv, h.rd, own_onl h.ov hS.1 (fun g hg e => by obtain ⟨_, ds, hO⟩ := h.bO hg; have := hbs g _ _ e hO; simp at this)⟩
  · rw [List.length_set]
    have e : flO (go.set k (x.1, { x.2 with ws := x.2.ws.set m v })) = flO go := by
      rw [flO_set go k x (x.1, { x.2 with ws := x.2.ws.set m v }) 2 (.bool x.2.bk) hk (by decide) (by simp [obC])]
      apply List.ext_getElem?
      intro j
      rw [List.getElem?_set]
      split
      · rename_i hj; subst hj
        rw [flO_at go k x hk 2 _ rfl, if_pos (List.getElem?_eq_some_iff.1 (flO_at go k x hk 2 _ rfl)).1]
      · rfl
    rw [e]
    refine own_onl h.po hS.1 (fun g hg e => ?_)
    obtain ⟨p0, ps, hP, _⟩ := h.bP
    rw [h.pv] at hg
    cases hg
    have := hbs P _ _ e hP
    simp at this
  · intro y hy
    rcases set_mem (·.1) go k x _ y h.wn hk hy with rfl | ⟨hy, hne⟩
    · exact ⟨x0, hS.2, x2⟩
    · obtain ⟨y0, y1, y2⟩ := h.wd y hy
      exact ⟨y0, y1.onl hS.1 hne, y2⟩
  · show (go.set k _).map (·.2) = wsR s.os k m v
    unfold wsR
    rw [ho, List.map_set, h.os]
/-- A part ends. -/
theorem RelX.endq (h : RelX p pp pc L W0 R r C ca P pa gl go W s) {W' : World} {k : Nat} {x : Nat × Ob} {cs : List Value} {hp : Int} (hk : go[k]? = some x) (hcs : Bk W P 146 cs) (ho : Onl (fun b => b = R ∨ b = P) W W') (hR : Rqb W' R { r with hp := hp }) (hP : Bk W' P 146 (cs.set (k * 4 + 3) (.bool true))) : RelX p pp pc L W0 R { r with hp := hp } C ca P pa gl (go.set k (x.1, { x.2 with ed := true })) W' { s with os := edR s.os k, hp := hp } := by
  obtain ⟨p0, ds, hD, h1, h2, h3, h4⟩ := h.bP
  have e : cs = ds := by unfold Bk at hcs hD; rw [hD] at hcs; cases hcs; rfl
  subst e
  have hos : s.os[k]? = some x.2 := by rw [← h.os, List.getElem?_map, hk]; rfl
  have hS : ∀ b, (b = R ∨ b = P) → b = R ∨ ∃ cs, Bk W b 146 cs ∧ W0.heap.size ≤ b := fun b e => e.imp id fun (e : b = P) => ⟨cs, by rw [e]; exact hcs, by rw [e]; exact p0⟩
  have hkeys : (go.set k (x.1, { x.2 with ed := true })).map (·.1) = go.map (·.1) := mapq_set_same _ _ _ x _ hk rfl
  refine h.mem ho (fun b e => (hS b e).imp id fun ⟨cs, hb, h0⟩ => ⟨146, cs, hb, h0, by decide, by decide⟩) hR rfl rfl rfl h.en h.cd h.ovr (by rw [List.length_set]; exact h.pv) ?_ ?_ (by rw [hkeys]; exact h.wn) rfl rfl ?_ h.nx rfl h.st h.rd (h.ovk ho (fun b e => (hS b e).imp id fun ⟨cs, hb, _⟩ => ⟨146, cs, hb, by decide⟩))
  · rw [List.length_set, flO_set go k x (x.1, { x.2 with ed := true }) 3 (.bool true) hk (by decide) (by simp [obC])]
    show W'.ownsRow W0.heap.size 146 4 r.ob go.length _
    rw [h.pv]
    exact own_of p0 hP h2 h3 (by rw [List.length_set]; exact h4) (by rw [List.take_set, h1])
  · intro y hy
    have hw := h.wdk ho (fun b e => (hS b e).imp id fun ⟨cs, hb, _⟩ => ⟨146, cs, hb, by decide⟩)
    rcases set_mem (·.1) go k x _ y h.wn hk hy with rfl | ⟨hy, hne⟩
    · exact hw x (List.mem_of_getElem? hk)
    · exact hw y hy
  · show (go.set k _).map (·.2) = edR s.os k
    unfold edR
    rw [hos, List.map_set, h.os]
end
section
open Go.RowKit Go.Shelf
variable {p : List Fun} {pp : Option Addr} {pc : Nat} {L : List UInt8} {W0 : World} {R : Nat} {r : Rq} {C ca P pa : Nat} {gl : List (Nat × (Cal × Nat))} {go : List (Nat × Ob)} {W : World} {s : Rt}
/-- A call begins. -/
theorem RelX.enter (h : RelX p pp pc L W0 R r C ca P pa gl go W s) {W' : World} {k m fr : Nat} {ans : Int} {vs : List Int} (hm : m = rgOf p k) (hf : fr = frOf p k) (hv : vs.length ≤ m) (hE : EnQ R W0.heap.size gl.length go.length m fr k ans r (rowX gl) (flO go) ((vs ++ List.replicate (m - vs.length) 0).map (Value.int .i64)) W W') : ∃ r' C' ca' P' pa' gl' go', RelX p pp pc L W0 R r' C' ca' P' pa' gl' go' W' (entR p s s.top.1 k vs ans) ∧ r'.pg = r.pg := by
  obtain ⟨⟨cv, ob, gw, ho, hR, hC, hP, hQ, hG, hgw⟩⟩ := hE
  obtain ⟨C', ca', hcv⟩ : ∃ C' ca', cv = .slice (some ⟨C', 0, none⟩) (gl.length + 1) ca' := by
    obtain ⟨_, ⟨_, h0⟩ | ⟨C, cap, cur, e, _⟩⟩ := hC
    · omega
    · exact ⟨C, cap, e⟩
  obtain ⟨P', pa', hob⟩ : ∃ P' pa', ob = .slice (some ⟨P', 0, none⟩) (go.length + 1) pa' := by
    obtain ⟨_, ⟨_, h0⟩ | ⟨C, cap, cur, e, _⟩⟩ := hP
    · omega
    · exact ⟨C, cap, e⟩
  obtain ⟨c0, cs, hCb, _⟩ := h.bC
  obtain ⟨p0, ps, hPb, _⟩ := h.bP
  have hS : ∀ b, (b = R ∨ r.ob.ownBlock = some b ∨ r.cv.ownBlock = some b) → W0.heap.size ≤ b ∧ (∀ ds, Bk W b 2 ds → False) ∧ (∀ ds, Bk W b 5 ds → False) := fun b e => by
    rcases e with e | e | e
    · subst e; exact ⟨h.rB, fun ds hb => h.rb.ne hb (by decide) rfl, fun ds hb => h.rb.ne hb (by decide) rfl⟩
    · rw [h.pv] at e; cases e; exact ⟨p0, fun ds hb => hPb.ne hb (by decide) rfl, fun ds hb => hPb.ne hb (by decide) rfl⟩
    · rw [h.cv] at e; cases e; exact ⟨c0, fun ds hb => hCb.ne hb (by decide) rfl, fun ds hb => hCb.ne hb (by decide) rfl⟩
  have hkeep : ∀ b (l : List Int), RgB W b l → RgB W' b l := fun b l hb => hb.onl ho (fun e => (hS b e).2.1 _ hb)
  have hW0 : W0.heap.size ≤ W.heap.size := h.bel.size
  have hls := h.ls
  have hgk : ∀ y ∈ gl, y.1 < W.heap.size := fun y hy => (h.rg y hy).2.lt
  have hok : ∀ y ∈ go, y.1 < W.heap.size := fun y hy => (h.wd y hy).2.1.lt
  have hrep : (List.replicate fr (0 : Int)).map (Value.int .i64) = List.replicate fr (.int .i64 0) := by simp
  have hlen : (vs ++ List.replicate (m - vs.length) (0 : Int)).length = m := by simp; omega
  refine ⟨_, C', ca', P', pa', (W.heap.size, (⟨k, vs ++ List.replicate (m - vs.length) 0, r.nx, 0, 0, ans⟩, go.length)) :: gl, go ++ [(gw, ⟨r.nx, List.replicate fr 0, false, false⟩)], ⟨Onl.below (Nat.le_refl _) h.bel ho (fun b e => (hS b e).1), h.rB, hR, h.pg, hcv, ?_, by rw [List.length_append]; exact hob, ?_, ?_, ?_, ?_, ?_, ?_, ?_, ?_, h.hp, h.en, h.cd, h.ovr, h.st, h.iv, h.rd, ?_⟩, rfl⟩
  · show W'.ownsRow W0.heap.size 109 6 cv (gl.length + 1) (rowX gl ++ _)
    have e : cafX (W.heap.size, ((⟨k, vs ++ List.replicate (m - vs.length) 0, r.nx, 0, 0, ans⟩ : Cal), go.length)) = fmC k W.heap.size m go.length 0 0 ans := by
      unfold cafX
      rw [hlen]
      rfl
    rw [e]
    exact hC
  · rw [List.length_append, flO_app]
    have e : flO [(gw, (⟨r.nx, List.replicate fr 0, false, false⟩ : Ob))] = [.int .i64 r.nx, .slice (some ⟨gw, 0, none⟩) fr fr, .bool false, .bool false] := by simp [flO, obC]
    rw [e]
    exact hP
  · intro x hx
    rcases List.mem_cons.1 hx with rfl | hx
    · exact ⟨hW0, hQ⟩
    · exact ⟨(h.rg x hx).1, hkeep _ _ (h.rg x hx).2⟩
  · rw [List.map_cons, List.nodup_cons]
    refine ⟨fun e => ?_, h.nd⟩
    obtain ⟨y, hy, ey⟩ := List.mem_map.1 e
    have := hgk y hy
    have ey' : y.1 = W.heap.size := ey
    omega
  · intro x hx
    rcases List.mem_append.1 hx with hx | hx
    · obtain ⟨t1, t2, t3⟩ := h.wd x hx
      refine ⟨t1, hkeep _ _ t2, fun e => ?_⟩
      rw [List.map_cons] at e
      rcases List.mem_cons.1 e with e | e
      · have := hok x hx
        have e' : x.1 = W.heap.size := e
        omega
      · exact t3 e
    · rw [List.mem_singleton.1 hx]
      refine ⟨by show _ ≤ gw; omega, by unfold RgB; rw [hrep]; exact hG, fun e => ?_⟩
      rw [List.map_cons] at e
      rcases List.mem_cons.1 e with e | e
      · have e' : gw = W.heap.size := e
        omega
      · obtain ⟨y, hy, ey⟩ := List.mem_map.1 e
        have := hgk y hy
        have ey' : y.1 = gw := ey
        omega
  · rw [List.map_append]
    refine List.nodup_append.2 ⟨h.wn, by simp, fun a ha b hb => ?_⟩
    rw [show b = gw by simpa using hb]
    obtain ⟨y, hy, ey⟩ := List.mem_map.1 ha
    have := hok y hy
    rw [← ey]
    intro e
    have e' : y.1 = gw := e
    omega
  · show _ :: gl.map (·.2) = _
    unfold entR
    simp only []
    rw [h.ls, ← hm, h.nx, h.len.2]
  · unfold entR
    simp only []
    rw [List.map_append, h.os, ← hf, h.nx]
    rfl
  · show r.nx + _ = _
    unfold entR
    simp only []
    rw [h.nx, hf]
  · exact own_onl h.ov ho (fun g hg e => by
      obtain ⟨_, ds, hO⟩ := h.bO hg
      exact (hS g e).2.2 _ hO)
/-- A call comes back to another one. -/
theorem RelX.back {tq tq2 : Nat} {x2 : Cal × Nat} {lq : List (Nat × (Cal × Nat))} (h : RelX p pp pc L W0 R r C ca P pa ((tq, s.top) :: (tq2, x2) :: lq) go W s) {W' : World} {kob : Nat} {x : Nat × Ob} {cs os : List Value} {rg' : List Int} (_hkob : s.top.2 = kob) (hk : go[kob]? = some x) (hcs : Bk W C 109 cs) (hos : Bk W P 146 os) (hlen : rg'.length = x2.1.rg.length) (hG : BakG R C P tq2 kob lq.length ca r cs os rg' W W') (st' : List (Cal × Nat)) (hst : s.low = x2 :: st') : RelX p pp pc L W0 R { r with cv := .slice (some ⟨C, 0, none⟩) (lq.length + 1) ca } C ca P pa ((tq2, ({ x2.1 with rg := rg' }, x2.2)) :: lq) (go.set kob (x.1, { x.2 with ed := true })) W' { s with top := ({ x2.1 with rg := rg' }, x2.2), low := st', os := edR s.os kob } := by
  obtain ⟨p0, ds, hD, h1, h2, h3, h4⟩ := h.bP
  have e1 : os = ds := by unfold Bk at hos hD; rw [hD] at hos; cases hos; rfl
  subst e1
  obtain ⟨c0, cd, hC, g1, g2, g3, g4⟩ := h.bC
  have e2 : cs = cd := by unfold Bk at hcs hC; rw [hC] at hcs; cases hcs; rfl
  subst e2
  have hso : s.os[kob]? = some x.2 := by rw [← h.os, List.getElem?_map, hk]; rfl
  obtain ⟨q0, hq⟩ := h.rg (tq2, x2) (by simp)
  have hkeys : (go.set kob (x.1, { x.2 with ed := true })).map (·.1) = go.map (·.1) := mapq_set_same _ _ _ x _ hk rfl
  have hS : ∀ b, (b = R ∨ b = P ∨ b = tq2) → W0.heap.size ≤ b ∧ (∀ ds, Bk W b 5 ds → False) ∧ (∀ ds, Bk W b 2 ds → b = tq2) := fun b e => by
    rcases e with e | e | e
    · subst e; exact ⟨h.rB, fun ds hb => h.rb.ne hb (by decide) rfl, fun ds hb => (h.rb.ne hb (by decide) rfl).elim⟩
    · rw [e]; exact ⟨p0, fun ds hb => hD.ne hb (by decide) rfl, fun ds hb => (hD.ne hb (by decide) rfl).elim⟩
    · rw [e]; exact ⟨q0, fun ds hb => hq.ne hb (by decide) rfl, fun ds hb => rfl⟩
  have hnd := h.nd
  simp only [List.map_cons, List.nodup_cons] at hnd
  have hls := h.ls
  simp only [List.map_cons, List.cons.injEq] at hls
  rw [hst] at hls
  simp only [List.cons.injEq] at hls
  have hrow : rowX ((tq, s.top) :: (tq2, x2) :: lq) = rowX lq ++ cafX (tq2, x2) ++ cafX (tq, s.top) := rfl
  refine ⟨Onl.below (Nat.le_refl _) h.bel hG.onl (fun b e => (hS b e).1), h.rB, hG.rb, h.pg, rfl, ?_, by rw [List.length_set]; exact h.pv, ?_, ?_, ?_, ?_, by rw [hkeys]; exact h.wn, ?_, ?_, h.nx, h.hp, h.en, h.cd, h.ovr, h.st, h.iv, h.rd, ?_⟩
  · refine own_of c0 hG.bc (by simp only [List.length_cons] at g2; omega) g3 g4 ?_
    have e : cafX (tq2, ({ x2.1 with rg := rg' }, x2.2)) = cafX (tq2, x2) := by unfold cafX; simp only []; rw [hlen]
    rw [rowX, e, show rowX lq ++ cafX (tq2, x2) = rowX ((tq2, x2) :: lq) from rfl]
    have t := congrArg (List.take ((lq.length + 1) * 6)) g1
    have e3 : List.take ((lq.length + 1) * 6) (rowX ((tq2, x2) :: lq)) = rowX ((tq2, x2) :: lq) := List.take_of_length_le (by rw [rowX_len]; exact Nat.le_refl _)
    rw [List.take_take, Nat.min_eq_left (by simp only [List.length_cons]; omega), hrow, show rowX lq ++ cafX (tq2, x2) = rowX ((tq2, x2) :: lq) from rfl, List.take_append_of_le_length (by rw [rowX_len]; exact Nat.le_refl _), e3] at t
    exact t
  · rw [List.length_set, flO_set go kob x (x.1, { x.2 with ed := true }) 3 (.bool true) hk (by decide) (by simp [obC])]
    show W'.ownsRow W0.heap.size 146 4 r.ob go.length _
    rw [h.pv]
    exact own_of p0 hG.bo h2 h3 (by rw [List.length_set]; exact h4) (by rw [List.take_set, h1])
  · intro y hy
    rcases List.mem_cons.1 hy with rfl | hy
    · exact ⟨q0, hG.rg⟩
    · obtain ⟨t1, t2⟩ := h.rg y (by simp [hy])
      exact ⟨t1, t2.onl hG.onl (fun e => hnd.2.1 (by rw [← (hS _ e).2.2 _ t2]; exact List.mem_map.2 ⟨y, hy, rfl⟩))⟩
  · rw [List.map_cons, List.nodup_cons]
    exact hnd.2
  · have hw : ∀ y ∈ go, W0.heap.size ≤ y.1 ∧ RgB W' y.1 y.2.ws ∧ y.1 ∉ tq2 :: lq.map (·.1) := fun y hy => by
      obtain ⟨t1, t2, t3⟩ := h.wd y hy
      simp only [List.map_cons, List.mem_cons, not_or] at t3
      exact ⟨t1, t2.onl hG.onl (fun e => t3.2.1 ((hS _ e).2.2 _ t2)), by simp only [List.mem_cons, not_or]; exact t3.2⟩
    intro y hy
    rcases set_mem (·.1) go kob x _ y h.wn hk hy with rfl | ⟨hy, hne⟩
    · exact hw x (List.mem_of_getElem? hk)
    · exact hw y hy
  · show _ :: lq.map (·.2) = _
    rw [hls.2.2]
  · show (go.set kob _).map (·.2) = edR s.os kob
    unfold edR
    rw [hso, List.map_set, h.os]
  · exact own_onl h.ov hG.onl (fun g hg e => by
      obtain ⟨_, ds, hO⟩ := h.bO hg
      exact (hS g e).2.1 _ hO)
end
end Go.Proofs.YtdppoblbenbafaaGreatDoor
