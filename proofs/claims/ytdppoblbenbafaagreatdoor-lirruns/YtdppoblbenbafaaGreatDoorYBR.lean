/- One step of the document's, whichever. The document's own Run: its beginning, its round. -/
import Derived.Test.YtdppoblbenbafaaGreatDoorYBQ
namespace Go.Proofs.YtdppoblbenbafaaGreatDoor
section
open Go.RowKit Go.Shelf
variable {p : List Fun} {pp : Option Addr} {pc : Nat} {L : List UInt8} {W0 : World} {R : Nat} {r : Rq} {C ca P pa : Nat} {go : List (Nat × Ob)} {W : World} {s : Rt} {tq : Nat} {lq : List (Nat × (Cal × Nat))} {f : Fun} {bl : Blk} {i : Ins}
/-- The bounds of a run. -/
structure BndX (s : Rt) : Prop where
  lo : s.low.length ≤ 999
  nx : 0 ≤ s.nx ∧ s.nx ≤ 1099511627776
  hp : 0 ≤ s.hp ∧ s.hp ≤ 8192
  os : s.os.length ≤ 1000000
  out : s.out.length ≤ 1000000000
  ob : ∀ o ∈ s.os, 0 ≤ o.ad ∧ o.ws.length ≤ 4096
theorem frOf_le (hp : PrF p) (k : Nat) : frOf p k ≤ 4096 := by
  cases h : p[k]? with
  | none => unfold frOf; rw [h]; exact Nat.zero_le _
  | some f => exact (rg_le h (prog_fn hp.pr h).1).2.1
theorem xs_ret (hI : FunA W0 pp pc p) (h : RelX p pp pc L W0 R r C ca P pa ((tq, s.top) :: lq) go W s) (hF : FnF f) (hc : CalF p s.top.1 f bl i) (hl : bl.l.length ≤ 4096) (hn : lq.length ≤ 1000000) (hi : InsF f.h i (fdF p i.nm)) (hop : i.op = 10) (hgo : go.length ≤ 1000000) (hO : ObF p s.os s.top) (hA : ∀ x2 l, s.low = x2 :: l → s.top.1.an = -1 ∨ (0 ≤ s.top.1.an ∧ s.top.1.an < x2.1.rg.length)) (n : Nat) : Calls Tryz.prog 33 #[.pointer (some ⟨R, 0, none⟩)] W fun e w' => e = .returned (.tuple #[]) ∧ OutX p pp pc L n W0 R w' (stpR p s i) := by
  obtain ⟨g, o, g1, o1, bc, g2, o2, ic, cs, hS, hC, hl4, ht⟩ := h.stpE hI hF hc hl hn
  unfold stpR
  rw [if_neg (by omega), if_neg (by omega), if_neg (by omega), if_neg (by omega), if_neg (by omega), if_neg (by omega), if_neg (by omega), if_neg (by omega), if_neg (by omega), if_pos hop]
  have key : ∀ W1 v, SteQ C lq.length s.top.1.j cs W W1 → Calls Tryz.prog 74 #[.pointer (some ⟨R, 0, none⟩), .int .i64 v] W1 fun e w' => e = .returned (.tuple #[]) ∧ OutX p pp pc L n W0 R w' (bakR { s with top := (topX s, s.top.2) } v) := fun W1 v h1 => xback (s1 := { s with top := (topX s, s.top.2) }) v n (h.ste hC h1) hO hn hgo hA
  rcases hi.ar hop with ha | ha
  · have e : getR { s.top.1 with j := s.top.1.j + 1 } i.a = 0 := by unfold getR; rw [if_pos ha]
    rw [e]
    exact rstep_ret0 _ _ _ _ _ _ _ _ _ _ _ _ _ _ _ _ _ _ _ _ _ _ _ _ _ _ _ hS (by omega) hop (fun W1 h1 => key W1 0 h1)
  · obtain ⟨a, v, e2, hv, gv, _, _, _⟩ := reg_at hc ha
    have e : getR { s.top.1 with j := s.top.1.j + 1 } i.a = v := gv
    rw [e]
    exact rstep_ret _ _ _ _ _ _ _ _ _ _ _ _ _ _ _ _ _ _ _ _ _ _ _ _ _ _ _ hS a v e2 hv hop (fun W1 h1 => key W1 v h1)
theorem argQ (hc : CalF p s.top.1 f bl i) (hg : ∀ y ∈ i.gs, 0 ≤ y ∧ y < f.h.rg) (h7 : i.gs.length ≤ 7) : ArgQ s.top.1.rg i (i.gs.map (getR s.top.1)) := by
  refine ⟨List.length_map .., h7, fun j g v h1 h2 => ?_⟩
  rw [List.getElem?_map, h1] at h2
  obtain ⟨n, u, e1, hu, gu, _⟩ := reg_at hc (hg g (List.mem_of_getElem? h1))
  have h2' : getR s.top.1 g = v := by simpa using h2
  exact ⟨n, e1, by rw [← h2', gu]; exact hu⟩
theorem xs_call (hp : PrF p) (hI : FunA W0 pp pc p) (hL : L.length ≤ 65536) (h : RelX p pp pc L W0 R r C ca P pa ((tq, s.top) :: lq) go W s) (hF : FnF f) (hc : CalF p s.top.1 f bl i) (hl : bl.l.length ≤ 4096) (hB : BndX s) (hi : InsF f.h i (fdF p i.nm)) (hop : i.op = 7) {st0 : Nat} (hst : s.st = st0 + 1) : Calls Tryz.prog 33 #[.pointer (some ⟨R, 0, none⟩)] W fun e w' => e = .returned (.tuple #[]) ∧ OutX p pp pc L (lq.length + 1) W0 R w' (stpR p s i) := by
  have hlen := h.len
  simp only [List.length_cons] at hlen
  have hlo := hB.lo
  have hos := hB.os
  obtain ⟨g1, o1, bc, g2, o2, ic, hP⟩ := ins_cells hI h.bel hc
  refine stp_do h hI hF hc hl (by omega) (by omega) (fun W1 h1 => rdoes_call R C _ i W1 hop (fun W2 hb => ?_))
  have h2 : RelX p pp pc L W0 R r C ca P pa ((tq, (topX s, s.top.2)) :: lq) go W2 { s with top := (topX s, s.top.2) } := h1.below hb
  have hA : ArA W2 i.ar i.ac i.gs := by
    obtain ⟨u1, u2, u3⟩ := (hI.below h2.bel).2.2.1 f (List.mem_of_getElem? hc.hf)
    exact ((u3.2.2.1 bl (List.mem_of_getElem? hc.hb)).2.2.1 i (List.mem_of_getElem? hc.hi)).1
  have hca := hi.ca hop
  unfold stpR
  rw [if_neg (by omega), if_neg (by omega), if_neg (by omega), if_neg (by omega), if_neg (by omega), if_neg (by omega), if_pos hop]
  have hgo : go.length ≤ 1000000 := by omega
  have hd : i.d = -1 ∨ (0 ≤ i.d ∧ i.d < s.top.1.rg.length) := by
    have hreg : (f.h.rg.toNat : Int) = f.h.rg := by have := hF.rg; have := hF.pa; omega
    rw [hc.ln]
    rcases hi.dc hop with h | h
    · exact .inl h
    · exact .inr (by omega)
  cases hr : rtA i.nm.data.toList with
  | none =>
    have h7 : i.gs.length ≤ 7 := by
      have hca' := hca
      unfold calB at hca'
      rw [hr] at hca'
      unfold fdF at hca'
      cases hf : fnOf p i.nm with
      | none => rw [hf] at hca'; simp at hca'
      | some f' =>
        rw [hf] at hca'
        simp only [Option.map_some, decide_eq_true_eq] at hca'
        obtain ⟨k, hk, _, _⟩ := ixE_find i.nm f' p hf
        have := (prog_fn hp.pr hk).1.pa
        omega
    exact xcall_own (s1 := { s with top := (topX s, s.top.2) }) h2 hI hp.pr hA (argQ (s := s) hc hi.gs h7) rfl hr hca hgo hB.nx hst
  | some k0 =>
    have glen : (i.gs.length : Int) = k0 := by
      unfold calB at hca
      rw [hr] at hca
      simpa using hca
    have hne : rtA i.nm.data.toList ≠ none := by rw [hr]; simp
    unfold calR
    dsimp only
    by_cases q1 : i.nm.data.toList = [114, 116, 46, 112, 114, 105, 110, 116]
    · rw [if_pos q1]
      have hk : k0 = 1 := by rw [q1] at hr; exact (Option.some.inj hr).symm
      obtain ⟨y, hy⟩ : ∃ y, i.gs = [y] := by
        match hgs : i.gs, glen with
        | [y], _ => exact ⟨y, rfl⟩
        | [], h => simp at h; omega
        | _ :: _ :: _, h => simp at h; omega
      have ha := argQ hc hi.gs (by rw [hy]; simp)
      have hv : i.gs.map (getR s.top.1) = [getR s.top.1 y] := by rw [hy]; rfl
      rw [hv] at ha
      have e1 : (i.gs.map (getR { s.top.1 with j := s.top.1.j + 1 })).getD 0 0 = getR s.top.1 y := by rw [hy]; rfl
      rw [e1]
      exact xcall_go (s1 := { s with top := (topX s, s.top.2) }) h2 hA ha hne hd (rt_print_g q1 (getR_i64 hc.rg y) hB.out) _
    rw [if_neg q1]
    by_cases q2 : i.nm.data.toList = [114, 116, 46, 114, 101, 97, 100]
    · rw [if_pos q2]
      have hk : k0 = 0 := by rw [q2] at hr; exact (Option.some.inj hr).symm
      have hy : i.gs = [] := List.length_eq_zero_iff.1 (by omega)
      have ha := argQ hc hi.gs (by rw [hy]; simp)
      have hv : i.gs.map (getR s.top.1) = [] := by rw [hy]; rfl
      rw [hv] at ha
      exact xcall_go (s1 := { s with top := (topX s, s.top.2) }) h2 hA ha hne hd (rt_read_g q2 hL) _
    rw [if_neg q2]
    by_cases q3 : i.nm.data.toList = [114, 116, 46, 97, 108, 108, 111, 99]
    · rw [if_pos q3]
      have hk : k0 = 1 := by rw [q3] at hr; exact (Option.some.inj hr).symm
      obtain ⟨y, hy⟩ : ∃ y, i.gs = [y] := by
        match hgs : i.gs, glen with
        | [y], _ => exact ⟨y, rfl⟩
        | [], h => simp at h; omega
        | _ :: _ :: _, h => simp at h; omega
      have ha := argQ hc hi.gs (by rw [hy]; simp)
      have hv : i.gs.map (getR s.top.1) = [getR s.top.1 y] := by rw [hy]; rfl
      rw [hv] at ha
      have e1 : (i.gs.map (getR { s.top.1 with j := s.top.1.j + 1 })).getD 0 0 = getR s.top.1 y := by rw [hy]; rfl
      rw [e1]
      generalize hz : getR s.top.1 y = z at *
      have hz64 : I64 z := by rw [← hz]; exact getR_i64 hc.rg y
      by_cases hb : z < 0 ∨ 64 < z ∨ 8192 < s.hp + z
      · rw [if_pos hb]
        exact xcall_end (s1 := { s with top := (topX s, s.top.2) }) h2 hA ha hne hd (rt_alloc_z _ q3 hz64 hB.hp hb)
      · rw [if_neg hb]
        exact xcall_go (s1 := { s with top := (topX s, s.top.2) }) h2 hA ha hne hd (rt_alloc_g q3 hgo hB.nx hB.hp.1 (by omega) (by omega) (by show s.hp + z ≤ 8192; omega)) _
    rw [if_neg q3]
    have q4 : i.nm.data.toList = [114, 116, 46, 102, 114, 101, 101] := by
      unfold rtA at hr
      rw [if_neg q2, if_neg q1, if_neg q3] at hr
      by_cases q4 : i.nm.data.toList = [114, 116, 46, 102, 114, 101, 101]
      · exact q4
      · rw [if_neg q4] at hr; cases hr
    rw [if_pos q4]
    have hk : k0 = 2 := by rw [q4] at hr; exact (Option.some.inj hr).symm
    obtain ⟨y, z, hy⟩ : ∃ y z, i.gs = [y, z] := by
      match hgs : i.gs, glen with
      | [y, z], _ => exact ⟨y, z, rfl⟩
      | [], h => simp at h; omega
      | [_], h => simp at h; omega
      | _ :: _ :: _ :: _, h => simp at h; omega
    have ha := argQ hc hi.gs (by rw [hy]; simp)
    have hv : i.gs.map (getR s.top.1) = [getR s.top.1 y, getR s.top.1 z] := by rw [hy]; rfl
    rw [hv] at ha
    have e1 : (i.gs.map (getR { s.top.1 with j := s.top.1.j + 1 })).getD 0 0 = getR s.top.1 y := by rw [hy]; rfl
    have e2 : (i.gs.map (getR { s.top.1 with j := s.top.1.j + 1 })).getD 1 0 = getR s.top.1 z := by rw [hy]; rfl
    rw [e1, e2]
    cases hfr : frR s.os (getR s.top.1 y) (getR s.top.1 z) with
    | none =>
      exact xcall_end (s1 := { s with top := (topX s, s.top.2) }) h2 hA ha hne hd (rt_free_z _ q4 hgo hfr)
    | some k =>
      obtain ⟨o, ho, _, _, _, hc0⟩ := fr_some hfr
      have hob := (hB.ob o (List.mem_of_getElem? ho)).2
      exact xcall_go (s1 := { s with top := (topX s, s.top.2) }) h2 hA ha hne hd (rt_free_g q4 hgo hB.hp hfr (by omega)) _
theorem xs_all (hp : PrF p) (hI : FunA W0 pp pc p) (hL : L.length ≤ 65536) (h : RelX p pp pc L W0 R r C ca P pa ((tq, s.top) :: lq) go W s) (hc : CalF p s.top.1 f bl i) (hB : BndX s) (hO : ObF p s.os s.top) (hA : ∀ x2 l, s.low = x2 :: l → s.top.1.an = -1 ∨ (0 ≤ s.top.1.an ∧ s.top.1.an < x2.1.rg.length)) {st0 : Nat} (hst : s.st = st0 + 1) : Calls Tryz.prog 33 #[.pointer (some ⟨R, 0, none⟩)] W fun e w' => e = .returned (.tuple #[]) ∧ OutX p pp pc L (lq.length + 1) W0 R w' (stpR p s i) := by
  obtain ⟨hF, hi, hE, hl1, hl2, hbl, hn64, _⟩ := ins_facts_at hp hc
  have hlen := h.len
  simp only [List.length_cons] at hlen
  have hlo := hB.lo
  have hos := hB.os
  have hn : lq.length ≤ 1000000 := by omega
  have hgo : go.length ≤ 1000000 := by omega
  have had : ∀ o ∈ s.os, 0 ≤ o.ad := fun o ho => (hB.ob o ho).1
  have ho := hi.op
  by_cases o1 : i.op = 1
  · exact xs_const h hI hF hc hl1 hn hi o1 _
  by_cases o2 : i.op = 2
  · exact xs_move h hI hF hc hl1 hn hi o2 _
  by_cases o3 : i.op = 3
  · exact xs_bin h hI hF hc hl1 hn hi o3 _
  by_cases o4 : i.op = 4
  · exact xs_load h hI hF hc hl1 hn hi hgo had o4 _
  by_cases o5 : i.op = 5
  · exact xs_store h hI hF hc hl1 hn hi hgo had o5 _
  by_cases o6 : i.op = 6
  · exact xs_frame h hI hF hc hl1 hn hi hO o6 _
  by_cases o7 : i.op = 7
  · exact xs_call hp hI hL h hF hc hl1 hB hi o7 hst
  by_cases o8 : i.op = 8
  · exact xs_jump h hI hF hc hl1 hn hi o8 _
  by_cases o9 : i.op = 9
  · exact xs_if h hI hF hc hl1 hn hi o9 _
  by_cases o10 : i.op = 10
  · exact xs_ret hI h hF hc hl1 hn hi o10 hgo hO hA _
  · exact xs_trap h hI hF hc hl1 hn (by omega) _
end
section
open Go.RowKit Go.Shelf
variable {p : List Fun} {pp : Option Addr} {pc : Nat} {L : List UInt8} {W0 : World} {R : Nat} {r : Rq} {C ca P pa : Nat} {gl : List (Nat × (Cal × Nat))} {go : List (Nat × Ob)} {W : World} {s : Rt} {tq : Nat} {lq : List (Nat × (Cal × Nat))} {f : Fun} {bl : Blk} {i : Ins}
/-- The run at its beginning, as it lies. -/
theorem first_relX {V W' : World} (hR0 : W0.heap.size ≤ R) (hVb : Below W0.heap.size W0 V) (r : Rq) (hpg : r.pg = .slice pp p.length pc) (hiv : InV W0 W0 r.iv L) (hrd : r.rd = 0) (hob : r.ob = .slice none 0 0) (hcv : r.cv = .slice none 0 0) (hen : r.en = 0) (hcd : r.cd = 0) (hov : r.ov = .slice none 0 0) (hst : r.st = 0) (hvr : r.ovr = false) (hnx : r.nx = 65536) (hhp : r.hp = 0) (hE : EnQ R W0.heap.size 0 0 (rgOf p 0) (frOf p 0) 0 (-1) r [] [] ((List.replicate (rgOf p 0) (0 : Int)).map (Value.int .i64)) V W') : ∃ r' C ca P pa gl go, RelX p pp pc L W0 R r' C ca P pa gl go W' (r0 p L) := by
  obtain ⟨⟨cv, ob, gw, ho, hR, hC, hP, hQ, hG, hgw⟩⟩ := hE
  obtain ⟨C', ca', hcv'⟩ : ∃ C' ca', cv = .slice (some ⟨C', 0, none⟩) 1 ca' := by
    obtain ⟨_, ⟨_, h0⟩ | ⟨C, cap, cur, e, _⟩⟩ := hC
    · simp at h0
    · exact ⟨C, cap, e⟩
  obtain ⟨P', pa', hob'⟩ : ∃ P' pa', ob = .slice (some ⟨P', 0, none⟩) 1 pa' := by
    obtain ⟨_, ⟨_, h0⟩ | ⟨C, cap, cur, e, _⟩⟩ := hP
    · simp at h0
    · exact ⟨C, cap, e⟩
  have hS : ∀ b, (b = R ∨ r.ob.ownBlock = some b ∨ r.cv.ownBlock = some b) → W0.heap.size ≤ b := fun b e => by
    rcases e with e | e | e
    · rw [e]; exact hR0
    · rw [hob] at e; cases e
    · rw [hcv] at e; cases e
  have hVs := hVb.size
  have hs0 : (s0 p L).top = ⟨0, List.replicate (rgOf p 0) 0, 65536, 0, 0, -1⟩ := by
    unfold s0
    simp
  refine ⟨_, C', ca', P', pa', [(V.heap.size, ((s0 p L).top, 0))], [(gw, ⟨65536, List.replicate (frOf p 0) 0, false, false⟩)], ⟨Onl.below (Nat.le_refl _) hVb ho hS, hR0, hR, hpg, hcv', ?_, hob', ?_, ?_, by simp, ?_, by simp, rfl, rfl, ?_, hhp, hen, hcd, hvr, hst, hiv, ⟨0, hrd, Nat.zero_le _, rfl⟩, ?_⟩⟩
  · have e : rowX [(V.heap.size, ((s0 p L).top, 0))] = fmC 0 V.heap.size (rgOf p 0) 0 0 0 (-1) := by
      rw [hs0]
      simp [rowX, cafX]
    rw [e]
    exact hC
  · have e : flO [(gw, (⟨65536, List.replicate (frOf p 0) 0, false, false⟩ : Ob))] = [.int .i64 r.nx, .slice (some ⟨gw, 0, none⟩) (frOf p 0) (frOf p 0), .bool false, .bool false] := by simp [flO, obC, hnx]
    rw [e]
    exact hP
  · intro x hx
    rw [List.mem_singleton.1 hx, hs0]
    exact ⟨hVs, hQ⟩
  · intro x hx
    rw [List.mem_singleton.1 hx]
    have hrep : (List.replicate (frOf p 0) (0 : Int)).map (Value.int .i64) = List.replicate (frOf p 0) (.int .i64 0) := by simp
    refine ⟨by show _ ≤ gw; omega, by unfold RgB; rw [hrep]; exact hG, fun e => ?_⟩
    have e' : gw = V.heap.size := by simpa using e
    omega
  · show r.nx + _ = _
    rw [hnx]
    rfl
  · show W'.ownsRow W0.heap.size 5 1 r.ov 0 []
    rw [hov]
    exact World.ownsRow_nil _ _ _ _
/-- A step is counted. -/
theorem RelX.tick (h : RelX p pp pc L W0 R r C ca P pa gl go W s) : RelX p pp pc L W0 R { r with st := r.st + 1 } C ca P pa gl go (W.setCell ⟨R, 8, none⟩ (.int .i64 ((s.st : Int) + 1))) { s with st := s.st + 1 } := by
  have ho : Onl (fun b => b = R) W (W.setCell ⟨R, 8, none⟩ (.int .i64 ((s.st : Int) + 1))) := (Onl.of_below (Below.refl _ _)).set (S := fun b => b = R) rfl
  have hR : Rqb (W.setCell ⟨R, 8, none⟩ (.int .i64 ((s.st : Int) + 1))) R { r with st := r.st + 1 } := by
    have := h.rb.set 8 (.int .i64 ((s.st : Int) + 1))
    rw [← h.st] at this ⊢
    exact this
  exact h.mem ho (fun _ e => .inl e) hR rfl rfl rfl h.en h.cd h.ovr h.pv (h.pok ho (fun _ e => .inl e)) (h.wdk ho (fun _ e => .inl e)) h.wn rfl rfl h.os h.nx h.hp (by show r.st + 1 = _; rw [h.st]; rfl) h.rd (h.ovk ho (fun _ e => .inl e))
/-- What holds of the parts. -/
structure InvX (s : Rt) : Prop where
  len : s.os.length ≤ s.st + 1
  ob : ∀ o ∈ s.os, 0 ≤ o.ad ∧ o.ws.length ≤ 4096
theorem mem_setO {l : List Ob} {k : Nat} {o x : Ob} (h : x ∈ l.set k o) : x = o ∨ x ∈ l := by
  rcases List.mem_or_eq_of_mem_set h with h | h
  · exact .inr h
  · exact .inl h
theorem inv_step (hp : PrF p) (hI : InvX s) (hnx : 0 ≤ s.nx) {s' : Rt} (h : stpR p { s with st := s.st + 1 } i = .inl s') : InvX s' ∧ s'.st = s.st + 1 := by
  have keep : ∀ t : Rt, t.os = s.os → t.st = s.st + 1 → InvX t ∧ t.st = s.st + 1 := fun t e1 e2 => ⟨⟨by rw [e1, e2]; have := hI.len; omega, by rw [e1]; exact hI.ob⟩, e2⟩
  have ended : ∀ (t : Rt) (k : Nat), t.os = edR s.os k → t.st = s.st + 1 → InvX t ∧ t.st = s.st + 1 := fun t k e1 e2 => by
    refine ⟨⟨?_, ?_⟩, e2⟩
    · rw [e1, e2]
      unfold edR
      split
      · rw [List.length_set]; have := hI.len; omega
      · have := hI.len; omega
    · rw [e1]
      unfold edR
      split
      · rename_i o ho
        intro x hx
        rcases mem_setO hx with rfl | hx
        · exact hI.ob o (List.mem_of_getElem? ho)
        · exact hI.ob x hx
      · exact hI.ob
  have more : ∀ (t : Rt) (n : Nat) (b : Bool), n ≤ 4096 → t.os = s.os ++ [⟨s.nx, List.replicate n 0, b, false⟩] → t.st = s.st + 1 → InvX t ∧ t.st = s.st + 1 := fun t n b hn e1 e2 => by
    refine ⟨⟨?_, ?_⟩, e2⟩
    · rw [e1, e2, List.length_append]
      have := hI.len
      simp
      omega
    · rw [e1]
      intro x hx
      rcases List.mem_append.1 hx with hx | hx
      · exact hI.ob x hx
      · rw [List.mem_singleton.1 hx]
        exact ⟨hnx, by simpa using hn⟩
  unfold stpR at h
  dsimp only at h
  by_cases o1 : i.op = 1
  · rw [if_pos o1] at h; cases h; exact keep _ rfl rfl
  rw [if_neg o1] at h
  by_cases o2 : i.op = 2
  · rw [if_pos o2] at h; cases h; exact keep _ rfl rfl
  rw [if_neg o2] at h
  by_cases o3 : i.op = 3
  · rw [if_pos o3] at h; cases h; exact keep _ rfl rfl
  rw [if_neg o3] at h
  by_cases o4 : i.op = 4
  · rw [if_pos o4] at h
    split at h
    · cases h; exact keep _ rfl rfl
    · cases h
  rw [if_neg o4] at h
  by_cases o5 : i.op = 5
  · rw [if_pos o5] at h
    split at h
    · cases h
      refine ⟨⟨?_, ?_⟩, rfl⟩
      · show (wsR s.os _ _ _).length ≤ s.st + 1 + 1
        unfold wsR
        split
        · rw [List.length_set]; have := hI.len; omega
        · have := hI.len; omega
      · show ∀ o ∈ wsR s.os _ _ _, _
        unfold wsR
        split
        · rename_i o ho
          intro x hx
          rcases mem_setO hx with rfl | hx
          · have := hI.ob o (List.mem_of_getElem? ho)
            exact ⟨this.1, by simpa using this.2⟩
          · exact hI.ob x hx
        · exact hI.ob
    · cases h
  rw [if_neg o5] at h
  by_cases o6 : i.op = 6
  · rw [if_pos o6] at h; cases h; exact keep _ rfl rfl
  rw [if_neg o6] at h
  by_cases o7 : i.op = 7
  · rw [if_pos o7] at h
    unfold calR at h
    dsimp only at h
    split at h
    · cases h; exact keep _ rfl rfl
    split at h
    · cases h; exact keep _ rfl rfl
    split at h
    · split at h
      · cases h
      · rename_i hb
        cases h
        exact more _ _ true (by omega) rfl rfl
    split at h
    · split at h
      · cases h; exact ended _ _ rfl rfl
      · cases h
    split at h
    · cases h
    · cases h
      exact more _ _ false (frOf_le hp _) rfl rfl
  rw [if_neg o7] at h
  by_cases o8 : i.op = 8
  · rw [if_pos o8] at h; cases h; exact keep _ rfl rfl
  rw [if_neg o8] at h
  by_cases o9 : i.op = 9
  · rw [if_pos o9] at h; cases h; exact keep _ rfl rfl
  rw [if_neg o9] at h
  by_cases o10 : i.op = 10
  · rw [if_pos o10] at h
    unfold bakR at h
    dsimp only at h
    split at h
    · cases h
    · cases h; exact ended _ _ rfl rfl
  rw [if_neg o10] at h
  cases h
/-- The run has ended, and its steps are counted. -/
def EndY (W0 : World) (R : Nat) (W : World) (o : Oc) : Prop := ∃ r, Below W0.heap.size W0 W ∧ W0.heap.size ≤ R ∧ Rqb W R r ∧ r.en = o.en ∧ r.cd = o.cd ∧ r.ovr = true ∧ r.st = (o.st : Int) ∧ W.ownsRow W0.heap.size 5 1 r.ov o.out.length (Lib.byteCells o.out)
/-- The run goes on. -/
def GoX (p : List Fun) (pp : Option Addr) (pc : Nat) (L : List UInt8) (W0 : World) (R fuel : Nat) (O : Oc) (wx : World) (st n : Nat) : Prop := ∃ s z, (∃ r C ca P pa gl go, RelX p pp pc L W0 R r C ca P pa gl go wx s) ∧ Sim p z s ∧ Wf p z ∧ InvX s ∧ s.st = st ∧ st + n = fuel ∧ runR p n s = O
structure LpX (p : List Fun) (pp : Option Addr) (pc : Nat) (L : List UInt8) (W0 : World) (R fuel : Nat) (O : Oc) (wx : World) : Prop where
  or : (∃ st n, GoX p pp pc L W0 R fuel O wx st n) ∨ EndY W0 R wx O
def mX (R fuel : Nat) (wx : World) : Nat := match wx.cell? ⟨R, 9, none⟩ with
  | some (.bool true) => 0
  | _ => match wx.cell? ⟨R, 8, none⟩ with
    | some v => fuel + 1 - (intOf v).toNat
    | none => 0
theorem mX_go {wx : World} {fuel st : Nat} (h9 : wx.cell? ⟨R, 9, none⟩ = some (.bool false)) (h8 : wx.cell? ⟨R, 8, none⟩ = some (.int .i64 (st : Nat))) : mX R fuel wx = fuel + 1 - st := by
  unfold mX
  rw [h9, h8]
  simp [intOf]
theorem mX_end {wx : World} {fuel : Nat} (h9 : wx.cell? ⟨R, 9, none⟩ = some (.bool true)) : mX R fuel wx = 0 := by
  unfold mX
  rw [h9]
theorem stpR_end {s : Rt} {o : Oc} (h : stpR p s i = .inr o) : o.st ≤ s.st := by
  unfold stpR at h
  dsimp only at h
  by_cases o1 : i.op = 1
  · rw [if_pos o1] at h; cases h
  rw [if_neg o1] at h
  by_cases o2 : i.op = 2
  · rw [if_pos o2] at h; cases h
  rw [if_neg o2] at h
  by_cases o3 : i.op = 3
  · rw [if_pos o3] at h; cases h
  rw [if_neg o3] at h
  by_cases o4 : i.op = 4
  · rw [if_pos o4] at h
    split at h
    · cases h
    · cases h; exact Nat.le_refl _
  rw [if_neg o4] at h
  by_cases o5 : i.op = 5
  · rw [if_pos o5] at h
    split at h
    · cases h
    · cases h; exact Nat.le_refl _
  rw [if_neg o5] at h
  by_cases o6 : i.op = 6
  · rw [if_pos o6] at h; cases h
  rw [if_neg o6] at h
  by_cases o7 : i.op = 7
  · rw [if_pos o7] at h
    unfold calR at h
    dsimp only at h
    split at h
    · cases h
    split at h
    · cases h
    split at h
    · split at h
      · cases h; exact Nat.le_refl _
      · cases h
    split at h
    · split at h
      · cases h
      · cases h; exact Nat.le_refl _
    split at h
    · cases h; exact Nat.sub_le _ _
    · cases h
  rw [if_neg o7] at h
  by_cases o8 : i.op = 8
  · rw [if_pos o8] at h; cases h
  rw [if_neg o8] at h
  by_cases o9 : i.op = 9
  · rw [if_pos o9] at h; cases h
  rw [if_neg o9] at h
  by_cases o10 : i.op = 10
  · rw [if_pos o10] at h
    unfold bakR at h
    dsimp only at h
    split at h
    · cases h; exact Nat.le_refl _
    · cases h
  rw [if_neg o10] at h
  cases h
  exact Nat.le_refl _
/-- What a round reads. -/
structure RndX (p : List Fun) (pp : Option Addr) (pc : Nat) (L : List UInt8) (W0 : World) (R fuel : Nat) (O : Oc) (wr : World) (st n gn : Nat) (cp : Option Addr) (ca : Nat) : Prop where
  r9 : wr.cell? ⟨R, 9, none⟩ = some (.bool false)
  r8 : wr.cell? ⟨R, 8, none⟩ = some (.int .i64 (st : Nat))
  r4 : wr.cell? ⟨R, 4, none⟩ = some (.slice cp gn ca)
  z8 : wr.frozen? ⟨R, 8, none⟩ = false
  sn : st + n = fuel
  fin : n = 0 → Calls Tryz.prog 32 #[.pointer (some ⟨R, 0, none⟩), .int .i64 2, .int .i64 0] wr fun e w' => e = .returned (.tuple #[]) ∧ EndY W0 R w' O
  go : n ≠ 0 → Calls Tryz.prog 33 #[.pointer (some ⟨R, 0, none⟩)] (wr.setCell ⟨R, 8, none⟩ (.int .i64 ((st : Int) + 1))) fun e w' => e = .returned (.tuple #[]) ∧ (GoX p pp pc L W0 R fuel O w' (st + 1) (n - 1) ∨ (EndX gn W0 R w' O ∧ O.st ≤ st + 1))
theorem round_x (hp : PrF p) (hI : FunA W0 pp pc p) (hL : L.length ≤ 65536) {fuel : Nat} (hf : fuel ≤ 524288) {O : Oc} {wr : World} {st n : Nat} (hG : GoX p pp pc L W0 R fuel O wr st n) : ∃ gn cp ca, RndX p pp pc L W0 R fuel O wr st n gn cp ca := by
  obtain ⟨s, z, ⟨r, C, ca, P, pa, gl, go, h⟩, hS, hW, hV, hst, hsn, hO⟩ := hG
  subst hst
  refine ⟨gl.length, _, ca, ⟨by rw [← h.ovr]; exact h.rb.cell (j := 9) rfl, by rw [← h.st]; exact h.rb.cell (j := 8) rfl, h.rb.cell (j := 4) (by rw [← h.cv]; rfl), h.rb.fz 8, hsn, fun hn => ?_, fun hn => ?_⟩⟩
  · subst hn
    refine (rstop32 R 2 0 r wr h.rb).mono ?_
    rintro e w' ⟨rfl, ho, hR⟩
    rw [runR] at hO
    subst hO
    exact ⟨rfl, _, Onl.below (Nat.le_refl _) h.bel ho (fun b e => by rw [e]; exact h.rB), h.rB, hR, rfl, rfl, rfl, h.st, h.ovk ho (fun b e => .inl e)⟩
  · obtain ⟨m, rfl⟩ : ∃ m, n = m + 1 := ⟨n - 1, by omega⟩
    obtain ⟨f, bl, i, hc⟩ := hW.top
    have hc' : CalF p s.top.1 f bl i := by rw [hS.top]; exact hc
    have hi : insAt p s.top.1 = some i := by
      unfold insAt
      rw [hc'.hf, Option.bind_some, hc'.hb, Option.bind_some, hc'.hi]
    rw [runR, hi] at hO
    dsimp only at hO
    obtain ⟨tq, lq, rfl, hlow⟩ := h.hd
    have hB := hW.bnd (by have := hS.st; omega)
    have hlen := h.len
    simp only [List.length_cons] at hlen
    have hll : s.low.length = z.low.length := by rw [← hS.low, List.length_map]
    have hBX : BndX { s with st := s.st + 1 } := ⟨by show s.low.length ≤ 999; rw [hll]; exact hB.lo, by show _ ∧ _; rw [hS.nx]; exact hB.nx, by show _ ∧ _; rw [hS.hp]; exact hB.hp, by show s.os.length ≤ _; have := hV.len; omega, by show s.out.length ≤ _; rw [hS.out]; exact hB.out, hV.ob⟩
    have hAns : ∀ x2 l, s.low = x2 :: l → s.top.1.an = -1 ∨ (0 ≤ s.top.1.an ∧ s.top.1.an < x2.1.rg.length) := fun x2 l e => by
      have := ans_first hW.ans
      have hl := hS.low
      rw [e, List.map_cons] at hl
      have := this x2.1 (l.map (·.1)) hl.symm
      rw [hS.top]
      exact this
    have hx := xs_all (s := { s with st := s.st + 1 }) hp hI hL h.tick hc' hBX (hS.fr s.top (by simp)) hAns (st0 := s.st) rfl
    refine hx.mono ?_
    rintro e w' ⟨rfl, hout⟩
    refine ⟨rfl, ?_⟩
    cases hd : depB z i with
    | true =>
      rw [deep_same hS hd] at hO hout
      dsimp only at hO
      subst hO
      exact .inr ⟨hout, by show z.st ≤ _; rw [← hS.st]; omega⟩
    | false =>
      have hB' := stp_same hS.tick (i := i) (fun o7 hr => by
        by_cases hl : 1000 ≤ z.low.length + 1
        · rw [dep_is.2 ⟨o7, hl, hr⟩] at hd; cases hd
        · show z.low.length + 1 < 1000; omega)
      cases h2 : stpR p { s with st := s.st + 1 } i with
      | inr o =>
        rw [h2] at hO hout
        dsimp only at hO
        subst hO
        exact .inr ⟨hout, stpR_end h2⟩
      | inl s' =>
        rw [h2] at hO hout hB'
        dsimp only at hO
        obtain ⟨hV', hst'⟩ := inv_step hp hV (by rw [hS.nx]; exact hB.nx.1) h2
        cases h1 : stpS p { z with st := z.st + 1 } i with
        | inr o => rw [h1] at hB'; exact hB'.elim
        | inl z' =>
          rw [h1] at hB'
          obtain ⟨hW', _⟩ := wf_step hp hW hc hd (by have := hS.st; omega) h1
          exact .inl ⟨s', z', hout, hB', hW', hV', hst', by simp; omega, by simpa using hO⟩
end
end Go.Proofs.YtdppoblbenbafaaGreatDoor
