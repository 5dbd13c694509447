/- The instruction at PC. A step, and whether a machine is over. A run. Two machines that are alike go alike; a run in two parts. -/
import Derived.Test.YtnmpbihpoefeoaaDoorKA
import Derived.Test.YtnmpbihpoefeoaaDoorDB
namespace Go.Proofs.YtnmpbihpoefeoaaDoor
section
open Go.RowKit Go.Shelf
set_option maxHeartbeats 1000000 in
set_option maxRecDepth 20000 in
theorem next33_f {W : World} {m mem : Nat} {s : Sx} {ov iv : Value} {word fe : Int} (H : Mch W m s ov mem iv) (he : ¬ fe = 0)
    (hf : ∀ w, Below W.heap.size W w → Calls Tryd.prog 45 #[.pointer (some ⟨mem, 0, none⟩), .int .u64 s.pc] w fun e w' => e = .returned (.tuple #[.int .u32 word, .int .i64 fe]) ∧ Below w.heap.size w w') :
    Calls Tryd.prog 33 #[.pointer (some ⟨m, 0, none⟩)] W fun e w' => e = .returned (.int .i64 30) ∧ Below W.heap.size W w' := by
  have he1 : (fe != 0) = true := by simpa using he
  have hs := H.lt
  have h0 := H.pc
  have h39 := H.mem
  clear H he
  go_enter Tryd.func33, Tryd.ntmps33
  go_wp2
  go_region_held3 (fun w' => w'.cell? ⟨m, 0, none⟩ = some (.int .u64 s.pc) ∧ w'.cell? ⟨m, 39, none⟩ = some (.pointer (some ⟨mem, 0, none⟩))) (go_keep)
    (first | (go_at_call 45; refine (hf W.drew (Below.refl _ W).drew).mono ?_; rintro e w1 ⟨rfl, hb1⟩; have _g0 := (hb1.cell (p := ⟨m, 0, none⟩) hs).trans h0; have _g1 := (hb1.cell (p := ⟨m, 39, none⟩) hs).trans h39))
  have HB1 : Hid (Below W.heap.size W w1) := (Below.refl _ W).drew.trans hb1
  clear _g0 _g1 hb1
  go_wp2
  go_ret
  exact ⟨rfl, HB1.out⟩
set_option maxHeartbeats 1000000 in
set_option maxRecDepth 20000 in
theorem next33_d {W : World} {m mem : Nat} {s : Sx} {ov iv : Value} {word de ia ib ic id ie : Int} (H : Mch W m s ov mem iv) (he : ¬ de = 0)
    (hf : ∀ w, Below W.heap.size W w → Calls Tryd.prog 45 #[.pointer (some ⟨mem, 0, none⟩), .int .u64 s.pc] w fun e w' => e = .returned (.tuple #[.int .u32 word, .int .i64 0]) ∧ Below w.heap.size w w')
    (hd : ∀ w, Below W.heap.size W w → Calls Tryd.prog 46 #[.int .u32 word] w fun e w' => e = .returned (.tuple #[.agg #[.int .i64 ia, .int .i64 ib, .int .i64 ic, .int .i64 id, .int .i64 ie], .int .i64 de]) ∧ Below w.heap.size w w') :
    Calls Tryd.prog 33 #[.pointer (some ⟨m, 0, none⟩)] W fun e w' => e = .returned (.int .i64 31) ∧ Below W.heap.size W w' := by
  have he1 : (de != 0) = true := by simpa using he
  have hs := H.lt
  have h0 := H.pc
  have h39 := H.mem
  clear H he
  go_enter Tryd.func33, Tryd.ntmps33
  go_wp2
  go_region_held3 (fun w' => w'.cell? ⟨m, 0, none⟩ = some (.int .u64 s.pc) ∧ w'.cell? ⟨m, 39, none⟩ = some (.pointer (some ⟨mem, 0, none⟩))) (go_keep)
    (first | (go_at_call 45; refine (hf W.drew (Below.refl _ W).drew).mono ?_; rintro e w1 ⟨rfl, hb1⟩; have _g0 := (hb1.cell (p := ⟨m, 0, none⟩) hs).trans h0; have _g1 := (hb1.cell (p := ⟨m, 39, none⟩) hs).trans h39))
  have HB1 : Hid (Below W.heap.size W w1) := (Below.refl _ W).drew.trans hb1
  clear _g0 _g1 hb1
  have hz := HB1.out.size
  go_wp2_with fail
  refine (hd _ ?_).mono ?_
  · exact HB1.out
  rintro e w2 ⟨rfl, hb2⟩
  have HB2 : Hid (Below W.heap.size W w2) := HB1.out.trans (hb2.mono HB1.out.size)
  clear hb2
  go_wp2
  go_ret
  exact ⟨rfl, HB2.out.alloc HB2.out.size _⟩
set_option maxHeartbeats 1000000 in
set_option maxRecDepth 20000 in
theorem next33_o {W : World} {m mem : Nat} {s : Sx} {ov iv : Value} {word f ia ib ic id ie : Int} {T : World → Prop} (H : Mch W m s ov mem iv)
    (hf : ∀ w, Below W.heap.size W w → Calls Tryd.prog 45 #[.pointer (some ⟨mem, 0, none⟩), .int .u64 s.pc] w fun e w' => e = .returned (.tuple #[.int .u32 word, .int .i64 0]) ∧ Below w.heap.size w w')
    (hd : ∀ w, Below W.heap.size W w → Calls Tryd.prog 46 #[.int .u32 word] w fun e w' => e = .returned (.tuple #[.agg #[.int .i64 ia, .int .i64 ib, .int .i64 ic, .int .i64 id, .int .i64 ie], .int .i64 0]) ∧ Below w.heap.size w w')
    (hdo : ∀ w, Below W.heap.size W w → Calls Tryd.prog 47 #[.pointer (some ⟨m, 0, none⟩), .agg #[.int .i64 ia, .int .i64 ib, .int .i64 ic, .int .i64 id, .int .i64 ie]] w fun e w' => e = .returned (.int .i64 f) ∧ T w') :
    Calls Tryd.prog 33 #[.pointer (some ⟨m, 0, none⟩)] W fun e w' => e = .returned (.int .i64 f) ∧ T w' := by
  have hs := H.lt
  have h0 := H.pc
  have h39 := H.mem
  clear H
  go_enter Tryd.func33, Tryd.ntmps33
  go_wp2
  go_region_held3 (fun w' => w'.cell? ⟨m, 0, none⟩ = some (.int .u64 s.pc) ∧ w'.cell? ⟨m, 39, none⟩ = some (.pointer (some ⟨mem, 0, none⟩))) (go_keep)
    (first | (go_at_call 45; refine (hf W.drew (Below.refl _ W).drew).mono ?_; rintro e w1 ⟨rfl, hb1⟩; have _g0 := (hb1.cell (p := ⟨m, 0, none⟩) hs).trans h0; have _g1 := (hb1.cell (p := ⟨m, 39, none⟩) hs).trans h39))
  have HB1 : Hid (Below W.heap.size W w1) := (Below.refl _ W).drew.trans hb1
  clear _g0 _g1 hb1
  have hz := HB1.out.size
  go_wp2_with fail
  refine (hd _ ?_).mono ?_
  · exact HB1.out
  rintro e w2 ⟨rfl, hb2⟩
  have HB2 : Hid (Below W.heap.size W w2) := HB1.out.trans (hb2.mono HB1.out.size)
  clear hb2
  go_wp2_with fail
  refine (hdo _ (HB2.out.alloc HB2.out.size _)).mono ?_
  rintro e w3 ⟨rfl, hT⟩
  have HT : Hid (T w3) := hT
  clear hT
  go_wp2
  go_ret
  exact ⟨rfl, HT.out⟩
/-- The operation of a word. -/
def dk (n : Int) : Option Nat := (List.range 66).find? fun j => decide (cF n ≤ (j : Int)) && (decide ((j : Int) ≤ cL n) && mt j n)
theorem dk_hit {n : Int} {k : Nat} (h : dk n = some k) : cF n ≤ k ∧ (k : Int) ≤ cL n ∧ mt k n = true ∧ ∀ j : Int, cF n ≤ j → j < k → mt j n = false := by
  obtain ⟨h1, h2, h3⟩ := List.find?_range_eq_some.1 h
  simp only [Bool.and_eq_true, decide_eq_true_eq] at h1
  refine ⟨h1.1, h1.2.1, h1.2.2, fun j a b => ?_⟩
  have c := cF_pos n
  have t := h3 j.toNat (by omega)
  rw [show ((j.toNat : Nat) : Int) = j by omega] at t
  cases e : mt j n
  · rfl
  · have e1 : decide (cF n ≤ j) = true := by simpa using a
    have e2 : decide (j ≤ cL n) = true := by simp; omega
    rw [e, e1, e2] at t
    cases t
theorem dk_miss {n : Int} (h : dk n = none) : ∀ j : Int, cF n ≤ j → j ≤ cL n → mt j n = false := fun j a b => by
  have c := cF_pos n
  have d := cL_le n
  have t := List.find?_range_eq_none.1 h j.toNat (by omega)
  rw [show ((j.toNat : Nat) : Int) = j by omega] at t
  cases e : mt j n
  · rfl
  · have e1 : decide (cF n ≤ j) = true := by simpa using a
    have e2 : decide (j ≤ cL n) = true := by simpa using b
    rw [e, e1, e2] at t
    cases t
/-- What the instruction at PC does. -/
def nextP (ps : List Pgd) (bt : Nat → Nat → Int) (L : Nat) (ib : Nat → Int) (s : Sx) : Do :=
  if fE ps s.pc = 0 then
    match dk (fV ps bt s.pc) with
    | none => ⟨31, s, [], none⟩
    | some k => doP (ldP ps bt) (seP ps) L ib s k (gth (nth plL k) (fV ps bt s.pc)) (gRd (nth plL k) (fV ps bt s.pc)).toNat (gR1 (nth plL k) (fV ps bt s.pc)).toNat (gR2 (nth plL k) (fV ps bt s.pc)).toNat
  else ⟨30, s, [], none⟩
section
variable {N : Nat → Prop} {W : World} {m mem r : Nat} {ps : List Pgd} {bt : Nat → Nat → Int} {s : Sx} {ov iv : Value} {base : Nat} {xs : List Value} {L : Nat} {ib : Nat → Int}
theorem do47_any (H : Bd N W m mem r ps bt s ov iv base xs L ib) (op im : Int) (rd r1 r2 : Nat) (o1 : 1 ≤ op) (o2 : op ≤ 65) (hd : rd < 32) (h1 : r1 < 32) (h2 : r2 < 32) (hn : xs.length < 140737488355328) : Calls Tryd.prog 47 #[.pointer (some ⟨m, 0, none⟩), .agg #[.int .i64 op, .int .i64 rd, .int .i64 r1, .int .i64 r2, .int .i64 im]] W (PoD N W m mem r ps bt iv base xs L ib (doP (ldP ps bt) (seP ps) L ib s op im rd r1 r2)) := by
  rcases (by omega : op = 1 ∨ op = 2 ∨ op = 3 ∨ op = 4 ∨ (5 ≤ op ∧ op ≤ 10) ∨ (11 ≤ op ∧ op ≤ 17) ∨ (18 ≤ op ∧ op ≤ 21) ∨ (22 ≤ op ∧ op ≤ 62) ∨ op = 63 ∨ op = 64 ∨ op = 65) with h | h | h | h | h | h | h | h | h | h | h
  · exact any_lui H op im rd r1 r2 hd h1 h2 h
  · exact any_auipc H op im rd r1 r2 hd h1 h2 h
  · exact any_jal H op im rd r1 r2 hd h1 h2 h
  · exact any_jalr H op im rd r1 r2 hd h1 h2 h
  · exact any_branch H op im rd r1 r2 hd h1 h2 h
  · exact any_load H op im rd r1 r2 hd h1 h2 h
  · exact any_store H op im rd r1 r2 hd h1 h2 h
  · exact any_alu H op im rd r1 r2 hd h1 h2 h
  · exact any_fence H op im rd r1 r2 hd h1 h2 h
  · exact any_ecall H op im rd r1 r2 hd h1 h2 h hn
  · exact any_ebreak H op im rd r1 r2 hd h1 h2 h
theorem g_rd (l n : Int) : (gRd l n).toNat < 32 ∧ ((gRd l n).toNat : Int) = gRd l n := by unfold gRd; split <;> omega
theorem g_r1 (l n : Int) : (gR1 l n).toNat < 32 ∧ ((gR1 l n).toNat : Int) = gR1 l n := by unfold gR1; split <;> omega
theorem g_r2 (l n : Int) : (gR2 l n).toNat < 32 ∧ ((gR2 l n).toNat : Int) = gR2 l n := by unfold gR2; split <;> omega
theorem u_fV (hs : ∀ g j, 0 ≤ bt g j ∧ bt g j < 256) (a : Int) : 0 ≤ fV ps bt a ∧ fV ps bt a < 4294967296 := by
  unfold fV
  split
  · have hb : isBytes (byts ps bt a 4) := fun x hx => by
      obtain ⟨j, _, rfl⟩ := List.mem_map.1 hx
      exact hs _ _
    have t := sumV_bound _ hb
    rw [byts_len] at t
    exact ⟨t.1, Int.lt_of_lt_of_le t.2 (by decide)⟩
  · exact ⟨by omega, by omega⟩
theorem next33_any (H : Bd N W m mem r ps bt s ov iv base xs L ib) (hn : xs.length < 140737488355328) : Calls Tryd.prog 33 #[.pointer (some ⟨m, 0, none⟩)] W (PoD N W m mem r ps bt iv base xs L ib (nextP ps bt L ib s)) := by
  have hf : ∀ w, Below W.heap.size W w → Calls Tryd.prog 45 #[.pointer (some ⟨mem, 0, none⟩), .int .u64 s.pc] w fun e w' => e = .returned (.tuple #[.int .u32 (fV ps bt s.pc), .int .i64 (fE ps s.pc)]) ∧ Below w.heap.size w w' := fun w hb => fetch_all mem r ps bt s.pc w (H.mo.mm.below hb) H.ok.pc.1 H.ok.pc.2
  have hv := u_fV (ps := ps) H.mo.mm.small s.pc
  unfold nextP
  by_cases h0 : fE ps s.pc = 0
  · rw [if_pos h0]
    rw [h0] at hf
    generalize fV ps bt s.pc = n at *
    cases hk : dk n with
    | none =>
      refine (next33_d H.mch (by omega : ¬ (10 : Int) = 0) hf (fun w hb => decode13_miss n hv.1 hv.2 (dk_miss hk) w (H.tab.below hb))).mono fun e w' h => ?_
      exact pod_pure H H.ok ⟨h.1, Onl.of_below h.2, H.mch.below h.2⟩
    | some k =>
      obtain ⟨k1, k2, k3, k4⟩ := dk_hit hk
      obtain ⟨a1, a2⟩ := g_rd (nth plL k) n
      obtain ⟨b1, b2⟩ := g_r1 (nth plL k) n
      obtain ⟨c1, c2⟩ := g_r2 (nth plL k) n
      have p := cF_pos n
      have q := cL_le n
      refine (next33_o (T := fun w' => ∃ ov', Bd N w' m mem r ps (btN ps bt (doP (ldP ps bt) (seP ps) L ib s k (gth (nth plL k) n) (gRd (nth plL k) n).toNat (gR1 (nth plL k) n).toNat (gR2 (nth plL k) n).toNat).wr) (doP (ldP ps bt) (seP ps) L ib s k (gth (nth plL k) n) (gRd (nth plL k) n).toNat (gR1 (nth plL k) n).toNat (gR2 (nth plL k) n).toNat).s ov' iv base (xs ++ (doP (ldP ps bt) (seP ps) L ib s k (gth (nth plL k) n) (gRd (nth plL k) n).toNat (gR1 (nth plL k) n).toNat (gR2 (nth plL k) n).toNat).o) L ib ∧ FrN N W w') H.mch hf (fun w hb => decode13_hit n k hv.1 hv.2 k1 k2 k4 k3 w (H.tab.below hb)) (fun w hb => ?_)).mono fun e w' h => h
      have t := do47_any (H.below hb).1 k (gth (nth plL k) n) (gRd (nth plL k) n).toNat (gR1 (nth plL k) n).toNat (gR2 (nth plL k) n).toNat (by omega) (by omega) a1 b1 c1 hn
      rw [a2, b2, c2] at t
      exact t.mono fun e w' ⟨h1, ov', h2, h3⟩ => ⟨h1, ov', h2, (H.below hb).2.trans h3⟩
  · rw [if_neg h0]
    refine (next33_f H.mch h0 hf).mono fun e w' h => ?_
    exact pod_pure H H.ok ⟨h.1, Onl.of_below h.2, H.mch.below h.2⟩
end
end
section
open Go.RowKit Go.Shelf
def ovr (s : Sx) : Bool := s.h || (s.ft != 0)
set_option maxHeartbeats 1000000 in
theorem over30_any {W : World} {m mem : Nat} {s : Sx} {ov iv : Value} (H : Mch W m s ov mem iv) : Calls Tryd.prog 30 #[.pointer (some ⟨m, 0, none⟩)] W fun e w' => e = .returned (.bool (ovr s)) ∧ w' = W := by
  have h34 := H.h
  have h36 := H.ft
  have hs := H.lt
  clear H
  unfold ovr
  cases hh : s.h
  · rw [hh] at h34
    clear hh
    go_enter Tryd.func30, Tryd.ntmps30
    go_wp2
    go_ret
    exact ⟨rfl, rfl⟩
  · rw [hh] at h34
    clear hh
    go_enter Tryd.func30, Tryd.ntmps30
    go_wp2
    go_ret
    exact ⟨rfl, rfl⟩
/-- What a step does to a machine that is not over. -/
def stpP (ps : List Pgd) (bt : Nat → Nat → Int) (L : Nat) (ib : Nat → Int) (s : Sx) : Do :=
  ⟨(nextP ps bt L ib s).f, { (nextP ps bt L ib s).s with ft := (nextP ps bt L ib s).f }, (nextP ps bt L ib s).o, (nextP ps bt L ib s).wr⟩
section
variable {N : Nat → Prop} {W : World} {m mem r : Nat} {ps : List Pgd} {bt : Nat → Nat → Int} {s : Sx} {ov iv : Value} {base : Nat} {xs : List Value} {L : Nat} {ib : Nat → Int}
set_option maxHeartbeats 1000000 in
set_option maxRecDepth 20000 in
theorem step18_any (H : Bd N W m mem r ps bt s ov iv base xs L ib) (hn : xs.length < 140737488355328) (h1 : s.h = false) (h2 : s.ft = 0) : Calls Tryd.prog 18 #[.pointer (some ⟨m, 0, none⟩)] W (PoD N W m mem r ps bt iv base xs L ib (stpP ps bt L ib s)) := by
  have hs := H.mch.lt
  have h34 := H.mch.h
  rw [h1] at h34
  have hov : ovr s = false := by unfold ovr; rw [h1, h2]; rfl
  have HO : Hid (∀ w, w = W → Calls Tryd.prog 30 #[.pointer (some ⟨m, 0, none⟩)] w fun e w' => e = .returned (.bool false) ∧ w' = w) := fun w e => by subst e; have t := over30_any H.mch; rw [hov] at t; exact t
  have HN : Hid (Calls Tryd.prog 33 #[.pointer (some ⟨m, 0, none⟩)] W (PoD N W m mem r ps bt iv base xs L ib (nextP ps bt L ib s))) := next33_any H hn
  unfold stpP
  obtain ⟨d, hd⟩ : ∃ d, nextP ps bt L ib s = d := ⟨_, rfl⟩
  rw [hd] at HN ⊢
  clear hd H h1 h2 hov hn
  unfold PoD at HN ⊢
  go_enter Tryd.func18, Tryd.ntmps18
  go_wp2_with fail
  refine (HO.out _ rfl).mono ?_
  rintro e w1 ⟨rfl, h1⟩
  subst h1
  go_wp2_with fail
  refine HN.out.mono ?_
  rintro e w2 ⟨rfl, ov', hB, hF⟩
  have h36 := hB.mch.ft
  have f36 := hB.mch.fz 36
  have hz := hB.mch.lt
  have HB : Hid (Bd N w2 m mem r ps (btN ps bt d.wr) d.s ov' iv base (xs ++ d.o) L ib) := hB
  have HF : Hid (FrN N w1 w2) := hF
  clear hB hF HO HN
  go_wp2
  go_ret
  obtain ⟨hB2, hF2⟩ := HB.out.on_m ((Onl.of_below (Below.refl _ _)).set (o := 36) (v := .int .i64 d.f) Im.self) (HB.out.mch.setFt d.f) ⟨HB.out.ok.x, HB.out.ok.pc, HB.out.ok.inn⟩
  exact ⟨rfl, ov', hB2, HF.out.trans hF2⟩
end
end
section
open Go.RowKit Go.Shelf
/-- A machine on its way: its state, its bytes, its output, how many steps were done. -/
structure Rn where
  s : Sx
  bt : Nat → Nat → Int
  xs : List Value
  c : Nat
def rn1 (ps : List Pgd) (L : Nat) (ib : Nat → Int) (q : Rn) : Rn :=
  ⟨(stpP ps q.bt L ib q.s).s, btN ps q.bt (stpP ps q.bt L ib q.s).wr, q.xs ++ (stpP ps q.bt L ib q.s).o, q.c + (if (stpP ps q.bt L ib q.s).f = 0 then 1 else 0)⟩
def runP (ps : List Pgd) (L : Nat) (ib : Nat → Int) (n : Nat) : Nat → Rn → Rn
  | 0, q => q
  | k + 1, q => if q.c < n ∧ ovr q.s = false then runP ps L ib n k (rn1 ps L ib q) else q
theorem runP_stop {ps : List Pgd} {L : Nat} {ib : Nat → Int} {n : Nat} {q : Rn} (h : ¬ (q.c < n ∧ ovr q.s = false)) : ∀ k, runP ps L ib n k q = q
  | 0 => rfl
  | k + 1 => by rw [runP, if_neg h]
def mes (n : Nat) (q : Rn) : Nat := 2 * (n - q.c) + (if q.s.ft = 0 then 1 else 0)
theorem ovr_false {s : Sx} (h : ovr s = false) : s.h = false ∧ s.ft = 0 := by
  unfold ovr at h
  simp at h
  exact h
theorem stp_ft (ps : List Pgd) (bt : Nat → Nat → Int) (L : Nat) (ib : Nat → Int) (s : Sx) : (stpP ps bt L ib s).s.ft = (stpP ps bt L ib s).f := rfl
theorem mes_less {ps : List Pgd} {L : Nat} {ib : Nat → Int} {n : Nat} {q : Rn} (h : q.c < n ∧ ovr q.s = false) : mes n (rn1 ps L ib q) < mes n q := by
  unfold mes
  rw [if_pos (ovr_false h.2).2]
  have e : (rn1 ps L ib q).s.ft = (stpP ps q.bt L ib q.s).f := rfl
  have e2 : (rn1 ps L ib q).c = q.c + (if (stpP ps q.bt L ib q.s).f = 0 then 1 else 0) := rfl
  rw [e, e2]
  split <;> omega
def OneO (d : Do) : Prop := d.o = [] ∨ (d.f = 0 ∧ d.o.length = 1)
theorem one_ite {c : Prop} [Decidable c] {x y : Do} (hx : OneO x) (hy : OneO y) : OneO (if c then x else y) := by
  by_cases h : c
  · rw [if_pos h]; exact hx
  · rw [if_neg h]; exact hy
theorem do_o (ld : Int → Int → Int × Int) (se : Int → Int → Int) (L : Nat) (ib : Nat → Int) (s : Sx) (op im : Int) (rd r1 r2 : Nat) : OneO (doP ld se L ib s op im rd r1 r2) := by
  unfold doP ecP
  repeat' (first | exact .inl rfl | exact .inr ⟨rfl, rfl⟩ | refine one_ite ?_ ?_)
theorem stp_o (ps : List Pgd) (bt : Nat → Nat → Int) (L : Nat) (ib : Nat → Int) (s : Sx) : (stpP ps bt L ib s).o.length ≤ (if (stpP ps bt L ib s).f = 0 then 1 else 0) := by
  have h : OneO (nextP ps bt L ib s) := by
    unfold nextP
    refine one_ite ?_ (.inl rfl)
    cases dk (fV ps bt s.pc) with
    | none => exact .inl rfl
    | some k => exact do_o _ _ _ _ _ _ _ _ _ _
  rcases h with h | ⟨h1, h2⟩
  · show (nextP ps bt L ib s).o.length ≤ _
    rw [h]
    exact Nat.zero_le _
  · show (nextP ps bt L ib s).o.length ≤ (if (nextP ps bt L ib s).f = 0 then 1 else 0)
    rw [if_pos h1, h2]
    exact Nat.le_refl _
section
variable {N : Nat → Prop} {W : World} {m mem r : Nat} {ps : List Pgd} {bt : Nat → Nat → Int} {s : Sx} {ov iv : Value} {base : Nat} {xs : List Value} {L : Nat} {ib : Nat → Int}
/-- 1 where no fault is told. -/
def ftN (w : World) (m : Nat) : Nat := match w.cell? ⟨m, 36, none⟩ with
  | some (.int _ v) => if v = 0 then 1 else 0
  | _ => 0
theorem ftN_at {w : World} {m : Nat} {v : Int} (h : w.cell? ⟨m, 36, none⟩ = some (.int .i64 v)) : ftN w m = if v = 0 then 1 else 0 := by
  unfold ftN
  rw [h]
theorem ftN_le (w : World) (m : Nat) : ftN w m ≤ 1 := by
  unfold ftN
  split
  · split <;> omega
  · omega
/-- The machine stands so. -/
def At2 (N : Nat → Prop) (W0 : World) (m mem r : Nat) (ps : List Pgd) (iv : Value) (base L : Nat) (ib : Nat → Int) (q : Rn) (w : World) : Prop := (∃ ov, Bd N w m mem r ps q.bt q.s ov iv base q.xs L ib) ∧ FrN N W0 w
set_option maxHeartbeats 2000000 in
set_option maxRecDepth 20000 in
theorem run13_any (n K : Nat) (q0 : Rn) (H : At2 N W m mem r ps iv base L ib q0 W) (h0 : q0.c = 0) (hK : mes n q0 ≤ K) (hn : q0.xs.length + n < 140737488355328) (hn2 : n < 1000000000) : Calls Tryd.prog 13 #[.pointer (some ⟨m, 0, none⟩), .int .i64 n] W fun e w' => e = .returned (.int .i64 (runP ps L ib n K q0).c) ∧ At2 N W m mem r ps iv base L ib (runP ps L ib n K q0) w' := by
  have HH : Hid (At2 N W m mem r ps iv base L ib q0 W) := H
  obtain ⟨R, hR⟩ : ∃ R, runP ps L ib n K q0 = R := ⟨_, rfl⟩
  rw [hR]
  have HI : Hid (∃ k q, q.c = 0 ∧ mes n q ≤ k ∧ runP ps L ib n k q = R ∧ q.xs.length ≤ q0.xs.length + q.c ∧ At2 N W m mem r ps iv base L ib q W) := ⟨K, q0, h0, hK, hR, by omega, H⟩
  clear H HH hR hK h0
  go_enter Tryd.func13, Tryd.ntmps13
  go_wp2_with fail
  go_loopw [5] (fun x wr => ∃ k q, x = .int .i64 (q.c : Int) ∧ q.c ≤ n ∧ mes n q ≤ k ∧ runP ps L ib n k q = R ∧ q.xs.length ≤ q0.xs.length + q.c ∧ At2 N W m mem r ps iv base L ib q wr) (fun x w => 2 * ((n : Int) - intOf x).toNat + ftN w m)
  case atStart =>
    obtain ⟨k, q, e, h⟩ := HI.out
    exact ⟨k, q, by rw [e]; rfl, by omega, h⟩
  case round =>
    obtain ⟨k, q, rfl, hc, hk, hr, hx, ⟨ov, hB⟩, hF⟩ := hrel
    have HB : Hid (Bd N wr m mem r ps q.bt q.s ov iv base q.xs L ib) := hB
    have HF : Hid (FrN N W wr) := hF
    have HR : Hid (runP ps L ib n k q = R) := hr
    have HKk : Hid (mes n q ≤ k) := hk
    have hs := hB.mch.lt
    clear hB hF hr hk HI
    by_cases hlt : (q.c : Int) < (n : Int)
    · cases hov : ovr q.s
      · have HV : Hid (ovr q.s = false) := hov
        have HO : Hid (∀ w, w = wr → Calls Tryd.prog 30 #[.pointer (some ⟨m, 0, none⟩)] w fun e w' => e = .returned (.bool false) ∧ w' = w) := fun w e => by subst e; have t := over30_any HB.out.mch; rw [hov] at t; exact t
        clear hov
        go_wp2_with fail
        refine (HO.out _ rfl).mono ?_
        rintro e w1 ⟨rfl, h1⟩
        subst h1
        have hst := step18_any HB.out (by omega) (ovr_false HV.out).1 (ovr_false HV.out).2
        have HS : Hid (Calls Tryd.prog 18 #[.pointer (some ⟨m, 0, none⟩)] w1 (PoD N w1 m mem r ps q.bt iv base q.xs L ib (stpP ps q.bt L ib q.s))) := hst
        have HL : Hid (mes n (rn1 ps L ib q) < mes n q) := mes_less ⟨by omega, HV.out⟩
        have h36 := HB.out.mch.ft
        rw [(ovr_false HV.out).2] at h36
        obtain ⟨f, hf⟩ : ∃ f, (stpP ps q.bt L ib q.s).f = f := ⟨_, rfl⟩
        have HQ : Hid ((rn1 ps L ib q).c = q.c + (if f = 0 then 1 else 0) ∧ (rn1 ps L ib q).xs.length ≤ q.xs.length + (if f = 0 then 1 else 0)) := by
          refine ⟨by rw [← hf]; rfl, ?_⟩
          have t := stp_o ps q.bt L ib q.s
          rw [hf] at t
          have e : (rn1 ps L ib q).xs = q.xs ++ (stpP ps q.bt L ib q.s).o := rfl
          rw [e, List.length_append]
          omega
        have HN : Hid (∀ j, mes n q ≤ j → ∃ j', mes n (rn1 ps L ib q) ≤ j' ∧ runP ps L ib n j' (rn1 ps L ib q) = runP ps L ib n j q) := fun j hj => by
          have l := HL.out
          match j, hj with
          | 0, hj => omega
          | j + 1, hj => exact ⟨j, by omega, by rw [runP, if_pos ⟨by omega, HV.out⟩]⟩
        unfold PoD at HS
        rw [hf] at HS
        have HE : Hid ((stpP ps q.bt L ib q.s).f = f) := hf
        clear hst hf
        by_cases h0 : f = 0
        · have hb0 : (f == 0) = true := by simpa using h0
          subst h0
          go_wp2_with fail
          refine HS.out.mono ?_
          rintro e w2 ⟨rfl, ov', hB2, hF2⟩
          have HB2 : Hid (∃ ov', Bd N w2 m mem r ps (rn1 ps L ib q).bt (rn1 ps L ib q).s ov' iv base (rn1 ps L ib q).xs L ib) := ⟨ov', hB2⟩
          have HF2 : Hid (FrN N W w2) := HF.out.trans hF2
          clear hB2 hF2 hb0 HS
          go_wp2
          go_roundw
          case rel =>
            obtain ⟨j, j1, j2⟩ := HN.out k HKk.out
            have t1 := HQ.out.1
            have t2 := HQ.out.2
            simp only [if_true] at t1 t2
            exact ⟨j, rn1 ps L ib q, by rw [t1]; go_num, by omega, j1, j2.trans HR.out, by omega, HB2.out, HF2.out⟩
          case measure =>
            have t3 := ftN_at h36
            have t4 := ftN_le w2 m
            simp only [if_true] at t3
            simp only [intOf]
            go_num
        · have hb0 : (f == 0) = false := by simpa using h0
          have HZ : Hid (¬ f = 0) := h0
          clear h0
          go_wp2_with fail
          refine HS.out.mono ?_
          rintro e w2 ⟨rfl, ov', hB2, hF2⟩
          have HB2 : Hid (∃ ov', Bd N w2 m mem r ps (rn1 ps L ib q).bt (rn1 ps L ib q).s ov' iv base (rn1 ps L ib q).xs L ib) := ⟨ov', hB2⟩
          have HF2 : Hid (FrN N W w2) := HF.out.trans hF2
          have h362 : w2.cell? ⟨m, 36, none⟩ = some (.int .i64 f) := by have t := hB2.mch.ft; rw [stp_ft, HE.out] at t; exact t
          have H362 : Hid (w2.cell? ⟨m, 36, none⟩ = some (.int .i64 f)) := h362
          clear hB2 hF2 HS h362
          go_wp2
          go_roundw
          case rel =>
            obtain ⟨j, j1, j2⟩ := HN.out k HKk.out
            have t1 := HQ.out.1
            have t2 := HQ.out.2
            rw [if_neg HZ.out] at t1 t2
            exact ⟨j, rn1 ps L ib q, by rw [t1]; rfl, by omega, j1, j2.trans HR.out, by omega, HB2.out, HF2.out⟩
          case measure =>
            have t3 := ftN_at h36
            have t4 := ftN_at H362.out
            rw [if_neg HZ.out] at t4
            simp only [if_true] at t3
            simp only [intOf]
            omega
      · have HO : Hid (∀ w, w = wr → Calls Tryd.prog 30 #[.pointer (some ⟨m, 0, none⟩)] w fun e w' => e = .returned (.bool true) ∧ w' = w) := fun w e => by subst e; have t := over30_any HB.out.mch; rw [hov] at t; exact t
        have HE : Hid (q = R) := by rw [← HR.out]; exact (runP_stop (fun h => by rw [hov] at h; cases h.2) k).symm
        clear hov
        go_wp2_with fail
        refine (HO.out _ rfl).mono ?_
        rintro e w1 ⟨rfl, h1⟩
        subst h1
        go_wp2
        go_ret
        rw [← HE.out]
        exact ⟨rfl, ⟨ov, HB.out⟩, HF.out⟩
    · have HE : Hid (q = R) := by rw [← HR.out]; exact (runP_stop (fun h => by omega) k).symm
      go_wp2
      go_ret
      rw [← HE.out]
      exact ⟨rfl, ⟨ov, HB.out⟩, HF.out⟩
end
end
section
open Go.RowKit Go.Shelf
def Sml (bt : Nat → Nat → Int) : Prop := ∀ g j, 0 ≤ bt g j ∧ bt g j < 256
/-- A state that is right behind an instruction, and a store that can be. -/
def OkD (d : Do) : Prop := Okx d.s ∧ ∀ a n v, d.wr = some (a, n, v) → 0 ≤ a ∧ n.toNat ≤ 8 ∧ 0 ≤ v
theorem okd_ite {c : Prop} [Decidable c] {x y : Do} (hx : OkD x) (hy : OkD y) : OkD (if c then x else y) := by
  by_cases h : c
  · rw [if_pos h]; exact hx
  · rw [if_neg h]; exact hy
theorem okd_none {f : Int} {s : Sx} {o : List Value} (h : Okx s) : OkD ⟨f, s, o, none⟩ := ⟨h, fun _ _ _ e => by cases e⟩
theorem wid_le (op : Int) : (wid op).toNat ≤ 8 := by
  obtain ⟨n, e, h⟩ := wid_n op
  unfold isN at h
  omega
theorem okd_do {ld : Int → Int → Int × Int} {se : Int → Int → Int} {L : Nat} {ib : Nat → Int} {s : Sx} (op im : Int) (rd r1 r2 : Nat) (h : Okx s) (hl : ∀ a n, U64 (ld a n).1) (hi : ∀ j, 0 ≤ ib j ∧ ib j < 256) (hL : (L : Int) ≤ 9223372036854775807) : OkD (doP ld se L ib s op im rd r1 r2) := by
  have hv : U64 (rdV L ib s.inn) := by
    unfold rdV
    split
    · exact u_max
    · have := hi s.inn.toNat; exact ⟨this.1, by omega⟩
  have hin : 0 ≤ rdI L s.inn := by
    unfold rdI
    have := h.inn
    split
    · exact this
    · unfold wrap64; omega
  unfold doP ecP
  refine okd_ite (okd_none (h.nxt (u_wrap _) (u_pc4 s))) ?_
  refine okd_ite (okd_none (h.nxt (u_wrap _) (u_pc4 s))) ?_
  refine okd_ite (okd_none (h.nxt (u_pc4 s) (u_wrap _))) ?_
  refine okd_ite (okd_none (h.nxt (u_pc4 s) (u_bits _ _ _))) ?_
  refine okd_ite (okd_none (h.nxt u_zero (u_ite (u_wrap _) (u_pc4 s)))) ?_
  refine okd_ite (okd_ite (okd_none (h.nxt (u_lsx (hl _ _)) (u_pc4 s))) (okd_none h)) ?_
  refine okd_ite (okd_ite ⟨h.nxt u_zero (u_pc4 s), fun a n v e => by cases e; exact ⟨(u_adr s r1 im).1, wid_le op, (h.x r2).1⟩⟩ (okd_none h)) ?_
  refine okd_ite (okd_none (h.nxt (u_Fv (h.x r1) (u_ite (u_wrap _) (h.x r2))) (u_pc4 s))) ?_
  refine okd_ite (okd_none (h.nxt u_zero (u_pc4 s))) ?_
  refine okd_ite (okd_ite ?_ (okd_ite (okd_none (h.nxt u_zero (u_pc4 s))) (okd_ite ?_ (okd_none h)))) (okd_none h)
  · exact okd_none (Okx.nxt (s := { s with inn := rdI L s.inn, x := upd s.x 10 (rdV L ib s.inn) }) ⟨u_upd h.x hv 10, h.pc, hin⟩ u_zero (u_pc4 s))
  · exact okd_none (Okx.nxt (s := { s with h := true, code := s.x 10 % 256 }) ⟨h.x, h.pc, h.inn⟩ u_zero (u_pc4 s))
theorem okd_next {ps : List Pgd} {bt : Nat → Nat → Int} {L : Nat} {ib : Nat → Int} {s : Sx} (h : Okx s) (hb : Sml bt) (hi : ∀ j, 0 ≤ ib j ∧ ib j < 256) (hL : (L : Int) ≤ 9223372036854775807) : OkD (nextP ps bt L ib s) := by
  unfold nextP
  refine okd_ite ?_ (okd_none h)
  cases dk (fV ps bt s.pc) with
  | none => exact okd_none h
  | some k => exact okd_do _ _ _ _ _ h (fun a n => u_lV hb a n) hi hL
theorem okd_stp {ps : List Pgd} {bt : Nat → Nat → Int} {L : Nat} {ib : Nat → Int} {s : Sx} (h : Okx s) (hb : Sml bt) (hi : ∀ j, 0 ≤ ib j ∧ ib j < 256) (hL : (L : Int) ≤ 9223372036854775807) : OkD (stpP ps bt L ib s) := by
  have t := okd_next (ps := ps) h hb hi hL
  exact ⟨⟨t.1.x, t.1.pc, t.1.inn⟩, t.2⟩
theorem sml_set {bt : Nat → Nat → Int} (h : Sml bt) (g j : Nat) {y : Int} (hy : 0 ≤ y ∧ y < 256) : Sml (setB bt g j y) := fun g' j' => by
  unfold setB
  split
  · exact hy
  · exact h g' j'
theorem sml_wr : ∀ (l : List (Nat × Nat)) (bt : Nat → Nat → Int) (v : Int), Sml bt → Sml (wrL bt v l).1
  | [], _, _, h => h
  | p :: l, bt, v, h => sml_wr l _ _ (sml_set h p.1 p.2 ⟨by omega, by omega⟩)
theorem sml_btN {ps : List Pgd} {bt : Nat → Nat → Int} (h : Sml bt) (wr : Option (Int × Int × Int)) : Sml (btN ps bt wr) := by
  cases wr with
  | none => exact h
  | some q =>
    show Sml (stB ps bt q.1 q.2.1.toNat q.2.2)
    unfold stB
    split
    · exact sml_wr _ _ _ h
    · exact h
section
variable {ps qs : List Pgd} {L : Nat} {ib : Nat → Int}
/-- Two memories alike. -/
structure Mem2 (ps qs : List Pgd) : Prop where
  al : Alike ps qs
  ap : ∀ x ∈ ps, ∀ y ∈ ps, x.g = y.g → x = y
  aq : ∀ x ∈ qs, ∀ y ∈ qs, x.g = y.g → x = y
def Same2 (ps qs : List Pgd) (bt ct : Nat → Nat → Int) : Prop := ∀ p, pg ps (bs p) ≠ none → byt ps bt p = byt qs ct p
theorem byts_same {bt ct : Nat → Nat → Int} (h : Same2 ps qs bt ct) {a perm : Int} {n : Nat} (a0 : 0 ≤ a) (n1 : n ≤ 8) (hu : useE ps a n perm = 0) : byts ps bt a n = byts qs ct a n := by
  unfold byts
  exact List.map_congr_left fun j hj => h _ (use_all a0 n1 hu j (List.mem_range.1 hj))
theorem fE_same (M : Mem2 ps qs) (a : Int) : fE ps a = fE qs a := by unfold fE; rw [use_alike M.al]
theorem fV_same (M : Mem2 ps qs) {bt ct : Nat → Nat → Int} (h : Same2 ps qs bt ct) {a : Int} (a0 : 0 ≤ a) : fV ps bt a = fV qs ct a := by
  unfold fV
  rw [← fE_same M]
  by_cases e : fE ps a = 0
  · rw [if_pos e, if_pos e]
    have hu : useE ps a 4 1 = 0 := by
      unfold fE at e
      split at e
      · split at e
        · cases e
        · exact e
      · cases e
    rw [byts_same h (n := 4) (perm := 1) a0 (by omega) hu]
  · rw [if_neg e, if_neg e]
theorem lE_same (M : Mem2 ps qs) (a n : Int) : lE ps a n = lE qs a n := by unfold lE; rw [use_alike M.al]
theorem ld_same (M : Mem2 ps qs) {bt ct : Nat → Nat → Int} (h : Same2 ps qs bt ct) {a : Int} (a0 : 0 ≤ a) (n : Int) : ldP ps bt a n = ldP qs ct a n := by
  unfold ldP lV
  rw [← lE_same M]
  by_cases e : lE ps a n = 0
  · rw [if_pos e, if_pos e]
    obtain ⟨k, rfl, hk, hu⟩ : ∃ k : Nat, n = k ∧ k ≤ 8 ∧ useE ps a k 4 = 0 := by
      unfold lE at e
      split at e
      · rename_i hn
        split at e
        · cases e
        · refine ⟨n.toNat, by omega, by omega, ?_⟩
          rw [show ((n.toNat : Nat) : Int) = n by omega]
          exact e
      · cases e
    rw [Int.toNat_natCast, byts_same h a0 hk hu]
  · rw [if_neg e, if_neg e]
theorem se_same (M : Mem2 ps qs) (a n : Int) : seP ps a n = seP qs a n := by unfold seP; rw [use_alike M.al]
theorem do_same {ld ld' : Int → Int → Int × Int} {se se' : Int → Int → Int} (h1 : ∀ a n, 0 ≤ a → ld a n = ld' a n) (h2 : ∀ a n, se a n = se' a n) (s : Sx) (op im : Int) (rd r1 r2 : Nat) : doP ld se L ib s op im rd r1 r2 = doP ld' se' L ib s op im rd r1 r2 := by
  unfold doP
  rw [h1 _ _ (u_adr s r1 im).1, h2]
theorem next_same (M : Mem2 ps qs) {bt ct : Nat → Nat → Int} (h : Same2 ps qs bt ct) {s : Sx} (hs : Okx s) : nextP ps bt L ib s = nextP qs ct L ib s := by
  unfold nextP
  rw [← fE_same M, ← fV_same M h hs.pc.1]
  by_cases e : fE ps s.pc = 0
  · rw [if_pos e, if_pos e]
    cases dk (fV ps bt s.pc) with
    | none => rfl
    | some k => exact do_same (fun a n a0 => ld_same M h a0 n) (fun a n => se_same M a n) _ _ _ _ _ _
  · rw [if_neg e, if_neg e]
theorem stp_same (M : Mem2 ps qs) {bt ct : Nat → Nat → Int} (h : Same2 ps qs bt ct) {s : Sx} (hs : Okx s) : stpP ps bt L ib s = stpP qs ct L ib s := by
  unfold stpP
  rw [next_same M h hs]
theorem st_same (M : Mem2 ps qs) {bt ct : Nat → Nat → Int} (h : Same2 ps qs bt ct) {a v : Int} {n : Nat} (a0 : 0 ≤ a) (n1 : n ≤ 8) (v0 : 0 ≤ v) : Same2 ps qs (stB ps bt a n v) (stB qs ct a n v) := fun p hp => by
  have hq : pg qs (bs p) ≠ none := fun e => by
    cases e2 : pg ps (bs p) with
    | none => exact hp e2
    | some x => obtain ⟨y, hy, _⟩ := (M.al (bs p)).1 x e2; rw [e] at hy; cases hy
  rw [byt_st M.ap bt a v n a0 n1 v0 p hp, byt_st M.aq ct a v n a0 n1 v0 p hq, use_alike M.al, h p hp]
/-- Two machines alike. -/
structure Alk (ps qs : List Pgd) (q q' : Rn) : Prop where
  s : q.s = q'.s
  xs : q.xs = q'.xs
  c : q.c = q'.c
  b : Same2 ps qs q.bt q'.bt
  ok : Okx q.s
  b1 : Sml q.bt
  b2 : Sml q'.bt
theorem alk_one (M : Mem2 ps qs) (hi : ∀ j, 0 ≤ ib j ∧ ib j < 256) (hL : (L : Int) ≤ 9223372036854775807) {q q' : Rn} (h : Alk ps qs q q') : Alk ps qs (rn1 ps L ib q) (rn1 qs L ib q') := by
  have e : stpP qs q'.bt L ib q'.s = stpP ps q.bt L ib q.s := by rw [← h.s]; exact (stp_same M h.b h.ok).symm
  have o := okd_stp (ps := ps) h.ok h.b1 hi hL
  unfold rn1
  rw [e]
  refine ⟨rfl, by rw [h.xs], by rw [h.c], ?_, o.1, sml_btN h.b1 _, sml_btN h.b2 _⟩
  show Same2 ps qs (btN ps q.bt (stpP ps q.bt L ib q.s).wr) (btN qs q'.bt (stpP ps q.bt L ib q.s).wr)
  cases hw : (stpP ps q.bt L ib q.s).wr with
  | none => exact h.b
  | some w =>
    obtain ⟨a, n, v⟩ := w
    obtain ⟨a0, n1, v0⟩ := o.2 a n v hw
    exact st_same M h.b a0 n1 v0
theorem alk_run (M : Mem2 ps qs) (hi : ∀ j, 0 ≤ ib j ∧ ib j < 256) (hL : (L : Int) ≤ 9223372036854775807) (n : Nat) : ∀ (k : Nat) {q q' : Rn}, Alk ps qs q q' → Alk ps qs (runP ps L ib n k q) (runP qs L ib n k q')
  | 0, _, _, h => h
  | k + 1, q, q', h => by
    rw [runP, runP]
    by_cases e : q.c < n ∧ ovr q.s = false
    · rw [if_pos e, if_pos (by rw [← h.c, ← h.s]; exact e)]
      exact alk_run M hi hL n k (alk_one M hi hL h)
    · rw [if_neg e, if_neg (by rw [← h.c, ← h.s]; exact e)]
      exact h
/-- Counted from 0 on. -/
def rst (q : Rn) : Rn := ⟨q.s, q.bt, q.xs, 0⟩
/-- Counted from another number on. -/
def addC (q : Rn) (c : Nat) : Rn := { q with c := q.c + c }
theorem addC_one (q : Rn) (c : Nat) : rn1 ps L ib (addC q c) = addC (rn1 ps L ib q) c := by
  unfold rn1 addC
  simp only [Rn.mk.injEq, true_and]
  omega
theorem run_add (n c : Nat) : ∀ (k : Nat) (q : Rn), runP ps L ib (n + c) k (addC q c) = addC (runP ps L ib n k q) c
  | 0, _ => rfl
  | k + 1, q => by
    rw [runP, runP]
    have e : ((addC q c).c < n + c ∧ ovr (addC q c).s = false) ↔ (q.c < n ∧ ovr q.s = false) := by
      show (q.c + c < n + c ∧ ovr q.s = false) ↔ _
      exact ⟨fun g => ⟨by omega, g.2⟩, fun g => ⟨by omega, g.2⟩⟩
    by_cases h : q.c < n ∧ ovr q.s = false
    · rw [if_pos (e.2 h), if_pos h, addC_one]
      exact run_add n c k _
    · rw [if_neg (fun g => h (e.1 g)), if_neg h]
/-- Enough rounds are enough. -/
theorem run_enough (n : Nat) : ∀ (k j : Nat) (q : Rn), mes n q ≤ k → runP ps L ib n (k + j) q = runP ps L ib n k q
  | 0, j, q, h => by
    have hs : ¬ (q.c < n ∧ ovr q.s = false) := fun g => by unfold mes at h; omega
    rw [runP_stop hs, runP_stop hs]
  | k + 1, j, q, h => by
    rw [show k + 1 + j = (k + j) + 1 by omega, runP, runP]
    by_cases g : q.c < n ∧ ovr q.s = false
    · rw [if_pos g, if_pos g]
      exact run_enough n k j _ (by have := mes_less (ps := ps) (L := L) (ib := ib) g; omega)
    · rw [if_neg g, if_neg g]
/-- A run, and then another: the first stops where it must, the second goes on. -/
theorem run_cut (n m : Nat) : ∀ (k : Nat) (q : Rn), mes n q ≤ k → ∀ K, mes (n + m) q ≤ K → ∃ K', mes (n + m) (runP ps L ib n k q) ≤ K' ∧ runP ps L ib (n + m) K' (runP ps L ib n k q) = runP ps L ib (n + m) K q
  | 0, _, _, K, hK => ⟨K, hK, rfl⟩
  | k + 1, q, h, K, hK => by
    rw [runP]
    by_cases g : q.c < n ∧ ovr q.s = false
    · rw [if_pos g]
      have l1 := mes_less (ps := ps) (L := L) (ib := ib) g
      have l2 := mes_less (ps := ps) (L := L) (ib := ib) (n := n + m) (q := q) ⟨by omega, g.2⟩
      match K, hK with
      | 0, hK => omega
      | K + 1, hK =>
        obtain ⟨K', a, b⟩ := run_cut n m k (rn1 ps L ib q) (by omega) K (by omega)
        refine ⟨K', a, b.trans ?_⟩
        rw [runP, if_pos ⟨by omega, g.2⟩]
    · rw [if_neg g]
      exact ⟨K, hK, rfl⟩
/-- At its end a run is over, or has done as many steps as it may. -/
theorem run_end (n : Nat) : ∀ (k : Nat) (q : Rn), mes n q ≤ k → ¬ ((runP ps L ib n k q).c < n ∧ ovr (runP ps L ib n k q).s = false)
  | 0, q, h => fun g => by have g : q.c < n ∧ _ := g; unfold mes at h; omega
  | k + 1, q, h => by
    rw [runP]
    by_cases g : q.c < n ∧ ovr q.s = false
    · rw [if_pos g]
      exact run_end n k _ (by have := mes_less (ps := ps) (L := L) (ib := ib) g; omega)
    · rw [if_neg g]
      exact g
theorem run_le (n : Nat) : ∀ (k : Nat) (q : Rn), q.c ≤ n → (runP ps L ib n k q).c ≤ n
  | 0, _, h => h
  | k + 1, q, h => by
    rw [runP]
    by_cases g : q.c < n ∧ ovr q.s = false
    · rw [if_pos g]
      refine run_le n k _ ?_
      show q.c + (if (stpP ps q.bt L ib q.s).f = 0 then 1 else 0) ≤ n
      have := g.1
      split <;> omega
    · rw [if_neg g]
      exact h
/-- Running for n steps, and then for m, is running for n and m. -/
theorem run_parts (n m K1 K2 K : Nat) (q : Rn) (hc : q.c = 0) (h1 : mes n q ≤ K1) (h2 : mes m (rst (runP ps L ib n K1 q)) ≤ K2) (h : mes (n + m) q ≤ K) : runP ps L ib (n + m) K q = addC (runP ps L ib m K2 (rst (runP ps L ib n K1 q))) (runP ps L ib n K1 q).c := by
  obtain ⟨K', a, b⟩ := run_cut (ps := ps) (L := L) (ib := ib) n m K1 q h1 K h
  rw [← b]
  have he := run_end (ps := ps) (L := L) (ib := ib) n K1 q h1
  have hl := run_le (ps := ps) (L := L) (ib := ib) n K1 q (by omega)
  generalize runP ps L ib n K1 q = q1 at *
  by_cases ho : ovr q1.s = false
  · have e : q1.c = n := by have : ¬ q1.c < n := fun g => he ⟨g, ho⟩; omega
    have e2 : q1 = addC (rst q1) q1.c := by unfold addC rst; simp
    have t := run_add (ps := ps) (L := L) (ib := ib) m q1.c K' (rst q1)
    rw [← e2, e, show m + n = n + m by omega] at t
    rw [t, e]
    have u := run_enough (ps := ps) (L := L) (ib := ib) m K2 K' (rst q1) h2
    have u2 := run_enough (ps := ps) (L := L) (ib := ib) m K' K2 (rst q1) (by have a2 : 2 * (n + m - q1.c) + (if q1.s.ft = 0 then 1 else 0) ≤ K' := a; show 2 * (m - 0) + (if q1.s.ft = 0 then 1 else 0) ≤ K'; omega)
    rw [show K' + K2 = K2 + K' by omega] at u2
    rw [← u2, u]
  · rw [runP_stop (q := q1) (fun g => ho g.2), runP_stop (q := rst q1) (fun g => ho g.2)]
    unfold addC rst
    simp
end
end
end Go.Proofs.YtnmpbihpoefeoaaDoor
