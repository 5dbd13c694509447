/- Any function, looked at. Any program, looked at: its functions, as they lie. Any program, looked at. Any program: what the door answers. -/
import Derived.Test.YtdppoblbenbafaaGreatDoorYAK
import Derived.Test.YtdppoblbenbafaaGreatDoorYAB
import Derived.Test.YtdppoblbenbafaaGreatDoorYAD
namespace Go.Proofs.YtdppoblbenbafaaGreatDoor
section
open Go.RowKit Go.Shelf
set_option maxRecDepth 20000
set_option maxHeartbeats 8000000
/-- A block: where its instructions lie, how many fit there, which they are. -/
structure Blk where
  xo : Option Addr
  xc : Nat
  l : List Ins
/-- Blocks, as they lie. -/
def BlkA (W : World) (ba : Option Addr) (bc : Nat) (l : List Blk) : Prop := l.length ≤ bc ∧ bc ≤ 9223372036854775807 ∧ (∀ b ∈ l, InsA W b.xo b.xc b.l) ∧ (0 < l.length → ∃ g o, ba = some ⟨g, o, none⟩ ∧ ∀ (j : Nat) (b : Blk), l[j]? = some b → W.cell? ⟨g, o + j, none⟩ = some (.slice b.xo b.l.length b.xc))
theorem BlkA.below {W W' : World} {ba : Option Addr} {bc : Nat} {l : List Blk} (h : BlkA W ba bc l) (hb : Below W.heap.size W W') : BlkA W' ba bc l := by
  refine ⟨h.1, h.2.1, fun b hm => (h.2.2.1 b hm).below hb, fun hl => ?_⟩
  obtain ⟨g, o, e, hc⟩ := h.2.2.2 hl
  exact ⟨g, o, e, fun j b hj => by rw [hb.cell (p := ⟨g, o + j, none⟩) (World.block_lt_of_cell? _ _ (hc j b hj))]; exact hc j b hj⟩
def blsB (f : Fnh) (fd : ByteArray → Option (Option Int)) (l : List Blk) : Bool := l.all fun b => blkB f fd b.l
/-- Is a function right? -/
def fnB (f : Fnh) (fd : ByteArray → Option (Option Int)) (l : List Blk) : Bool := nmB f.nm.data.toList && (witB f.pa 0 7 && (witB f.rg f.pa 4096 && (witB f.fr 0 4096 && (witB f.bl 1 1024 && blsB f fd l))))
theorem blsB_at (f : Fnh) (fd : ByteArray → Option (Option Int)) {l : List Blk} {j : Nat} {b : Blk} (h : l[j]? = some b) : blsB f fd (l.drop j) = (blkB f fd b.l && blsB f fd (l.drop (j + 1))) := by
  obtain ⟨hj, e⟩ := List.getElem?_eq_some_iff.1 h
  rw [List.drop_eq_getElem_cons hj, e]
  rfl
theorem function38g (f : Fnh) (m : Nat) (po : Option Nat) (fd : ByteArray → Option (Option Int)) (l : List Blk) (w : World) (hl : f.bl = l.length) (hs : f.nm.size ≤ maxLen) (hT : Tfa w) (hI : BlkA w f.ba f.bc l) (hm : w.heap[m]? = some (.map oes 14)) (hp : ∀ b ∈ l, ∀ i ∈ b.l, PmA w (.map po) i.nm (fd i.nm)) : Calls Tryz.prog 24 #[.agg #[.map (some m), .map po], fnhV f] w fun e w' => e = .returned (.bool (fnB f fd l)) ∧ G w w' := by
  have HT : Hid (Tfa w) := hT
  have HI : Hid (BlkA w f.ba f.bc l) := hI
  have HM : Hid (w.heap[m]? = some (.map oes 14)) := hm
  have HP : Hid (∀ b ∈ l, ∀ i ∈ b.l, PmA w (.map po) i.nm (fd i.nm)) := hp
  have HN : Hid (f.bl = l.length) := hl
  have hxc : f.bl ≤ f.bc := by have := hI.1; omega
  have hxc2 := hI.2.1
  have HV : Hid (fnB f fd l = (nmB f.nm.data.toList && (witB f.pa 0 7 && (witB f.rg f.pa 4096 && (witB f.fr 0 4096 && (witB f.bl 1 1024 && blsB f fd l)))))) := rfl
  clear hT hI hm hp hl
  have h46 := fun W => nameRight46 f.nm W hs
  have w1 := within47 f.pa 0 7
  have w2 := within47 f.rg f.pa 4096
  have w3 := within47 f.fr 0 4096
  have w4 := within47 f.bl 1 1024
  clear hs
  generalize fnB f fd l = R at *
  unfold fnhV
  generalize nmB f.nm.data.toList = X0 at *
  generalize witB f.pa 0 7 = X1 at *
  generalize witB f.rg f.pa 4096 = X2 at *
  generalize witB f.fr 0 4096 = X3 at *
  cases X0 with
  | false =>
    have HE : Hid (false = R) := by show _ = _; rw [HV.out]; rfl
    go_enter Tryz.func24, Tryz.ntmps24
    go_wp2_with (first | (go_at_call 59; refine (h46 _).mono ?_; rintro e w' ⟨rfl, rfl⟩) | (go_at_call 60; (first | (with_reducible refine (w1 _).mono ?_) | (with_reducible refine (w2 _).mono ?_) | (with_reducible refine (w3 _).mono ?_) | (with_reducible refine (w4 _).mono ?_)); rintro e w' ⟨rfl, rfl⟩))
    go_ret
    exact ⟨ret_bool HE.out, ((G.refl _).alloc _).alloc _⟩
  | true =>
    cases X1 with
    | false =>
      have HE : Hid (false = R) := by show _ = _; rw [HV.out]; rfl
      go_enter Tryz.func24, Tryz.ntmps24
      go_wp2_with (first | (go_at_call 59; refine (h46 _).mono ?_; rintro e w' ⟨rfl, rfl⟩) | (go_at_call 60; (first | (with_reducible refine (w1 _).mono ?_) | (with_reducible refine (w2 _).mono ?_) | (with_reducible refine (w3 _).mono ?_) | (with_reducible refine (w4 _).mono ?_)); rintro e w' ⟨rfl, rfl⟩))
      go_ret
      exact ⟨ret_bool HE.out, ((G.refl _).alloc _).alloc _⟩
    | true =>
      cases X2 with
      | false =>
        have HE : Hid (false = R) := by show _ = _; rw [HV.out]; rfl
        go_enter Tryz.func24, Tryz.ntmps24
        go_wp2_with (first | (go_at_call 59; refine (h46 _).mono ?_; rintro e w' ⟨rfl, rfl⟩) | (go_at_call 60; (first | (with_reducible refine (w1 _).mono ?_) | (with_reducible refine (w2 _).mono ?_) | (with_reducible refine (w3 _).mono ?_) | (with_reducible refine (w4 _).mono ?_)); rintro e w' ⟨rfl, rfl⟩))
        go_ret
        exact ⟨ret_bool HE.out, ((G.refl _).alloc _).alloc _⟩
      | true =>
        cases X3 with
        | false =>
          have HE : Hid (false = R) := by show _ = _; rw [HV.out]; rfl
          go_enter Tryz.func24, Tryz.ntmps24
          go_wp2_with (first | (go_at_call 59; refine (h46 _).mono ?_; rintro e w' ⟨rfl, rfl⟩) | (go_at_call 60; (first | (with_reducible refine (w1 _).mono ?_) | (with_reducible refine (w2 _).mono ?_) | (with_reducible refine (w3 _).mono ?_) | (with_reducible refine (w4 _).mono ?_)); rintro e w' ⟨rfl, rfl⟩))
          go_ret
          exact ⟨ret_bool HE.out, ((G.refl _).alloc _).alloc _⟩
        | true =>
          cases hw : witB f.bl 1 1024 with
          | false =>
            rw [hw] at w4
            have HE : Hid (false = R) := by show _ = _; rw [HV.out, hw]; rfl
            clear hw
            go_enter Tryz.func24, Tryz.ntmps24
            go_wp2_with (first | (go_at_call 59; refine (h46 _).mono ?_; rintro e w' ⟨rfl, rfl⟩) | (go_at_call 60; (first | (with_reducible refine (w1 _).mono ?_) | (with_reducible refine (w2 _).mono ?_) | (with_reducible refine (w3 _).mono ?_) | (with_reducible refine (w4 _).mono ?_)); rintro e w' ⟨rfl, rfl⟩))
            go_ret
            exact ⟨ret_bool HE.out, ((G.refl _).alloc _).alloc _⟩
          | true =>
            rw [hw] at w4
            have HE : Hid (R = blsB f fd l) := by show _ = _; rw [HV.out, hw]; rfl
            have hn1 : 1 ≤ f.bl ∧ f.bl ≤ 1024 := by unfold witB at hw; simp at hw; omega
            obtain ⟨hn1, hn2⟩ := hn1
            clear hw HV
            have HW : Hid (∃ W, W = (w.alloc (.cells #[.map (some m), .map po] 60)).alloc (.cells #[.string f.nm, .int .i64 f.pa, .int .i64 f.rg, .int .i64 f.fr, .slice f.ba f.bl f.bc] 27) ∧ G w W ∧ w.heap.size + 1 < W.heap.size ∧ W.cell? ⟨w.heap.size, 0, none⟩ = some (.map (some m)) ∧ W.cell? ⟨w.heap.size, 1, none⟩ = some (.map po) ∧ W.cell? ⟨w.heap.size + 1, 0, none⟩ = some (.string f.nm) ∧ W.cell? ⟨w.heap.size + 1, 1, none⟩ = some (.int .i64 f.pa) ∧ W.cell? ⟨w.heap.size + 1, 2, none⟩ = some (.int .i64 f.rg) ∧ W.cell? ⟨w.heap.size + 1, 3, none⟩ = some (.int .i64 f.fr) ∧ W.cell? ⟨w.heap.size + 1, 4, none⟩ = some (.slice f.ba f.bl f.bc)) := ⟨_, rfl, ((G.refl _).alloc _).alloc _, by simp, by go_simp, by go_simp, by go_simp, by go_simp, by go_simp, by go_simp, by go_simp⟩
            go_enter Tryz.func24, Tryz.ntmps24
            go_wp2_with (first | (go_at_call 59; refine (h46 _).mono ?_; rintro e w' ⟨rfl, rfl⟩) | (go_at_call 60; (first | (with_reducible refine (w1 _).mono ?_) | (with_reducible refine (w2 _).mono ?_) | (with_reducible refine (w3 _).mono ?_) | (with_reducible refine (w4 _).mono ?_)); rintro e w' ⟨rfl, rfl⟩))
            obtain ⟨W, hWe, hG, hWl, c0, c1, c2, c3, c4, c5, c6⟩ := HW.out
            rw [← hWe]
            have HG : Hid (G w W) := hG
            clear hWe hG HW h46 w1 w2 w3 w4
            go_loopw [41] (fun v wx => ∃ j : Nat, j ≤ f.bl ∧ v = .int .i64 j ∧ G W wx ∧ R = blsB f fd (l.drop j)) (fun v _ => f.bl - (intOf v).toNat)
            case atStart => exact ⟨0, Nat.zero_le _, rfl, G.refl _, HE.out⟩
            case round =>
              obtain ⟨j, hj, rfl, hGx, hRu⟩ := hrel
              have HX : Hid (G W wr) := hGx
              have HRu : Hid (R = blsB f fd (l.drop j)) := hRu
              have HB := hGx.below
              have HBw : Hid (Below w.heap.size w wr) := (HG.out.trans hGx).below
              obtain ⟨kc, kf⟩ := bcell HB
              replace c0 := (kc _ _ (by omega)).trans c0
              replace c1 := (kc _ _ (by omega)).trans c1
              replace c2 := (kc _ _ (by omega)).trans c2
              replace c3 := (kc _ _ (by omega)).trans c3
              replace c4 := (kc _ _ (by omega)).trans c4
              replace c5 := (kc _ _ (by omega)).trans c5
              replace c6 := (kc _ _ (by omega)).trans c6
              have hwl : w.heap.size + 1 < wr.heap.size := Nat.lt_of_lt_of_le hWl HB.size
              clear kc kf HB hGx hWl hRu HE
              have f0 := acell (by omega) c0
              have f1 := acell (by omega) c1
              have f2 := acell (by omega) c2
              have f3 := acell (by omega) c3
              have f4 := acell (by omega) c4
              have f5 := acell (by omega) c5
              have f6 := acell (by omega) c6
              by_cases hlt : j < f.bl
              · obtain ⟨b, hi⟩ : ∃ b, l[j]? = some b := ⟨_, List.getElem?_eq_getElem (by have := HN.out; omega)⟩
                have hIw := HI.out.below HBw.out
                obtain ⟨g, oo, hxo, hcc⟩ := hIw.2.2.2 (by have := HN.out; omega)
                have d0 := hcc j b hi
                have hmem : b ∈ l := List.mem_of_getElem? hi
                have HU : Hid (blsB f fd (l.drop j) = (blkB f fd b.l && blsB f fd (l.drop (j + 1)))) := blsB_at f fd hi
                have hC : Hid (∀ W', G wr W' → Calls Tryz.prog 61 #[.agg #[.map (some m), .map po], .agg #[.string f.nm, .int .i64 f.pa, .int .i64 f.rg, .int .i64 f.fr, .slice f.ba f.bl f.bc], .agg #[.slice b.xo b.l.length b.xc]] W' fun e w' => e = .returned (.bool (blkB f fd b.l)) ∧ G W' w') := fun W' hW' => by
                  have hb := HBw.out.trans (hW'.below.mono HBw.out.size)
                  exact block48g f m po fd b.l b.xo b.xc W' (HT.out.below hb) ((HI.out.below hb).2.2.1 b hmem) (by rw [hb.block m (Array.getElem?_eq_some_iff.1 HM.out).1]; exact HM.out) (fun i hi => (HP.out b hmem i hi).g hb)
                generalize b.l.length = al at *
                clear hIw hcc hi hmem
                rw [hxo] at c6 f6 hC
                simp only [hxo]
                generalize blkB f fd b.l = IB at *
                cases IB with
                | false =>
                  have HE : Hid (false = R) := by show _ = _; rw [HRu.out, HU.out]; rfl
                  go_wp2_with (first | (go_at_call 61; refine (hC.out _ ((G.refl _).alloc _)).mono ?_; rintro e w' ⟨rfl, hg⟩))
                  go_ret
                  exact ⟨ret_bool HE.out, ((HG.out.trans HX.out).alloc _).trans hg⟩
                | true =>
                  have HE : Hid (R = blsB f fd (l.drop (j + 1))) := by show _ = _; rw [HRu.out, HU.out]; rfl
                  go_wp2_with (first | (go_at_call 61; refine (hC.out _ ((G.refl _).alloc _)).mono ?_; rintro e w' ⟨rfl, hg⟩))
                  go_round
                  case rel => exact ⟨j + 1, by omega, by go_num, (HX.out.alloc _).trans hg, HE.out⟩
                  case measure => simp [intOf]; omega
              · obtain rfl : j = f.bl := by omega
                have HE : Hid (true = R) := by show _ = _; rw [HRu.out, List.drop_eq_nil_of_le (by have := HN.out; omega)]; rfl
                go_wp2
                go_ret
                exact ⟨ret_bool HE.out, HG.out.trans HX.out⟩
end
section
open Go.RowKit Go.Shelf
/-- A function, with its blocks. -/
structure Fun where
  h : Fnh
  bs : List Blk
def fnC (f : Fnh) : List Value := [.string f.nm, .int .i64 f.pa, .int .i64 f.rg, .int .i64 f.fr, .slice f.ba f.bl f.bc]
/-- Functions, as they lie. -/
def FunA (W : World) (p : Option Addr) (pc : Nat) (l : List Fun) : Prop := l.length ≤ pc ∧ pc ≤ 9223372036854775807 ∧ (∀ x ∈ l, x.h.bl = x.bs.length ∧ x.h.nm.size ≤ maxLen ∧ BlkA W x.h.ba x.h.bc x.bs) ∧ (0 < l.length → ∃ g o, p = some ⟨g, o, none⟩ ∧ ∀ (j : Nat) (x : Fun), l[j]? = some x → ∀ (t : Nat) (v : Value), (fnC x.h)[t]? = some v → W.cell? ⟨g, o + j * 5 + t, none⟩ = some v)
theorem FunA.below {W W' : World} {p : Option Addr} {pc : Nat} {l : List Fun} (h : FunA W p pc l) (hb : Below W.heap.size W W') : FunA W' p pc l := by
  refine ⟨h.1, h.2.1, fun x hm => ⟨(h.2.2.1 x hm).1, (h.2.2.1 x hm).2.1, (h.2.2.1 x hm).2.2.below hb⟩, fun hl => ?_⟩
  obtain ⟨g, o, e, hc⟩ := h.2.2.2 hl
  exact ⟨g, o, e, fun j i hj t v ht => by rw [hb.cell (p := ⟨g, o + j * 5 + t, none⟩) (World.block_lt_of_cell? _ _ (hc j i hj t v ht))]; exact hc j i hj t v ht⟩
def entsF : Nat → List Fun → List MapEntry
  | _, [] => []
  | n, x :: r => { key := .string x.h.nm, val := .int .i64 x.h.pa, born := n } :: entsF (n + 1) r
theorem entsF_snoc (x : Fun) : ∀ (ps : List Fun) (n : Nat), entsF n (ps ++ [x]) = entsF n ps ++ [{ key := .string x.h.nm, val := .int .i64 x.h.pa, born := n + ps.length }]
  | [], n => by simp [entsF]
  | y :: r, n => by
    simp only [List.cons_append, entsF, entsF_snoc x r (n + 1), List.length_cons]
    rw [show n + 1 + r.length = n + (r.length + 1) by omega]
/-- The function with a name. -/
def fnOf (l : List Fun) (s : ByteArray) : Option Fun := l.find? (fun y => decide (y.h.nm = s))
theorem fnOf_none (s : ByteArray) : ∀ (ps : List Fun), fnOf ps s = none → ∀ n i, Instr.findNow .string (.string s) (entsF n ps) i = some none
  | [], _, _, _ => rfl
  | y :: r, h, n, i => by
    unfold fnOf at h
    rw [List.find?_cons] at h
    split at h
    · cases h
    · rename_i hne
      have this := fnOf_none s r h (n + 1) (i + 1)
      obtain ⟨b, hb, hiff⟩ := Go.MapKept.sameNow_of_keys (d := .string) (a := .string s) (b := .string y.h.nm) trivial trivial
      have : b = false := by
        cases b with
        | false => rfl
        | true => have t := hiff.1 rfl; simp at t hne; exact absurd t.symm hne
      subst this
      simp [entsF, Instr.findNow, *]
theorem fnOf_some (s : ByteArray) (x : Fun) : ∀ (ps : List Fun), fnOf ps s = some x → ∀ n i, ∃ j, Instr.findNow .string (.string s) (entsF n ps) i = some (some (j, .int .i64 x.h.pa))
  | [], h, _, _ => by cases h
  | y :: r, h, n, i => by
    obtain ⟨b, hb, hiff⟩ := Go.MapKept.sameNow_of_keys (d := .string) (a := .string s) (b := .string y.h.nm) trivial trivial
    unfold fnOf at h
    rw [List.find?_cons] at h
    split at h
    · rename_i he
      have e : y.h.nm = s := by simpa using he
      have : b = true := hiff.2 (by rw [e])
      subst this
      cases h
      exact ⟨i, by simp [entsF, Instr.findNow, hb]⟩
    · rename_i hne
      have : b = false := by
        cases b with
        | false => rfl
        | true => have t := hiff.1 rfl; simp at t hne; exact absurd t.symm hne
      subst this
      obtain ⟨j, hj⟩ := fnOf_some s x r h (n + 1) (i + 1)
      exact ⟨j, by simp [entsF, Instr.findNow, hb, hj]⟩
/-- How many parameters the function with a name has. -/
def fdF (l : List Fun) (s : ByteArray) : Option (Option Int) := some ((fnOf l s).map (·.h.pa))
theorem fdF_pm {W : World} {r c : Nat} (l : List Fun) (h : W.heap[r]? = some (.map (entsF 0 l).toArray c)) (s : ByteArray) : PmA W (.map (some r)) s (fdF l s) := by
  unfold fdF
  cases hf : fnOf l s with
  | none => exact ⟨r, _, c, rfl, h, fnOf_none s l hf 0 0⟩
  | some x =>
    obtain ⟨j, hj⟩ := fnOf_some s x l hf 0 0
    exact ⟨r, _, c, j, rfl, h, hj⟩
/-- Do the names of functions differ from each other and from those ahead? -/
def nodB : List Fun → List Fun → Bool
  | _, [] => true
  | a, x :: r => (fnOf a x.h.nm).isNone && nodB (a ++ [x]) r
def fnsB (fd : ByteArray → Option (Option Int)) (l : List Fun) : Bool := l.all fun x => fnB x.h fd x.bs
/-- Is a program right? -/
def prB (l : List Fun) : Bool := (decide (1 ≤ l.length) && decide (l.length ≤ 1024)) && ((l.head?.all fun x => x.h.pa == 0) && (nodB [] l && fnsB (fdF l) l))
theorem nodB_at {l : List Fun} {j : Nat} {x : Fun} (h : l[j]? = some x) : nodB (l.take j) (l.drop j) = ((fnOf (l.take j) x.h.nm).isNone && nodB (l.take (j + 1)) (l.drop (j + 1))) := by
  obtain ⟨hj, e⟩ := List.getElem?_eq_some_iff.1 h
  rw [List.drop_eq_getElem_cons hj, e, List.take_add_one, h]
  rfl
theorem fnsB_at (fd : ByteArray → Option (Option Int)) {l : List Fun} {j : Nat} {x : Fun} (h : l[j]? = some x) : fnsB fd (l.drop j) = (fnB x.h fd x.bs && fnsB fd (l.drop (j + 1))) := by
  obtain ⟨hj, e⟩ := List.getElem?_eq_some_iff.1 h
  rw [List.drop_eq_getElem_cons hj, e]
  rfl
theorem entsF_at {l : List Fun} {j : Nat} {x : Fun} (h : l[j]? = some x) : (entsF 0 (l.take j)).toArray.push { key := .string x.h.nm, val := .int .i64 x.h.pa, born := j } = (entsF 0 (l.take (j + 1))).toArray := by
  obtain ⟨hj, e⟩ := List.getElem?_eq_some_iff.1 h
  rw [List.take_add_one, h]
  have := entsF_snoc x (l.take j) 0
  rw [show (l.take j).length = j by simp; omega, Nat.zero_add] at this
  show _ = (entsF 0 (l.take j ++ [x])).toArray
  rw [this]
  simp
end
section
open Go.RowKit Go.Shelf
set_option maxRecDepth 20000
set_option maxHeartbeats 8000000
/-- The checker, as it lies. -/
structure PK (w wx : World) (es : Array MapEntry) (c : Nat) : Prop where
  bel : Below w.heap.size w wx
  sz : w.heap.size + 1 + 1 < wx.heap.size
  mo : wx.heap[w.heap.size]? = some (.map oes 14)
  mp : wx.heap[w.heap.size + 1]? = some (.map es c)
  c0 : wx.cell? ⟨w.heap.size + 1 + 1, 0, none⟩ = some (.map (some w.heap.size))
  c1 : wx.cell? ⟨w.heap.size + 1 + 1, 1, none⟩ = some (.map (some (w.heap.size + 1)))
theorem PK.below {w wx w' : World} {es : Array MapEntry} {c : Nat} (h : PK w wx es c) (hb : Below wx.heap.size wx w') : PK w w' es c :=
  ⟨h.bel.trans (hb.mono h.bel.size), Nat.lt_of_lt_of_le h.sz hb.size, by rw [hb.block _ (by have := h.sz; omega)]; exact h.mo, by rw [hb.block _ (by have := h.sz; omega)]; exact h.mp, by rw [hb.cell (p := ⟨w.heap.size + 1 + 1, 0, none⟩) h.sz]; exact h.c0, by rw [hb.cell (p := ⟨w.heap.size + 1 + 1, 1, none⟩) h.sz]; exact h.c1⟩
theorem PK.upd {w wx : World} {es es' : Array MapEntry} {c c' : Nat} (h : PK w wx es c) : PK w (swp wx (w.heap.size + 1) (.map es' c')) es' c' := by
  have hs := h.sz
  refine ⟨swp_below h.bel _ _ (by omega), by rw [swp_size]; exact hs, by rw [swp_heap _ _ _ _ (by omega)]; exact h.mo, ?_, by rw [swp_cell _ _ _ _ _ (by omega)]; exact h.c0, by rw [swp_cell _ _ _ _ _ (by omega)]; exact h.c1⟩
  show (wx.heap.setIfInBounds _ _)[w.heap.size + 1]? = _
  rw [Array.getElem?_setIfInBounds_self, if_pos (by omega)]
theorem pk_start (w : World) : PK w (((w.alloc (.map oes 14)).alloc (.map #[] 0)).alloc (.cells #[.map (some w.heap.size), .map (some (w.heap.size + 1))] 60)) #[] 0 := by
  refine ⟨(((G.refl w).alloc _).alloc _ |>.alloc _).below, by simp, ?_, ?_, by go_simp, by go_simp⟩
  · rw [(Go.MapKept.heap_alloc _ _).2 _ (by simp; omega), (Go.MapKept.heap_alloc _ _).2 _ (by simp), (Go.MapKept.heap_alloc _ _).1]
  · rw [(Go.MapKept.heap_alloc _ _).2 _ (by simp), (show w.heap.size + 1 = (w.alloc (.map oes 14)).heap.size by simp), (Go.MapKept.heap_alloc _ _).1]
theorem programRight32g (l : List Fun) (p : Option Addr) (pc : Nat) (w : World) (hT : Tfa w) (hI : FunA w p pc l) : Calls Tryz.prog 26 #[.slice p l.length pc] w fun e w' => e = .returned (.bool (prB l)) ∧ Below w.heap.size w w' := by
  have HT : Hid (Tfa w) := hT
  have HI : Hid (FunA w p pc l) := hI
  have hxc := hI.1
  have hxc2 := hI.2.1
  have HV : Hid (prB l = ((decide (1 ≤ l.length) && decide (l.length ≤ 1024)) && ((l.head?.all fun x => x.h.pa == 0) && (nodB [] l && fnsB (fdF l) l)))) := rfl
  obtain ⟨n, hn⟩ : ∃ n, n = l.length := ⟨_, rfl⟩
  have HN : Hid (n = l.length) := hn
  rw [← hn] at hxc HV ⊢
  clear hT hI hn
  generalize prB l = R at *
  by_cases hn0 : n = 0
  · have HE : Hid (false = R) := by show _ = _; rw [HV.out, hn0]; rfl
    subst hn0
    go_enter Tryz.func26, Tryz.ntmps26
    go_wp2
    go_ret
    exact ⟨ret_bool HE.out, Below.refl _ _⟩
  by_cases hn2 : 1024 < n
  · have HE : Hid (false = R) := by show _ = _; rw [HV.out, show decide (n ≤ 1024) = false by simp; omega]; simp
    go_enter Tryz.func26, Tryz.ntmps26
    go_wp2
    go_ret
    exact ⟨ret_bool HE.out, Below.refl _ _⟩
  obtain ⟨g, oo, hxo, hcc⟩ := HI.out.2.2.2 (by have := HN.out; omega)
  have HI2 : Hid (FunA w (some ⟨g, oo, none⟩) pc l) := by have := HI.out; rw [hxo] at this; exact this
  subst hxo
  obtain ⟨x0, hx0⟩ : ∃ x, l[0]? = some x := ⟨_, List.getElem?_eq_getElem (by have := HN.out; omega)⟩
  have a0 := hcc 0 x0 hx0 1 _ rfl
  rw [show oo + 0 * 5 + 1 = oo + 1 by omega] at a0
  have hh : (l.head?.all fun x => x.h.pa == 0) = (x0.h.pa == 0) := by
    cases l with
    | nil => cases hx0
    | cons y r => cases hx0; rfl
  rw [hh, show (decide (1 ≤ n) && decide (n ≤ 1024)) = true by simp; omega] at HV
  clear hh hx0 hcc
  generalize x0.h.pa = P0 at *
  have e1 : ((n : Int) == 0) = false := by simp; omega
  have e2 : decide ((1024 : Int) < (n : Int)) = false := by simp; omega
  by_cases hp0 : P0 = 0
  · subst hp0
    have HE : Hid (R = (nodB (l.take 0) (l.drop 0) && fnsB (fdF l) l)) := by show _ = _; rw [HV.out]; simp
    clear HV
    have hmm := @run_makeMap Tryz.prog
    have HW : Hid (∃ W, W = ((w.alloc (.map oes 14)).alloc (.map #[] 0)).alloc (.cells #[.map (some w.heap.size), .map (some (w.heap.size + 1))] 60) ∧ PK w W (entsF 0 (l.take 0)).toArray 0) := ⟨_, rfl, pk_start w⟩
    go_enter Tryz.func26, Tryz.ntmps26
    go_wp2_with (first | (go_at_call 23; refine (operations7 _).mono ?_; rintro e w' ⟨rfl, rfl⟩))
    obtain ⟨W, hWe, hK⟩ := HW.out
    rw [← hWe]
    have HK0 : Hid (PK w W (entsF 0 (l.take 0)).toArray 0) := hK
    clear hWe hK HW a0 hmm
    go_loopw [30] (fun v wx => ∃ j : Nat, j ≤ n ∧ v = .int .i64 j ∧ PK w wx (entsF 0 (l.take j)).toArray j ∧ R = (nodB (l.take j) (l.drop j) && fnsB (fdF l) l)) (fun v _ => n - (intOf v).toNat)
    case atStart => exact ⟨0, Nat.zero_le _, rfl, HK0.out, HE.out⟩
    case round =>
      obtain ⟨j, hj, rfl, hK, hRu⟩ := hrel
      have HK : Hid (PK w wr (entsF 0 (l.take j)).toArray j) := hK
      have HRu : Hid (R = (nodB (l.take j) (l.drop j) && fnsB (fdF l) l)) := hRu
      obtain ⟨hbel, hsz, hmo, hmp, c0, c1⟩ := hK
      clear hRu HE HK0 W
      by_cases hlt : j < n
      · obtain ⟨x, hi⟩ : ∃ x, l[j]? = some x := ⟨_, List.getElem?_eq_getElem (by have := HN.out; omega)⟩
        obtain ⟨g', oo', hxo', hcc⟩ := (HI2.out.below hbel).2.2.2 (by have := HN.out; omega)
        cases hxo'
        have d0 := hcc j x hi 0 _ rfl
        have d1 := hcc j x hi 1 _ rfl
        have d2 := hcc j x hi 2 _ rfl
        have d3 := hcc j x hi 3 _ rfl
        have d4 := hcc j x hi 4 _ rfl
        rw [Nat.add_zero] at d0
        have f0 := acell hsz c0
        have f1 := acell hsz c1
        have HU : Hid (nodB (l.take j) (l.drop j) = ((fnOf (l.take j) x.h.nm).isNone && nodB (l.take (j + 1)) (l.drop (j + 1)))) := nodB_at hi
        have hKa := HK.out.below (((Below.refl _ _).alloc (Nat.le_refl _) (.cells #[.string x.h.nm, .int .i64 x.h.pa, .int .i64 x.h.rg, .int .i64 x.h.fr, .slice x.h.ba x.h.bl x.h.bc] 27)) : Below wr.heap.size wr _)
        have hEq := entsF_at hi
        clear hcc hi hbel hmo hmp
        cases hf : fnOf (l.take j) x.h.nm with
        | some y =>
          obtain ⟨q, hq⟩ := fnOf_some x.h.nm y (l.take j) hf 0 0
          have HE : Hid (false = R) := by show _ = _; rw [HRu.out, HU.out, hf]; rfl
          have hl := look59f (w.heap.size + 1) q x.h.nm y.h.pa (entsF 0 (l.take j)).toArray j _ hKa.mp (by simpa using hq)
          have HB : Hid (Below w.heap.size w (wr.alloc (.cells #[.string x.h.nm, .int .i64 x.h.pa, .int .i64 x.h.rg, .int .i64 x.h.fr, .slice x.h.ba x.h.bl x.h.bc] 27))) := hKa.bel
          clear hf hq hKa hEq
          go_wp2
          go_ret
          exact ⟨ret_bool HE.out, HB.out⟩
        | none =>
          have hq := fnOf_none x.h.nm (l.take j) hf 0 0
          have HE : Hid (R = (nodB (l.take (j + 1)) (l.drop (j + 1)) && fnsB (fdF l) l)) := by show _ = _; rw [HRu.out, HU.out, hf]; simp
          have hl := look59 (w.heap.size + 1) x.h.nm (entsF 0 (l.take j)).toArray j _ hKa.mp (by simpa using hq)
          have hu := upd59 (w.heap.size + 1) x.h.nm (.int .i64 x.h.pa) (entsF 0 (l.take j)).toArray j _ hKa.mp (by simpa using hq)
          have hKb := hKa.upd (es' := (entsF 0 (l.take (j + 1))).toArray) (c' := j + 1)
          rw [hEq] at hu
          obtain ⟨V, hV⟩ : ∃ V, V = swp (wr.alloc (.cells #[.string x.h.nm, .int .i64 x.h.pa, .int .i64 x.h.rg, .int .i64 x.h.fr, .slice x.h.ba x.h.bl x.h.bc] 27)) (w.heap.size + 1) (.map (entsF 0 (l.take (j + 1))).toArray (j + 1)) := ⟨_, rfl⟩
          rw [← hV] at hu hKb
          have HKb : Hid (PK w V (entsF 0 (l.take (j + 1))).toArray (j + 1)) := hKb
          clear hf hq hKa hEq hV hKb
          go_wp2
          go_round
          case rel => exact ⟨j + 1, by omega, by go_num, HKb.out, HE.out⟩
          case measure => simp [intOf]; omega
      · obtain rfl : n = j := by omega
        have HK1 : Hid (PK w wr (entsF 0 l).toArray n) := by
          have := HK.out
          rw [List.take_of_length_le (by have := HN.out; omega)] at this
          exact this
        have HE : Hid (R = fnsB (fdF l) (l.drop 0)) := by show _ = _; rw [HRu.out, List.drop_eq_nil_of_le (by have := HN.out; omega)]; simp [nodB]
        clear hbel hmo hmp c0 c1 hsz HK HRu
        generalize wr = V at *
        go_wp2
        go_loopw [52] (fun v wx => ∃ j : Nat, j ≤ n ∧ v = .int .i64 j ∧ G V wx ∧ R = fnsB (fdF l) (l.drop j)) (fun v _ => n - (intOf v).toNat)
        case atStart => exact ⟨0, Nat.zero_le _, rfl, G.refl _, HE.out⟩
        case round =>
          obtain ⟨j, hj, rfl, hGx, hRu⟩ := hrel
          have HX : Hid (G V wr) := hGx
          have HRu : Hid (R = fnsB (fdF l) (l.drop j)) := hRu
          have HK2 : Hid (PK w wr (entsF 0 l).toArray n) := HK1.out.below hGx.below
          obtain ⟨hbel, hsz, hmo, hmp, c0, c1⟩ := HK2.out
          clear hRu HE hGx hmo hmp
          by_cases hlt : j < n
          · obtain ⟨x, hi⟩ : ∃ x, l[j]? = some x := ⟨_, List.getElem?_eq_getElem (by have := HN.out; omega)⟩
            obtain ⟨g', oo', hxo', hcc⟩ := (HI2.out.below hbel).2.2.2 (by have := HN.out; omega)
            cases hxo'
            have d0 := hcc j x hi 0 _ rfl
            have d1 := hcc j x hi 1 _ rfl
            have d2 := hcc j x hi 2 _ rfl
            have d3 := hcc j x hi 3 _ rfl
            have d4 := hcc j x hi 4 _ rfl
            rw [Nat.add_zero] at d0
            have f0 := acell hsz c0
            have f1 := acell hsz c1
            have hmem : x ∈ l := List.mem_of_getElem? hi
            have HU : Hid (fnsB (fdF l) (l.drop j) = (fnB x.h (fdF l) x.bs && fnsB (fdF l) (l.drop (j + 1)))) := fnsB_at (fdF l) hi
            have hC : Hid (∀ W', G wr W' → Calls Tryz.prog 24 #[.agg #[.map (some w.heap.size), .map (some (w.heap.size + 1))], .agg #[.string x.h.nm, .int .i64 x.h.pa, .int .i64 x.h.rg, .int .i64 x.h.fr, .slice x.h.ba x.h.bl x.h.bc]] W' fun e w' => e = .returned (.bool (fnB x.h (fdF l) x.bs)) ∧ G W' w') := fun W' hW' => by
              have hk := HK2.out.below hW'.below
              obtain ⟨t1, t2, t3⟩ := (HI2.out.below hk.bel).2.2.1 x hmem
              exact function38g x.h w.heap.size (some (w.heap.size + 1)) (fdF l) x.bs W' t1 t2 (HT.out.below hk.bel) t3 hk.mo (fun b _ i _ => fdF_pm l hk.mp i.nm)
            have HB : Hid (Below w.heap.size w wr) := hbel
            clear hcc hi hmem hbel
            generalize fnB x.h (fdF l) x.bs = IB at *
            cases IB with
            | false =>
              have HE : Hid (false = R) := by show _ = _; rw [HRu.out, HU.out]; rfl
              go_wp2_with (first | (go_at_call 24; refine (hC.out _ ((G.refl _).alloc _)).mono ?_; rintro e w' ⟨rfl, hg⟩))
              go_ret
              exact ⟨ret_bool HE.out, HB.out.trans ((((G.refl _).alloc _).trans hg).below.mono HB.out.size)⟩
            | true =>
              have HE : Hid (R = fnsB (fdF l) (l.drop (j + 1))) := by show _ = _; rw [HRu.out, HU.out]; rfl
              go_wp2_with (first | (go_at_call 24; refine (hC.out _ ((G.refl _).alloc _)).mono ?_; rintro e w' ⟨rfl, hg⟩))
              go_round
              case rel => exact ⟨j + 1, by omega, by go_num, (HX.out.alloc _).trans hg, HE.out⟩
              case measure => simp [intOf]; omega
          · obtain rfl : j = n := by omega
            have HE : Hid (true = R) := by show _ = _; rw [HRu.out, List.drop_eq_nil_of_le (by have := HN.out; omega)]; rfl
            have HB : Hid (Below w.heap.size w wr) := hbel
            go_wp2
            go_ret
            exact ⟨ret_bool HE.out, HB.out⟩
  · have HE : Hid (false = R) := by show _ = _; rw [HV.out, show (P0 == 0) = false by simpa using hp0]; rfl
    have e3 : (P0 == 0) = false := by simpa using hp0
    go_enter Tryz.func26, Tryz.ntmps26
    go_wp2
    go_ret
    exact ⟨ret_bool HE.out, Below.refl _ _⟩
end
section
open Go.RowKit Go.Shelf
set_option maxHeartbeats 1000000
theorem check28g (l : List Fun) (p : Option Addr) (pc : Nat) (w : World) (hT : Tfa w) (hI : FunA w p pc l) : Calls Tryz.prog 9 #[.slice p l.length pc] w fun e w' => e = .returned (.int .i64 (if prB l then 0 else 6)) ∧ Below w.heap.size w w' := by
  have HC : Hid (Calls Tryz.prog 26 #[.slice p l.length pc] w fun e w' => e = .returned (.bool (prB l)) ∧ Below w.heap.size w w') := programRight32g l p pc w hT hI
  clear hI hT
  generalize prB l = R at *
  cases R with
  | true =>
    go_enter Tryz.func9, Tryz.ntmps9
    go_wp2_with (first | (go_at_call 26; refine HC.out.mono ?_; rintro e w1 ⟨rfl, hb⟩))
    go_ret
    exact ⟨rfl, hb⟩
  | false =>
    go_enter Tryz.func9, Tryz.ntmps9
    go_wp2_with (first | (go_at_call 26; refine HC.out.mono ?_; rintro e w1 ⟨rfl, hb⟩))
    go_ret
    exact ⟨rfl, hb⟩
end
end Go.Proofs.YtdppoblbenbafaaGreatDoor
