/- The document's own look at a function, whole; where a function stands. The document's own look at calls. -/
import Derived.Test.YtdppoblbenbafaaGreatDoorJD
import Derived.Test.YtdppoblbenbafaaGreatDoorIJ
namespace Go.Proofs.YtdppoblbenbafaaGreatDoor
section
open Go.RowKit Go.Shelf
set_option maxHeartbeats 4000000
theorem rright25 (f : Fnh) (l : List Blk) (w : World) (hs : f.nm.size ≤ maxLen) (hl : f.bl = l.length) (hI : BlkA w f.ba f.bc l) : Calls Tryz.prog 25 #[fnhV f] w fun e w' => e = .returned (.bool (fnB f fdN l)) ∧ G w w' := by
  have hv : fnB f fdN l = (nmB f.nm.data.toList && (witB f.pa 0 7 && (witB f.rg f.pa 4096 && (witB f.fr 0 4096 && (witB f.bl 1 1024 && blsB f fdN l))))) := rfl
  by_cases h : nmB f.nm.data.toList = false ∨ ¬ (0 ≤ f.pa ∧ f.pa ≤ 7 ∧ f.pa ≤ f.rg ∧ f.rg ≤ 4096 ∧ 0 ≤ f.fr ∧ f.fr ≤ 4096 ∧ 1 ≤ f.bl ∧ f.bl ≤ 1024)
  · have hz : fnB f fdN l = false := by
      rw [hv]
      rcases h with h | h
      · rw [h]; rfl
      · rw [Bool.eq_false_iff]
        intro t
        simp [witB] at t
        apply h
        omega
    rw [hz]
    exact rright25_head f w hs h
  · have hn : nmB f.nm.data.toList = true := by
      cases hx : nmB f.nm.data.toList with
      | true => rfl
      | false => exact absurd (.inl hx) h
    have hh : 0 ≤ f.pa ∧ f.pa ≤ 7 ∧ f.pa ≤ f.rg ∧ f.rg ≤ 4096 ∧ 0 ≤ f.fr ∧ f.fr ≤ 4096 ∧ 1 ≤ f.bl ∧ f.bl ≤ 1024 := by
      by_cases hx : 0 ≤ f.pa ∧ f.pa ≤ 7 ∧ f.pa ≤ f.rg ∧ f.rg ≤ 4096 ∧ 0 ≤ f.fr ∧ f.fr ≤ 4096 ∧ 1 ≤ f.bl ∧ f.bl ≤ 1024
      · exact hx
      · exact absurd (.inr hx) h
    obtain ⟨h1, h2, h3, h4, h5, h6, h7, h8⟩ := hh
    have hz : fnB f fdN l = blsB f fdN l := by
      rw [hv, hn, show witB f.pa 0 7 = true by simp [witB]; omega, show witB f.rg f.pa 4096 = true by simp [witB]; omega, show witB f.fr 0 4096 = true by simp [witB]; omega, show witB f.bl 1 1024 = true by simp [witB]; omega]
      rfl
    rw [hz]
    exact rright25_body f l w hs hl hI hn h1 h2 h3 h4 h5 h6 h7 h8
theorem ralone8 (f : Fnh) (l : List Blk) (w : World) (hs : f.nm.size ≤ maxLen) (hl : f.bl = l.length) (hI : BlkA w f.ba f.bc l) : Calls Tryz.prog 8 #[fnhV f] w fun e w' => e = .returned (.int .i64 (if fnB f fdN l then 0 else 6)) ∧ G w w' := by
  have HC : Hid (∀ W, G w W → Calls Tryz.prog 25 #[fnhV f] W fun e w' => e = .returned (.bool (fnB f fdN l)) ∧ G W w') := fun W hW => rright25 f l W hs hl (hI.below hW.below)
  clear hs hl hI
  unfold fnhV at *
  generalize fnB f fdN l = R at *
  cases R with
  | true =>
    go_enter Tryz.func8, Tryz.ntmps8
    go_wp2_with (first | (go_at_call 25; refine (HC.out _ ((G.refl _).alloc _)).mono ?_; rintro e w1 ⟨rfl, hg⟩))
    go_ret
    exact ⟨rfl, ((G.refl _).alloc _).trans hg⟩
  | false =>
    go_enter Tryz.func8, Tryz.ntmps8
    go_wp2_with (first | (go_at_call 25; refine (HC.out _ ((G.refl _).alloc _)).mono ?_; rintro e w1 ⟨rfl, hg⟩))
    go_ret
    exact ⟨rfl, ((G.refl _).alloc _).trans hg⟩
/-- Where the function with a name stands; below 0: nowhere. -/
def fiN (l : List Fun) (s : ByteArray) : Int := match l.findIdx? (fun y => decide (y.h.nm = s)) with
  | some k => (k : Int)
  | none => -1
theorem fiN_at {l : List Fun} {s : ByteArray} {k : Nat} {x : Fun} (h : l[k]? = some x) (hx : x.h.nm = s) (ha : ∀ y ∈ l.take k, y.h.nm ≠ s) : fiN l s = k := by
  obtain ⟨hk, e⟩ := List.getElem?_eq_some_iff.1 h
  have : l.findIdx? (fun y => decide (y.h.nm = s)) = some k := by
    rw [List.findIdx?_eq_some_iff_getElem]
    refine ⟨hk, by rw [e]; simpa using hx, fun j hj => ?_⟩
    have := ha (l[j]'(by omega)) (by rw [List.mem_take_iff_getElem]; exact ⟨j, by omega, rfl⟩)
    simpa using this
  unfold fiN
  rw [this]
theorem fiN_none {l : List Fun} {s : ByteArray} (ha : ∀ y ∈ l, y.h.nm ≠ s) : fiN l s = -1 := by
  have : l.findIdx? (fun y => decide (y.h.nm = s)) = none := by
    rw [List.findIdx?_eq_none_iff]
    intro y hy
    simpa using ha y hy
  unfold fiN
  rw [this]
theorem nm_ne {a b : ByteArray} (h : ¬ a = b) : (a == b) = false ∧ (a.toList == b.toList) = false := by
  constructor
  · cases e : (a == b)
    · rfl
    · exact absurd ((Go.MapKept.bytes_beq _ _).1 e) h
  · rw [ByteArray.toList_eq, ByteArray.toList_eq]
    simp
    intro e
    apply h
    cases a; cases b
    simp at e
    rw [e]
theorem rfind27 (l : List Fun) (p : Option Addr) (pc : Nat) (s : ByteArray) (w : World) (hI : FunA w p pc l) : Calls Tryz.prog 27 #[.slice p l.length pc, .string s] w fun e w' => e = .returned (.int .i64 (fiN l s)) ∧ w' = w := by
  have HI : Hid (FunA w p pc l) := hI
  have hxc := hI.1
  have hxc2 := hI.2.1
  obtain ⟨n, hn⟩ : ∃ n, n = l.length := ⟨_, rfl⟩
  have HN : Hid (n = l.length) := hn
  rw [← hn] at hxc ⊢
  clear hI hn
  obtain ⟨R, hR⟩ : ∃ R, R = fiN l s := ⟨_, rfl⟩
  have HR : Hid (R = fiN l s) := hR
  rw [← hR]
  clear hR
  go_enter Tryz.func27, Tryz.ntmps27
  go_wp2
  go_loop [5] (fun v => ∃ k : Nat, k ≤ n ∧ v = .int .i64 k ∧ ∀ y ∈ l.take k, y.h.nm ≠ s) (fun v => n - (intOf v).toNat)
  case atStart => exact ⟨0, Nat.zero_le _, rfl, fun y hy => by simp at hy⟩
  case round =>
    obtain ⟨k, hk, rfl, ha⟩ := hrel
    have HA : Hid (∀ y ∈ l.take k, y.h.nm ≠ s) := ha
    clear ha
    by_cases hlt : k < n
    · obtain ⟨x, hx⟩ : ∃ x, l[k]? = some x := ⟨_, List.getElem?_eq_getElem (by have := HN.out; omega)⟩
      obtain ⟨g, oo, hp, hcc⟩ := HI.out.2.2.2 (by have := HN.out; omega)
      have d0 := hcc k x hx 0 _ rfl
      rw [Nat.add_zero] at d0
      have HXx : Hid (l[k]? = some x) := hx
      simp only [hp]
      clear hcc hx hp
      by_cases he : x.h.nm = s
      · have HE : Hid ((k : Int) = R) := by show _ = _; rw [HR.out, fiN_at HXx.out he HA.out]
        rw [he] at d0
        clear he
        go_wp2
        go_ret
        exact ⟨ret_int HE.out, rfl⟩
      · obtain ⟨q1, q2⟩ := nm_ne he
        have HEn : Hid (¬ x.h.nm = s) := he
        clear he
        go_wp2
        go_round
        case rel =>
          refine ⟨k + 1, by omega, by go_num, fun y hy => ?_⟩
          rw [List.take_add_one, HXx.out] at hy
          simp at hy
          rcases hy with hy | hy
          · exact HA.out y hy
          · rw [hy]; exact HEn.out
        case measure => simp [intOf]; omega
    · obtain rfl : k = n := by omega
      have HE : Hid (-1 = R) := by
        show _ = _
        have := HA.out
        rw [List.take_of_length_le (by have := HN.out; omega)] at this
        rw [HR.out, fiN_none this]
      go_wp2
      go_ret
      exact ⟨ret_int HE.out, rfl⟩
end
section
open Go.RowKit Go.Shelf
set_option maxHeartbeats 8000000
/-- Is a call right in a program? -/
def clB (l : List Fun) (i : Ins) : Bool := if i.op = 7 then (match rtA i.nm.data.toList with | some _ => true | none => (match fnOf l i.nm with | none => false | some y => y.h.pa == (i.gs.length : Int))) else true
def csB (l : List Fun) (bs : List Blk) : Bool := bs.all fun b => b.l.all (clB l)
theorem fi_cases (l : List Fun) (s : ByteArray) : (fiN l s = -1 ∧ fnOf l s = none) ∨ ∃ (k : Nat) (y : Fun), fiN l s = (k : Int) ∧ l[k]? = some y ∧ fnOf l s = some y := by
  cases h : l.findIdx? (fun y => decide (y.h.nm = s)) with
  | none =>
    refine .inl ⟨by unfold fiN; rw [h], ?_⟩
    rw [List.findIdx?_eq_none_iff] at h
    unfold fnOf
    rw [List.find?_eq_none]
    intro x hx
    rw [h x hx]
    simp
  | some k =>
    rw [List.findIdx?_eq_some_iff_getElem] at h
    obtain ⟨hk, h1, h2⟩ := h
    refine .inr ⟨k, l[k], ?_, List.getElem?_eq_getElem hk, ?_⟩
    · refine fiN_at (List.getElem?_eq_getElem hk) (by simpa using h1) (fun y hy => ?_)
      rw [List.mem_take_iff_getElem] at hy
      obtain ⟨j, hj, rfl⟩ := hy
      have := h2 j (by omega)
      simpa using this
    · unfold fnOf
      rw [List.find?_eq_some_iff_getElem]
      exact ⟨h1, k, hk, rfl, fun j hj => by have := h2 j hj; simpa using this⟩
theorem drew_below (w : World) (n : Nat) : Below w.heap.size w (w.drewN n) := ((G.refl w).drewN n).below
set_option maxRecDepth 20000 in
theorem rcalls28 (l : List Fun) (p : Option Addr) (pc : Nat) (f : Fnh) (bs : List Blk) (w : World) (hL : FunA w p pc l) (hl : f.bl = bs.length) (hI : BlkA w f.ba f.bc bs) : Calls Tryz.prog 28 #[.slice p l.length pc, fnhV f] w fun e w' => e = .returned (.bool (csB l bs)) ∧ Below w.heap.size w w' := by
  have HLF : Hid (FunA w p pc l) := hL
  have HI : Hid (BlkA w f.ba f.bc bs) := hI
  have HL : Hid (f.bl = bs.length) := hl
  have hxc : f.bl ≤ f.bc := by have := hI.1; omega
  have hxc2 := hI.2.1
  have hpc := hL.1
  have hpc2 := hL.2.1
  have KB : Hid (∀ (s : ByteArray) w, Calls Tryz.prog 67 #[.string s] w fun e w' => e = .returned (.int .i64 (blN s.data.toList)) ∧ w' = w) := fun s w => by
    have t := rbuilt67 s w
    rw [ByteArray.toList_eq] at t
    exact t
  have KF : Hid (∀ (s : ByteArray) W, Below w.heap.size w W → Calls Tryz.prog 27 #[.slice p l.length pc, .string s] W fun e w' => e = .returned (.int .i64 (fiN l s)) ∧ w' = W) := fun s W hW => rfind27 l p pc s W (HLF.out.below hW)
  clear hL hI hl
  have HBX : Hid (Bx1 w (w.alloc (.cells #[.string f.nm, .int .i64 f.pa, .int .i64 f.rg, .int .i64 f.fr, .slice f.ba f.bl f.bc] 27)) f) := bx1 w f
  have HE0 : Hid (csB l bs = csB l (bs.drop 0)) := rfl
  obtain ⟨m, hm⟩ : ∃ m, m = l.length := ⟨_, rfl⟩
  have HM : Hid (m = l.length) := hm
  rw [← hm] at hpc KF ⊢
  clear hm
  unfold fnhV
  generalize csB l bs = R at *
  go_enter Tryz.func28, Tryz.ntmps28
  go_wp2
  obtain ⟨W, hWe, HX0⟩ : ∃ W, W = w.alloc (.cells #[.string f.nm, .int .i64 f.pa, .int .i64 f.rg, .int .i64 f.fr, .slice f.ba f.bl f.bc] 27) ∧ Hid (Bx1 w W f) := ⟨_, rfl, HBX.out⟩
  rw [← hWe]
  clear hWe HBX
  go_loopw [5, 6, 7, 8] (fun v _ _ _ wx => ∃ j : Nat, j ≤ f.bl ∧ v = .int .i64 j ∧ Below W.heap.size W wx ∧ R = csB l (bs.drop j)) (fun v _ _ _ _ => f.bl - (intOf v).toNat)
  case atStart => exact ⟨0, Nat.zero_le _, rfl, Below.refl _ _, HE0.out⟩
  case round =>
    obtain ⟨j, hj, rfl, hGx, hRu⟩ := hrel
    generalize wr = V at *
    have HX : Hid (Below W.heap.size W V) := hGx
    have HXw : Hid (Below w.heap.size w V) := HX0.out.g.below.trans (hGx.mono HX0.out.g.below.size)
    have HRu : Hid (R = csB l (bs.drop j)) := hRu
    have HY : Hid (V.cell? ⟨w.heap.size, 4, none⟩ = some (.slice f.ba f.bl f.bc)) := by show _ = _; rw [hGx.cell (p := ⟨w.heap.size, 4, none⟩) HX0.out.sz]; exact HX0.out.f4
    have a4 := HY.out
    clear hRu HE0 hGx
    by_cases hlt : j < f.bl
    · obtain ⟨b, hi⟩ : ∃ b, bs[j]? = some b := ⟨_, List.getElem?_eq_getElem (by have := HL.out; omega)⟩
      obtain ⟨g, oo, hxo, hcc⟩ := (HI.out.below HXw.out).2.2.2 (by have := HL.out; omega)
      have d0 := hcc j b hi
      have HD0 : Hid (V.cell? ⟨g, oo + j, none⟩ = some (.slice b.xo b.l.length b.xc)) := d0
      have HU : Hid (csB l (bs.drop j) = (b.l.all (clB l) && csB l (bs.drop (j + 1)))) := by
        show _ = _
        obtain ⟨hj2, e⟩ := List.getElem?_eq_some_iff.1 hi
        rw [List.drop_eq_getElem_cons hj2, e]
        rfl
      have HIb : Hid (InsA w b.xo b.xc b.l) := HI.out.2.2.1 b (List.mem_of_getElem? hi)
      have hbc := HIb.out.1
      have hbc2 := HIb.out.2.1
      rw [hxo] at a4
      have HY4 : Hid (V.cell? ⟨w.heap.size, 4, none⟩ = some (.slice (some ⟨g, oo, none⟩) f.bl f.bc)) := a4
      clear hcc hi hxo
      obtain ⟨n, hnn⟩ : ∃ n, n = b.l.length := ⟨_, rfl⟩
      have HNn : Hid (n = b.l.length) := hnn
      rw [← hnn] at hbc d0 HD0
      clear hnn
      generalize b.xo = xo at *
      generalize b.xc = xc at *
      generalize b.l = ll at *
      have HE1 : Hid (R = ((ll.drop 0).all (clB l) && csB l (bs.drop (j + 1)))) := by show _ = _; rw [HRu.out, HU.out]; rfl
      go_wp2_with fail
      go_loopw [6, 7, 8] (fun v _ _ wx => ∃ k : Nat, k ≤ n ∧ v = .int .i64 k ∧ Below V.heap.size V wx ∧ R = ((ll.drop k).all (clB l) && csB l (bs.drop (j + 1)))) (fun v _ _ _ => n - (intOf v).toNat)
      case atStart => exact ⟨0, Nat.zero_le _, rfl, Below.refl _ _, HE1.out⟩
      case round =>
        obtain ⟨k, hk, rfl, hGy, hRv⟩ := hrel
        have HX2 : Hid (Below V.heap.size V wr) := hGy
        have HX2w : Hid (Below w.heap.size w wr) := HXw.out.trans (hGy.mono HXw.out.size)
        have HRv : Hid (R = ((ll.drop k).all (clB l) && csB l (bs.drop (j + 1)))) := hRv
        clear a4 d0
        have a4 := HY4.out
        have d0 := HD0.out
        have l4 := World.block_lt_of_cell? _ _ a4
        have l0 := World.block_lt_of_cell? _ _ d0
        rw [← hGy.cell (p := ⟨w.heap.size, 4, none⟩) l4] at a4
        rw [← hGy.cell (p := ⟨g, oo + j, none⟩) l0] at d0
        clear hRv HE1 l4 l0 hGy
        have l4 := World.block_lt_of_cell? _ _ a4
        have l0 := World.block_lt_of_cell? _ _ d0
        by_cases hkt : k < n
        · obtain ⟨i, hi⟩ : ∃ i, ll[k]? = some i := ⟨_, List.getElem?_eq_getElem (by have := HNn.out; omega)⟩
          have hIw := HIb.out.below HX2w.out
          obtain ⟨g2, o2, hxo2, hcc⟩ := hIw.2.2.2 (by have := HNn.out; omega)
          have e0 := hcc k i hi 0 _ rfl
          have e1 := hcc k i hi 1 _ rfl
          have e2 := hcc k i hi 2 _ rfl
          have e3 := hcc k i hi 3 _ rfl
          have e4 := hcc k i hi 4 _ rfl
          have e5 := hcc k i hi 5 _ rfl
          have e6 := hcc k i hi 6 _ rfl
          have e7 := hcc k i hi 7 _ rfl
          have e8 := hcc k i hi 8 _ rfl
          rw [Nat.add_zero] at e0
          have HU2 : Hid ((ll.drop k).all (clB l) = (clB l i && (ll.drop (k + 1)).all (clB l))) := by
            show _ = _
            obtain ⟨hj2, e⟩ := List.getElem?_eq_some_iff.1 hi
            rw [List.drop_eq_getElem_cons hj2, e]
            rfl
          have hal := (hIw.2.2.1 i (List.mem_of_getElem? hi)).1.1
          have hal2 := (hIw.2.2.1 i (List.mem_of_getElem? hi)).1.2.1
          clear hcc hi hIw
          subst hxo2
          have HV : Hid (clB l i = if i.op = 7 then (match rtA i.nm.data.toList with | some _ => true | none => (match fnOf l i.nm with | none => false | some y => y.h.pa == (i.gs.length : Int))) else true) := rfl
          generalize clB l i = XC at *
          generalize i.gs.length = al at *
          have HR2 : Hid (R = ((XC && (ll.drop (k + 1)).all (clB l)) && csB l (bs.drop (j + 1)))) := by show _ = _; rw [HRv.out, HU2.out]
          have HGO : Hid (XC = true → R = ((ll.drop (k + 1)).all (clB l) && csB l (bs.drop (j + 1)))) := fun h => by rw [HR2.out, h]; rfl
          have HNO : Hid (XC = false → false = R) := fun h => by rw [HR2.out, h]; rfl
          clear HRv HU2 HR2
          have HBA : Hid (∀ o, Below V.heap.size V (wr.alloc o)) := fun o => HX2.out.alloc HX2.out.size o
          have HBw : Hid (∀ o, Below w.heap.size w (wr.alloc o)) := fun o => HX2w.out.alloc HX2w.out.size o
          by_cases h7 : i.op = 7
          · have q7 : (i.op != 7) = false := by simp [h7]
            have kB := KB.out i.nm
            cases hr : rtA i.nm.data.toList with
            | some q =>
              have hb : blN i.nm.data.toList = q := by unfold blN; rw [hr]
              have hq := rtA_pos hr
              rw [hb] at kB
              have HXt : Hid (XC = true) := by show _ = _; rw [HV.out, if_pos h7, hr]
              clear hb hr h7 HV
              go_wp2_with (first | (go_at_call 67; refine (kB _).mono ?_; rintro e wb ⟨rfl, rfl⟩))
              go_round
              case rel => exact ⟨k + 1, by omega, by go_num, HBA.out _, HGO.out HXt.out⟩
              case measure => simp [intOf]; omega
            | none =>
              have hb : blN i.nm.data.toList = -1 := by unfold blN; rw [hr]
              rw [hb] at kB
              have kF := fun o => KF.out i.nm (wr.alloc o) (HBw.out o)
              have HV2 : Hid (XC = (match fnOf l i.nm with | none => false | some y => y.h.pa == (al : Int))) := by show _ = _; rw [HV.out, if_pos h7, hr]
              clear hb hr h7 HV
              rcases fi_cases l i.nm with ⟨f1, f2⟩ | ⟨kk, y, f1, f2, f3⟩
              · have HXt : Hid (XC = false) := by show _ = _; rw [HV2.out, f2]
                rw [f1] at kF
                clear f1 f2
                go_wp2_with (first | (go_at_call 67; refine (kB _).mono ?_; rintro e wb ⟨rfl, rfl⟩) | (go_at_call 27; refine (kF _).mono ?_; rintro e wc ⟨rfl, rfl⟩))
                go_quiet (fail)
                go_wp2
                go_ret
                exact ⟨ret_bool (HNO.out HXt.out), (HBw.out _).trans ((drew_below _ nq).mono (HBw.out _).size)⟩
              · have HXv : Hid (XC = (y.h.pa == (al : Int))) := by show _ = _; rw [HV2.out, f3]
                have hkm : kk < m := by have := HM.out; have := (List.getElem?_eq_some_iff.1 f2).1; omega
                rw [f1] at kF
                obtain ⟨gp, op, hp, hcp⟩ := (HLF.out.below HX2w.out).2.2.2 (by have := HM.out; omega)
                have c1 := hcp kk y f2 1 _ rfl
                have hgp : gp < wr.heap.size := World.block_lt_of_cell? _ _ c1
                have c2 := acell hgp c1
                clear f1 f2 f3 hcp
                subst hp
                by_cases hpa : y.h.pa = (al : Int)
                · have q8 : (y.h.pa != (al : Int)) = false := by simpa using hpa
                  have HXt : Hid (XC = true) := by show _ = _; rw [HXv.out]; simpa using hpa
                  clear hpa
                  go_wp2_with (first | (go_at_call 67; refine (kB _).mono ?_; rintro e wb ⟨rfl, rfl⟩) | (go_at_call 27; refine (kF _).mono ?_; rintro e wc ⟨rfl, rfl⟩))
                  go_quiet (fail)
                  go_wp2
                  go_round
                  case rel => exact ⟨k + 1, by omega, by go_num, (HBA.out _).trans ((drew_below _ nq).mono (HBA.out _).size), HGO.out HXt.out⟩
                  case measure => simp [intOf]; omega
                · have q8 : (y.h.pa != (al : Int)) = true := by simpa using hpa
                  have HXt : Hid (XC = false) := by show _ = _; rw [HXv.out]; simpa using hpa
                  clear hpa
                  go_wp2_with (first | (go_at_call 67; refine (kB _).mono ?_; rintro e wb ⟨rfl, rfl⟩) | (go_at_call 27; refine (kF _).mono ?_; rintro e wc ⟨rfl, rfl⟩))
                  go_quiet (fail)
                  go_wp2
                  go_ret
                  exact ⟨ret_bool (HNO.out HXt.out), (HBw.out _).trans ((drew_below _ nq).mono (HBw.out _).size)⟩
          · have q7 : (i.op != 7) = true := by simpa using h7
            have HXt : Hid (XC = true) := by show _ = _; rw [HV.out, if_neg h7]
            clear h7 HV
            go_wp2
            go_round
            case rel => exact ⟨k + 1, by omega, by go_num, HBA.out _, HGO.out HXt.out⟩
            case measure => simp [intOf]; omega
        · obtain rfl : k = n := by omega
          have HE : Hid (R = csB l (bs.drop (j + 1))) := by show _ = _; rw [HRv.out, List.drop_eq_nil_of_le (by have := HNn.out; omega)]; rfl
          go_wp2
          go_round
          case rel => exact ⟨j + 1, by omega, by go_num, HX.out.trans (HX2.out.mono HX.out.size), HE.out⟩
          case measure => simp [intOf]; omega
    · obtain rfl : j = f.bl := by omega
      have HE : Hid (true = R) := by show _ = _; rw [HRu.out, List.drop_eq_nil_of_le (by have := HL.out; omega)]; rfl
      go_wp2
      go_ret
      exact ⟨ret_bool HE.out, HXw.out⟩
end
end Go.Proofs.YtdppoblbenbafaaGreatDoor
