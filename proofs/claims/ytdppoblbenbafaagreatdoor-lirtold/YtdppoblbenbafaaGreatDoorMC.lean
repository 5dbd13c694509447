/- The program's text of a program that is right. The program's Text of any program; LirTexts' law. -/
import Derived.Test.YtdppoblbenbafaaGreatDoorMB
import Derived.Deep.RegionHeld3
import Derived.Test.YtdppoblbenbafaaGreatDoorKA
namespace Go.Proofs.YtdppoblbenbafaaGreatDoor
section
open Go.RowKit Go.Shelf
set_option maxHeartbeats 8000000
/-- The builder at work. -/
structure Tx (w : World) (A : List UInt8) (W : World) : Prop where
  bel : Below w.heap.size w W
  bd : Lib.IsBuilder 116 5 w.heap.size w.heap.size (Lib.byteCells A) W
theorem Tx.g {w W U : World} {A : List UInt8} (h : Tx w A W) (hb : Below W.heap.size W U) : Tx w A U := ⟨h.bel.trans (hb.mono h.bel.size), builder_below h.bd hb⟩
theorem Tx.lt {w W : World} {A : List UInt8} (h : Tx w A W) : w.heap.size < W.heap.size := by
  rcases h.bd with ⟨_, v, hb, _⟩ | ⟨_, v, hb, _⟩ <;> exact (Array.getElem?_eq_some_iff.1 hb).1
/-- .. and a box of a round. -/
structure Tb (w : World) (A : List UInt8) (b : Nat) (o : Obj) (W : World) : Prop where
  tx : Tx w A W
  bx : W.heap[b]? = some o
  ne : b ≠ w.heap.size
theorem Tb.g {w W U : World} {A : List UInt8} {b : Nat} {o : Obj} (h : Tb w A b o W) (hb : Below W.heap.size W U) : Tb w A b o U := ⟨h.tx.g hb, (hb.block b (Array.getElem?_eq_some_iff.1 h.bx).1).trans h.bx, h.ne⟩
theorem Tb.start {w W : World} {A : List UInt8} (h : Tx w A W) (o : Obj) : Tb w A W.heap.size o (W.alloc o) := ⟨h.g ((G.refl W).alloc _).below, by show (W.heap.push _)[W.heap.size]? = _; simp, by have := h.lt; omega⟩
theorem drew_g (W : World) : Below W.heap.size W W.drew := ⟨rfl, rfl, rfl, Nat.le_refl _, fun _ _ => rfl⟩
theorem Tb.dr {w W : World} {A : List UInt8} {b : Nat} {o : Obj} (h : Tb w A b o W) : Tb w A b o W.drew := h.g (drew_g W)
theorem Tb.al {w W : World} {A : List UInt8} {b : Nat} {o : Obj} (h : Tb w A b o W) (q : Obj) : Tb w A b o (W.alloc q) := h.g ((G.refl W).alloc q).below
theorem alloc_row {W : World} (xs : List (List UInt8)) : ∀ (j : Nat) (x : List UInt8), xs[j]? = some x → (W.alloc (.cells (txC xs).toArray 9)).cell? ⟨W.heap.size, j, none⟩ = some (.string ⟨x.toArray⟩) := fun j x hj => by
  have t : (W.alloc (.cells (txC xs).toArray 9)).heap[W.heap.size]? = some (.cells (txC xs).toArray 9 (0, 0)) := by show (W.heap.push _)[W.heap.size]? = _; simp
  rw [Joins.cell_of_block t j]
  simp [txC, hj]
/-- A line over a row just made. -/
theorem Tb.line {w W : World} {A : List UInt8} {b : Nat} {cs : Array Value} {T : TypeId} (h : Tb w A b (.cells cs T (0, 0)) W) (hT : T ≠ 5) (xs : List (List UInt8)) (g : Nat) (c : Nat) (hc : xs.length ≤ c) (hr : ∀ (j : Nat) (x : List UInt8), xs[j]? = some x → W.cell? ⟨g, j, none⟩ = some (.string ⟨x.toArray⟩)) (hx : 0 < xs.length) (hx2 : xs.length ≤ 1000) (hl : A.length + (lnJ xs).length ≤ 140737488355328) : Calls Tryz.prog 76 #[.pointer (some ⟨w.heap.size, 0, none⟩), .slice (some ⟨g, 0, none⟩) xs.length c] W fun e w' => e = .returned (.tuple #[]) ∧ Tb w (A ++ lnJ xs) b (.cells cs T (0, 0)) w' :=
  (line76 w.heap.size w.heap.size A xs g c W h.tx.bd h.tx.bel.size hx hx2 hc hr hl).mono fun _ _ ⟨he, hd, hb, hk⟩ => ⟨he, ⟨h.tx.bel.trans hb, hd⟩, (hk b cs T (0, 0) h.bx hT h.ne).trans h.bx, h.ne⟩
set_option maxRecDepth 100000 in
theorem text35 (l : List Fun) (p : Option Addr) (pc : Nat) (w : World) (hI : FunA w p pc l) (hG : GoodP l) (hp : Pow w) (hTf : Tfa w) (hTw : Twa w) : Calls Tryz.prog 35 #[.slice p l.length pc] w fun e w' => e = .returned (.string ⟨(txP l).toArray⟩) ∧ Below w.heap.size w w' := by
  have HI : Hid (FunA w p pc l) := hI
  have hxc := hI.1
  have hxc2 := hI.2.1
  have HGo : Hid (GoodP l) := hG
  have HPW : Hid (Pow w ∧ Tfa w ∧ Twa w) := ⟨hp, hTf, hTw⟩
  obtain ⟨n, hn⟩ : ∃ n, n = l.length := ⟨_, rfl⟩
  have HN : Hid (n = l.length) := hn
  have hn2 : n ≤ 1024 := by rw [hn]; exact hG.1
  rw [← hn] at hxc ⊢
  have HX0 : Hid (Tx w (txP (l.take 0)) (w.alloc (.cells #[.pointer none, .slice none 0 0] 116))) := ⟨((G.refl w).alloc _).below, .inl ⟨Nat.le_refl _, .slice none 0 0, by show (w.heap.push _)[w.heap.size]? = _; simp, ⟨rfl, .inl ⟨rfl, rfl⟩⟩, by simp [Value.ownBlock]⟩⟩
  have KN : Hid (∀ n W, I64 n → Below w.heap.size w W → Calls Tryz.prog 77 #[.int .i64 n] W fun e w' => e = .returned (.string ⟨(Lib.itoa n).toArray⟩) ∧ G W w') := fun n W hn hb => number77 n W hn (hp.below hb)
  clear hI hn hG hp hTf hTw
  go_enter Tryz.func35, Tryz.ntmps35
  go_wp2
  generalize w.alloc (.cells #[.pointer none, .slice none 0 0] 116) = v0 at *
  go_loopw [5, 6, 7, 9, 12] (fun _ _ _ _ x wx => ∃ j : Nat, j ≤ n ∧ x = .int .i64 j ∧ Tx w (txP (l.take j)) wx) (fun _ _ _ _ x _ => n - (intOf x).toNat)
  case atStart => exact ⟨0, Nat.zero_le _, rfl, HX0.out⟩
  case round =>
    obtain ⟨j, hj, rfl, hX⟩ := hrel
    have HX : Hid (Tx w (txP (l.take j)) wr) := hX
    have hpos := hX.lt
    clear hX HX0
    by_cases hlt : j < n
    · obtain ⟨x, hx⟩ : ∃ x, l[j]? = some x := ⟨_, List.getElem?_eq_getElem (by have := HN.out; omega)⟩
      have hmem : x ∈ l := List.mem_of_getElem? hx
      have HF : Hid (GoodF x) := HGo.out.2 x hmem
      have HXt : Hid (txP (l.take (j + 1)) = txP (l.take j) ++ txF x) := txP_at hx
      have HAl0 : Hid ((txP (l.take j)).length ≤ 1288521799680) := by
        show _ ≤ _
        have t1 := txP_len (l.take j) (fun y hy => HGo.out.2 y (List.mem_of_mem_take hy))
        have t2 : (l.take j).length ≤ 1024 := by simp; omega
        omega
      obtain ⟨g, oo, hp, hcc⟩ := (HI.out.below HX.out.bel).2.2.2 (by have := HN.out; omega)
      have HIx : Hid (x.h.bl = x.bs.length ∧ BlkA w x.h.ba x.h.bc x.bs) := ⟨(HI.out.2.2.1 x hmem).1, (HI.out.2.2.1 x hmem).2.2⟩
      have d0 := hcc j x hx 0 _ rfl
      have d1 := hcc j x hx 1 _ rfl
      have d2 := hcc j x hx 2 _ rfl
      have d3 := hcc j x hx 3 _ rfl
      have d4 := hcc j x hx 4 _ rfl
      rw [Nat.add_zero] at d0
      have HB1 : Hid (Tb w (txP (l.take j)) wr.heap.size (.cells #[.string x.h.nm, .int .i64 x.h.pa, .int .i64 x.h.rg, .int .i64 x.h.fr, .slice x.h.ba x.h.bl x.h.bc] 27 (0, 0)) (wr.alloc (.cells #[.string x.h.nm, .int .i64 x.h.pa, .int .i64 x.h.rg, .int .i64 x.h.fr, .slice x.h.ba x.h.bl x.h.bc] 27))) := Tb.start HX.out _
      clear hcc hx hmem
      subst hp
      go_wp2_with fail
      have HHd : Hid ((hdL x).length ≤ 150) := hdL_len HF.out
      obtain ⟨A, hA⟩ : ∃ A, A = txP (l.take j) := ⟨_, rfl⟩
      obtain ⟨A1, hA1⟩ : ∃ A1, A1 = A ++ hdL x := ⟨_, rfl⟩
      rw [← hA] at HAl0 HXt HB1
      have HXt : Hid (txP (l.take (j + 1)) = A1 ++ blsT 0 x.bs) := by show _ = _; rw [HXt.out, hA1]; simp [txF]
      have HA1l : Hid (A1.length ≤ 1288521799680 + 150) := by
        show _ ≤ _
        rw [hA1, List.length_append]
        have := HHd.out
        have := HAl0.out
        omega
      obtain ⟨fb, hfb⟩ : ∃ fb, fb = wr.heap.size := ⟨_, rfl⟩
      obtain ⟨fo, hfo⟩ : ∃ fo, fo = Obj.cells #[.string x.h.nm, .int .i64 x.h.pa, .int .i64 x.h.rg, .int .i64 x.h.fr, .slice x.h.ba x.h.bl x.h.bc] 27 (0, 0) := ⟨_, rfl⟩
      have HKf : Hid (∀ A W, Tb w A fb fo W → W.cell? ⟨fb, 0, none⟩ = some (.string x.h.nm) ∧ W.cell? ⟨fb, 1, none⟩ = some (.int .i64 x.h.pa) ∧ W.cell? ⟨fb, 2, none⟩ = some (.int .i64 x.h.rg) ∧ W.cell? ⟨fb, 3, none⟩ = some (.int .i64 x.h.fr)) := fun A W h => by
        have hb := h.bx
        rw [hfo] at hb
        exact ⟨Joins.cell_of_block hb 0, Joins.cell_of_block hb 1, Joins.cell_of_block hb 2, Joins.cell_of_block hb 3⟩
      have HK4 : Hid (∀ A W, Tb w A fb fo W → W.cell? ⟨fb, 4, none⟩ = some (.slice x.h.ba x.h.bl x.h.bc)) := fun A W h => by
        have hb := h.bx
        rw [hfo] at hb
        exact Joins.cell_of_block hb 4
      have HLh : Hid (∀ W g, g = W.heap.size → Tb w A fb fo W → Calls Tryz.prog 76 #[.pointer (some ⟨w.heap.size, 0, none⟩), .slice (some ⟨g, 0, none⟩) 5 5] (W.alloc (.cells #[.string ⟨#[102, 110]⟩, .string x.h.nm, .string ⟨(Lib.itoa x.h.pa).toArray⟩, .string ⟨(Lib.itoa x.h.rg).toArray⟩, .string ⟨(Lib.itoa x.h.fr).toArray⟩] 9)) fun e w' => e = .returned (.tuple #[]) ∧ Tb w A1 fb fo w') := fun W g hg h => by
        subst hg
        have e : (txC [[102, 110], x.h.nm.data.toList, Lib.itoa x.h.pa, Lib.itoa x.h.rg, Lib.itoa x.h.fr]).toArray = #[.string ⟨#[102, 110]⟩, .string x.h.nm, .string ⟨(Lib.itoa x.h.pa).toArray⟩, .string ⟨(Lib.itoa x.h.rg).toArray⟩, .string ⟨(Lib.itoa x.h.fr).toArray⟩] := by simp [txC]
        have r := alloc_row (W := W) [[102, 110], x.h.nm.data.toList, Lib.itoa x.h.pa, Lib.itoa x.h.rg, Lib.itoa x.h.fr]
        rw [e] at r
        have h2 := h.g ((G.refl W).alloc (.cells #[.string ⟨#[102, 110]⟩, .string x.h.nm, .string ⟨(Lib.itoa x.h.pa).toArray⟩, .string ⟨(Lib.itoa x.h.rg).toArray⟩, .string ⟨(Lib.itoa x.h.fr).toArray⟩] 9)).below
        rw [hfo] at h2 ⊢
        have t := h2.line (by decide) [[102, 110], x.h.nm.data.toList, Lib.itoa x.h.pa, Lib.itoa x.h.rg, Lib.itoa x.h.fr] W.heap.size 5 (by simp) r (by simp) (by simp) (by rw [hd_join]; have := HHd.out; have := HAl0.out; omega)
        rw [hd_join, ← hA1] at t
        exact t
      have KP : Hid (∀ W, Tb w A fb fo W → Calls Tryz.prog 77 #[.int .i64 x.h.pa] W fun e w' => e = .returned (.string ⟨(Lib.itoa x.h.pa).toArray⟩) ∧ Tb w A fb fo w') := fun W h => (KN.out x.h.pa W HF.out.pa h.tx.bel).mono fun _ _ ⟨he, hg⟩ => ⟨he, h.g hg.below⟩
      have KR : Hid (∀ W, Tb w A fb fo W → Calls Tryz.prog 77 #[.int .i64 x.h.rg] W fun e w' => e = .returned (.string ⟨(Lib.itoa x.h.rg).toArray⟩) ∧ Tb w A fb fo w') := fun W h => (KN.out x.h.rg W HF.out.rg h.tx.bel).mono fun _ _ ⟨he, hg⟩ => ⟨he, h.g hg.below⟩
      have KFr : Hid (∀ W, Tb w A fb fo W → Calls Tryz.prog 77 #[.int .i64 x.h.fr] W fun e w' => e = .returned (.string ⟨(Lib.itoa x.h.fr).toArray⟩) ∧ Tb w A fb fo w') := fun W h => (KN.out x.h.fr W HF.out.fr h.tx.bel).mono fun _ _ ⟨he, hg⟩ => ⟨he, h.g hg.below⟩
      have HBL : Hid (x.h.bl = x.bs.length ∧ x.bs.length ≤ 1024) := ⟨HIx.out.1, HF.out.bl⟩
      have hbl1 : x.h.bl ≤ x.h.bc := by rw [HIx.out.1]; exact HIx.out.2.1
      have hbl2 := HIx.out.2.2.1
      obtain ⟨V1, hV1⟩ : ∃ V1, V1 = wr.alloc (.cells #[.string x.h.nm, .int .i64 x.h.pa, .int .i64 x.h.rg, .int .i64 x.h.fr, .slice x.h.ba x.h.bl x.h.bc] 27) := ⟨_, rfl⟩
      rw [← hV1] at HB1 ⊢
      rw [← hfb, ← hfo] at HB1
      rw [← hfb]
      clear hV1 d0 d1 d2 d3 d4 hA hA1 hfo HX hpos HAl0 HHd
      clear hfb
      generalize x.h.nm = xn at *
      generalize x.h.pa = xp at *
      generalize x.h.rg = xg at *
      generalize x.h.fr = xf at *
      generalize Lib.itoa xp = tp at *
      generalize Lib.itoa xg = tg at *
      generalize Lib.itoa xf = tf at *
      obtain ⟨q10, q11, q12, q13⟩ := HKf.out _ _ HB1.out
      go_region_held3 (fun w' => w'.cell? ⟨fb, 0, none⟩ = some (.string xn) ∧ w'.cell? ⟨fb, 1, none⟩ = some (.int .i64 xp) ∧ w'.cell? ⟨fb, 2, none⟩ = some (.int .i64 xg) ∧ w'.cell? ⟨fb, 3, none⟩ = some (.int .i64 xf)) (first | with_reducible exact HKf.out _ _ HB1.out | with_reducible exact HKf.out _ _ HB1.out.dr | with_reducible exact HKf.out _ _ HB2.out | with_reducible exact HKf.out _ _ HB3.out | with_reducible exact HKf.out _ _ HB4.out | with_reducible exact HKf.out _ _ HB5.out | with_reducible exact HKf.out _ _ HB1.out.dr | with_reducible exact HKf.out _ _ (HB4.out.al _) | with_reducible exact HKf.out _ _ HB4.out.dr | with_reducible exact HKf.out _ _ (HB4.out.al _).dr) (first | (go_at_call 77; refine (KP.out _ (by first | with_reducible exact HB1.out | with_reducible exact HB1.out.dr)).mono ?_; rintro e w2 ⟨rfl, hE⟩; have HB2 : Hid (Tb w A fb fo w2) := hE; clear hE; obtain ⟨q20, q21, q22, q23⟩ := HKf.out _ _ HB2.out) | (go_at_call 77; refine (KR.out _ (by first | with_reducible exact HB2.out | with_reducible exact HB2.out.dr)).mono ?_; rintro e w3 ⟨rfl, hE⟩; have HB3 : Hid (Tb w A fb fo w3) := hE; clear hE; obtain ⟨q30, q31, q32, q33⟩ := HKf.out _ _ HB3.out) | (go_at_call 77; refine (KFr.out _ (by first | with_reducible exact HB3.out | with_reducible exact HB3.out.dr)).mono ?_; rintro e w4 ⟨rfl, hE⟩; have HB4 : Hid (Tb w A fb fo w4) := hE; clear hE; obtain ⟨q40, q41, q42, q43⟩ := HKf.out _ _ HB4.out) | (go_at_call 76; refine (HLh.out _ _ (by first | rfl | simp) (by first | with_reducible exact HB4.out | with_reducible exact HB4.out.dr)).mono ?_; rintro e w5 ⟨rfl, hE⟩; have HB5 : Hid (Tb w A1 fb fo w5) := hE; clear hE; obtain ⟨q50, q51, q52, q53⟩ := HKf.out _ _ HB5.out))
      have q54 := HK4.out _ _ HB5.out
      have HT5 : Hid (Tx w (A1 ++ blsT 0 (x.bs.take 0)) w5) := by show Tx _ _ _; simpa [blsT] using HB5.out.tx
      clear q10 q11 q12 q13 q20 q21 q22 q23 q30 q31 q32 q33 q40 q41 q42 q43 q50 q51 q52 q53 HB1 HB2 HB3 HB4 HB5 KP KR KFr HLh HKf HK4
      generalize x.h.ba = ba at *
      generalize hbn : x.h.bl = bn at *
      generalize x.h.bc = bc at *
      clear hbn
      go_wp2
      go_loopw [6, 7, 9, 32] (fun _ _ _ v wx => ∃ m : Nat, m ≤ bn ∧ v = .int .i64 m ∧ Tx w (A1 ++ blsT 0 (x.bs.take m)) wx) (fun _ _ _ v _ => bn - (intOf v).toNat)
      case atStart => exact ⟨0, Nat.zero_le _, rfl, HT5.out⟩
      case round =>
        obtain ⟨m, hm, rfl, hX2⟩ := hrel
        generalize wr = V2 at *
        have HX2 : Hid (Tx w (A1 ++ blsT 0 (x.bs.take m)) V2) := hX2
        have hpos := hX2.lt
        clear hX2 HT5 q54
        by_cases hmt : m < bn
        · obtain ⟨b, hb⟩ : ∃ b, x.bs[m]? = some b := ⟨_, List.getElem?_eq_getElem (by have := HBL.out.1; omega)⟩
          have hbm : b ∈ x.bs := List.mem_of_getElem? hb
          have HGb : Hid (b.l.length ≤ 4096 ∧ ∀ i ∈ b.l, GoodI i) := HF.out.bs b hbm
          have HSt : Hid (blsT 0 (x.bs.take (m + 1)) = blsT 0 (x.bs.take m) ++ (bkL m ++ lnsT b.l)) := blsT_at hb
          have HIb : Hid (InsA w b.xo b.xc b.l) := HIx.out.2.2.2.1 b hbm
          obtain ⟨A2, hA2⟩ : ∃ A2, A2 = (A1 ++ blsT 0 (x.bs.take m)) := ⟨_, rfl⟩
          obtain ⟨A3, hA3⟩ : ∃ A3, A3 = A2 ++ bkL m := ⟨_, rfl⟩
          have HSt : Hid (A1 ++ blsT 0 (x.bs.take (m + 1)) = A3 ++ lnsT b.l) := by show _ = _; rw [HSt.out, hA3, hA2]; simp
          have hbk : (bkL m).length ≤ 100 := by have := bkL_len (k := m) (by have := HBL.out; omega); omega
          have HA2l : Hid (A2.length ≤ 1289780121900) := by
            show _ ≤ _
            rw [hA2, List.length_append]
            have t3 := blsT_len (x.bs.take m) 0 (by have := HBL.out.2; simp; omega) (fun c hc => HF.out.bs c (List.mem_of_mem_take hc))
            have t4 : (x.bs.take m).length ≤ 1024 := by have := HBL.out.2; simp; omega
            have := HA1l.out
            omega
          have HA3l : Hid (A3.length ≤ 1289780122000) := by
            show _ ≤ _
            rw [hA3, List.length_append]
            have := HA2l.out
            omega
          obtain ⟨g3, o3, e3, hc3⟩ := (HIx.out.2.below HX2.out.bel).2.2.2 (by have := HBL.out.1; omega)
          have c3 := hc3 m b hb
          rw [← hA2] at HX2
          have HB6 : Hid (Tb w A2 V2.heap.size (.cells #[.slice b.xo b.l.length b.xc] 49 (0, 0)) (V2.alloc (.cells #[.slice b.xo b.l.length b.xc] 49))) := Tb.start HX2.out _
          have KM : Hid (∀ W, Below w.heap.size w W → Calls Tryz.prog 77 #[.int .i64 (m : Int)] W fun e w' => e = .returned (.string ⟨(Lib.itoa (m : Int)).toArray⟩) ∧ G W w') := fun W hW => KN.out (m : Int) W ⟨by omega, by have := HBL.out; omega⟩ hW
          have HLb : Hid (∀ W g, g = W.heap.size → Tb w A2 V2.heap.size (.cells #[.slice b.xo b.l.length b.xc] 49 (0, 0)) W → Calls Tryz.prog 76 #[.pointer (some ⟨w.heap.size, 0, none⟩), .slice (some ⟨g, 0, none⟩) 2 2] (W.alloc (.cells #[.string ⟨#[98, 108, 111, 99, 107]⟩, .string ⟨(Lib.itoa (m : Int)).toArray⟩] 9)) fun e w' => e = .returned (.tuple #[]) ∧ Tb w A3 V2.heap.size (.cells #[.slice b.xo b.l.length b.xc] 49 (0, 0)) w') := fun W g hg h => by
            subst hg
            have e : (txC [[98, 108, 111, 99, 107], Lib.itoa (m : Int)]).toArray = #[.string ⟨#[98, 108, 111, 99, 107]⟩, .string ⟨(Lib.itoa (m : Int)).toArray⟩] := by simp [txC]
            have r := alloc_row (W := W) [[98, 108, 111, 99, 107], Lib.itoa (m : Int)]
            rw [e] at r
            have t := (h.al (.cells #[.string ⟨#[98, 108, 111, 99, 107]⟩, .string ⟨(Lib.itoa (m : Int)).toArray⟩] 9)).line (by decide) [[98, 108, 111, 99, 107], Lib.itoa (m : Int)] W.heap.size 2 (by simp) r (by simp) (by simp) (by rw [bk_join]; have := HA2l.out; omega)
            rw [bk_join, ← hA3] at t
            exact t
          have HK0 : Hid (∀ W, Tb w A3 V2.heap.size (.cells #[.slice b.xo b.l.length b.xc] 49 (0, 0)) W → W.cell? ⟨V2.heap.size, 0, none⟩ = some (.slice b.xo b.l.length b.xc)) := fun W h => Joins.cell_of_block h.bx 0
          have hil1 := HIb.out.1
          have hil2 := HIb.out.2.1
          clear hc3 hb hbm hA2 hA3 hbk hpos
          subst e3
          generalize Lib.itoa (m : Int) = tm at *
          generalize hin : b.l.length = ln at *
          have HIN : Hid (b.l.length = ln) := hin
          clear hin
          generalize b.xc = xc at *
          generalize b.xo = xo at *
          go_wp2_with fail
          refine (KM.out _ HB6.out.tx.bel).mono ?_
          rintro e w7 ⟨rfl, hg7⟩
          have HB7 : Hid (Tb w A2 V2.heap.size (.cells #[.slice xo ln xc] 49 (0, 0)) w7) := HB6.out.g hg7.below
          clear hg7 c3 HB6 HX2
          go_wp2_with fail
          refine (HLb.out w7 _ (by first | rfl | simp) HB7.out).mono ?_
          rintro e w8 ⟨rfl, hE⟩
          have k0 := HK0.out _ hE
          have HT8 : Hid (Tx w (A3 ++ lnsT (b.l.take 0)) w8) := by show Tx _ _ _; simpa [lnsT] using hE.tx
          clear hE HB7 HLb KM HK0
          generalize V2.heap.size = bb at *
          go_wp2
          go_loopw [9, 44] (fun _ v wx => ∃ k : Nat, k ≤ ln ∧ v = .int .i64 k ∧ Tx w (A3 ++ lnsT (b.l.take k)) wx) (fun _ v _ => ln - (intOf v).toNat)
          case atStart => exact ⟨0, Nat.zero_le _, rfl, HT8.out⟩
          case round =>
            obtain ⟨k, hk, rfl, hX9⟩ := hrel
            generalize wr = V3 at *
            have HX9 : Hid (Tx w (A3 ++ lnsT (b.l.take k)) V3) := hX9
            have hpos := hX9.lt
            clear hX9 HT8 k0
            by_cases hkt : k < ln
            · obtain ⟨i, hi⟩ : ∃ i, b.l[k]? = some i := ⟨_, List.getElem?_eq_getElem (by have := HIN.out; omega)⟩
              have him : i ∈ b.l := List.mem_of_getElem? hi
              have HGi : Hid (GoodI i) := HGb.out.2 i him
              obtain ⟨g7, o7, e7, hc7⟩ := (HIb.out.below HX9.out.bel).2.2.2 (by have := HIN.out; omega)
              have HAr : Hid (ArA V3 i.ar i.ac i.gs) := ((HIb.out.below HX9.out.bel).2.2.1 i him).1
              have f0 := hc7 k i hi 0 _ rfl
              have f1 := hc7 k i hi 1 _ rfl
              have f2 := hc7 k i hi 2 _ rfl
              have f3 := hc7 k i hi 3 _ rfl
              have f4 := hc7 k i hi 4 _ rfl
              have f5 := hc7 k i hi 5 _ rfl
              have f6 := hc7 k i hi 6 _ rfl
              have f7 := hc7 k i hi 7 _ rfl
              have f8 := hc7 k i hi 8 _ rfl
              rw [Nat.add_zero] at f0
              have HLs : Hid (lnsT (b.l.take (k + 1)) = lnsT (b.l.take k) ++ lnL i) := lnsT_at hi
              obtain ⟨A4, hA4⟩ : ∃ A4, A4 = A3 ++ lnsT (b.l.take k) := ⟨_, rfl⟩
              have HA4l : Hid (A4.length ≤ 1289790122000) := by
                show _ ≤ _
                rw [hA4, List.length_append]
                have t7 := lnsT_len (b.l.take k) (fun c hc => HGb.out.2 c (List.mem_of_mem_take hc))
                have t8 : (b.l.take k).length ≤ 4096 := by have := HGb.out.1; simp; omega
                have := HA3l.out
                omega
              have HLs : Hid (A3 ++ lnsT (b.l.take (k + 1)) = A4 ++ lnL i) := by show _ = _; rw [HLs.out, hA4]; simp
              rw [← hA4] at HX9
              have HIV : Hid (∀ W, Below V3.heap.size V3 W → Calls Tryz.prog 78 #[inV i] W (ToldW W (wdL i))) := fun W hW => by
                have hw : Below w.heap.size w W := HX9.out.bel.trans (hW.mono HX9.out.bel.size)
                exact words78 i W HGi.out (HPW.out.1.below hw) (HPW.out.2.1.below hw) (HPW.out.2.2.below hw) (HAr.out.below hW)
              have HLn : Hid (∀ W g c, Tx w A4 W → (wdL i).length ≤ c → (∀ (j : Nat) (x : List UInt8), (wdL i)[j]? = some x → W.cell? ⟨g, j, none⟩ = some (.string ⟨x.toArray⟩)) → Calls Tryz.prog 76 #[.pointer (some ⟨w.heap.size, 0, none⟩), .slice (some ⟨g, 0, none⟩) (wdL i).length c] W fun e w' => e = .returned (.tuple #[]) ∧ Tx w (A4 ++ lnL i) w') := fun W g c h hc hr => by
                have t := line76 w.heap.size w.heap.size A4 (wdL i) g c W h.bd h.bel.size (wdL_len i HGi.out).1 (by have := (wdL_len i HGi.out).2; omega) hc hr (by rw [lnJ_wdL i HGi.out]; have := lnL_len HGi.out; have := HA4l.out; omega)
                rw [lnJ_wdL i HGi.out] at t
                exact t.mono fun _ _ ⟨he, hd, hb, _⟩ => ⟨he, h.bel.trans hb, hd⟩
              unfold inV at HIV
              clear hc7 hi him hA4 HAr hpos
              subst e7
              obtain ⟨L8, hL8⟩ : ∃ L8, L8 = wdL i := ⟨_, rfl⟩
              rw [← hL8] at HIV HLn
              clear hL8
              generalize i.gs.length = al at *
              go_wp2_with fail
              refine (HIV.out _ ((G.refl _).alloc _).below).mono ?_
              rintro e w9 ⟨g9, c9, rfl, hc9, hr9, hb9⟩
              have HX10 : Hid (Tx w A4 w9) := HX9.out.g (((G.refl _).alloc _).below.trans (hb9.mono ((G.refl _).alloc _).below.size))
              have HR9 : Hid (L8.length ≤ c9 ∧ ∀ (j : Nat) (x : List UInt8), L8[j]? = some x → w9.cell? ⟨g9, j, none⟩ = some (.string ⟨x.toArray⟩)) := ⟨hc9, hr9⟩
              clear hr9 hb9 hc9 f0 f1 f2 f3 f4 f5 f6 f7 f8
              go_wp2_with fail
              refine (HLn.out w9 g9 c9 HX10.out HR9.out.1 HR9.out.2).mono ?_
              rintro e w10 ⟨rfl, hE⟩
              have HX11 : Hid (Tx w (A4 ++ lnL i) w10) := hE
              clear hE
              go_wp2
              exact ⟨⟨k + 1, by omega, by go_num, by rw [HLs.out]; exact HX11.out⟩, by simp [intOf]; omega⟩
            · obtain rfl : k = ln := by omega
              have HE6 : Hid (Tx w (A1 ++ blsT 0 (x.bs.take (m + 1))) V3) := by
                have t := HX9.out
                rw [List.take_of_length_le (by have := HIN.out; omega), ← HSt.out] at t
                exact t
              go_wp2
              exact ⟨⟨m + 1, by omega, by go_num, HE6.out⟩, by simp [intOf]; omega⟩

        · obtain rfl : m = bn := by omega
          have HE2 : Hid (Tx w (txP (l.take (j + 1))) V2) := by
            have t := HX2.out
            rw [List.take_of_length_le (by have := HBL.out.1; omega), ← HXt.out] at t
            exact t
          go_wp2
          exact ⟨⟨j + 1, by omega, by go_num, HE2.out⟩, by simp [intOf]; omega⟩

    · obtain rfl : j = n := by omega
      have HK9 : Hid (Calls Tryz.prog 79 #[.pointer (some ⟨w.heap.size, 0, none⟩)] wr fun e w' => e = .returned (.string ⟨(txP l).toArray⟩) ∧ Below w.heap.size w w') := by
        have t := HX.out
        rw [List.take_of_length_le (by have := HN.out; omega)] at t
        exact (Tryz.Builder_String_any w.heap.size w.heap.size (txP l) wr t.bd t.bel.size).mono fun _ _ ⟨he, hb⟩ => ⟨he, t.bel.trans hb⟩
      go_wp2_with fail
      refine HK9.out.mono ?_
      rintro e w11 ⟨rfl, hb⟩
      have HB : Hid (Below w.heap.size w w11) := hb
      clear hb
      go_wp2
      go_ret
      exact ⟨rfl, HB.out⟩
end
section
open Go.RowKit Go.Shelf
set_option maxHeartbeats 8000000
set_option maxRecDepth 20000
theorem text16 (l : List Fun) (p : Option Addr) (pc : Nat) (w : World) (hI : FunA w p pc l) (hN : N64 l) (hp : Pow w) (hTf : Tfa w) (hTw : Twa w) : Calls Tryz.prog 16 #[.slice p l.length pc] w fun e w' => e = .returned (.tuple #[.string ⟨(txV l).toArray⟩, .int .i64 (if prB l then 0 else 6)]) ∧ Below w.heap.size w w' := by
  have HC : Hid (Calls Tryz.prog 9 #[.slice p l.length pc] w fun e w' => e = .returned (.int .i64 (if prB l then 0 else 6)) ∧ Below w.heap.size w w') := check28g l p pc w hTf hI
  unfold txV
  cases hR : prB l with
  | true =>
    have HG : Hid (GoodP l) := goodP_of (fun x hx => (hI.2.2.1 x hx).1) hN hR
    have HT : Hid (∀ W, Below w.heap.size w W → Calls Tryz.prog 35 #[.slice p l.length pc] W fun e w' => e = .returned (.string ⟨(txP l).toArray⟩) ∧ Below W.heap.size W w') := fun W hW => text35 l p pc W (hI.below hW) HG.out (hp.below hW) (hTf.below hW) (hTw.below hW)
    rw [hR] at HC
    clear hI hN hp hTf hTw HG hR
    simp only [if_true]
    generalize txP l = TT at *
    generalize l.length = n at *
    go_enter Tryz.func16, Tryz.ntmps16
    go_wp2_with fail
    refine HC.out.mono ?_
    rintro e w1 ⟨rfl, hb⟩
    have HB : Hid (Below w.heap.size w w1) := hb
    clear hb
    go_wp2_with fail
    refine (HT.out w1 HB.out).mono ?_
    rintro e w2 ⟨rfl, hb⟩
    have HB2 : Hid (Below w.heap.size w w2) := HB.out.trans (hb.mono HB.out.size)
    clear hb
    go_wp2
    go_ret2
    exact ⟨rfl, HB2.out⟩
  | false =>
    rw [hR] at HC
    clear hI hN hp hTf hTw hR
    generalize l.length = n at *
    go_enter Tryz.func16, Tryz.ntmps16
    go_wp2_with fail
    refine HC.out.mono ?_
    rintro e w1 ⟨rfl, hb⟩
    have HB : Hid (Below w.heap.size w w1) := hb
    clear hb
    go_wp2
    go_ret2
    exact ⟨rfl, HB.out⟩
end
end Go.Proofs.YtdppoblbenbafaaGreatDoor
