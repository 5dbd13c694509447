/- Walks of the little machine: New, State. -/
import Derived.Test.YtnmpbihpoefeoaaDoorC6
namespace Go.Proofs.YtnmpbihpoefeoaaDoor
open Go.RowKit Go.Shelf
theorem Mac.range {W : World} {m : Nat} {pc x10 x17 st : Int} {h : Bool} {code : Int} {mem : Nat} (H : Mac W m pc x10 x17 st h code mem) : W.rangeAt m 0 (ccs pc x10 x17 st h code) := fun j v hv => by
  rw [Nat.zero_add, H.at_ j, show mcs pc x10 x17 st h code mem = ccs pc x10 x17 st h code ++ [.pointer (some ⟨mem, 0, none⟩), .slice none 0 0] from rfl, List.getElem?_append_left (List.getElem?_eq_some_iff.1 hv).1]
  exact hv
theorem range_below {W W' : World} {b o : Nat} {cs : List Value} (h : W.rangeAt b o cs) (hb : Below W.heap.size W W') (hl : b < W.heap.size) : W'.rangeAt b o cs := fun j v hv => (hb.cell (p := ⟨b, o + j, none⟩) hl).trans (h j v hv)
theorem there_below {W W' : World} {b o n : Nat} (h : W.there b o n) (hb : Below W.heap.size W W') (hl : b < W.heap.size) : W'.there b o n := fun j hj => by
  have t := h j hj
  rw [← (bcell hb).1 b (o + j) hl, ← (bcell hb).2 b (o + j) hl] at t
  exact t
set_option maxRecDepth 20000 in
set_option maxHeartbeats 1000000 in
theorem state14 {W : World} {m : Nat} {pc x10 x17 st : Int} {h : Bool} {code : Int} {mem : Nat} (H : Mac W m pc x10 x17 st h code mem) : Calls Tryd.prog 14 #[.pointer (some ⟨m, 0, none⟩)] W fun e w' => e = .returned (.agg (ccs pc x10 x17 st h code).toArray) ∧ Below W.heap.size W w' := by
  have hl : Hid ((ccs pc x10 x17 st h code).length = 39) := rfl
  have HO : Hid ((ccs pc x10 x17 st h code).toArray.all (·.oneCell') = true) := ccs_one pc x10 x17 st h code
  have hs := lt_of_some H.blk
  have HR : Hid (W.rangeAt m 0 (ccs pc x10 x17 st h code)) := H.range
  have HC : Hid (∀ w, Calls Tryd.prog 28 #[.agg (ccs pc x10 x17 st h code).toArray] w fun e w' => e = .returned (.agg (ccs pc x10 x17 st h code).toArray) ∧ Below w.heap.size w w') := copied28 pc x10 x17 st h code
  clear H
  generalize ccs pc x10 x17 st h code = L at *
  go_enter Tryd.func14, Tryd.ntmps14
  go_wp2_with (first | (refine wpList_load_guard rfl 37 _ rfl m 0 rfl L _ (range_below HR.out ((Below.refl _ _).alloc (Nat.le_refl _) _) hs) Tryd.underlying37 rfl (by rw [hl.out]; exact info37) ?_) | fail)
  refine (HC.out _).mono ?_
  rintro e w1 ⟨rfl, hb⟩
  have ht : Hid (w1.there W.heap.size 0 39) := there_below (there_new W zC 37) hb (by simp)
  have HB : Hid (Below W.heap.size W w1) := ((Below.refl _ W).alloc (Nat.le_refl _) _).trans (hb.mono (by simp))
  clear hb
  have hts : Hid (w1.there W.heap.size 0 L.toArray.size) := by rw [show L.toArray.size = 39 from hl.out]; exact ht.out
  have his : Hid ((Tryd.prog.info? 37).map (·.size) = some L.toArray.size) := by rw [List.size_toArray, hl.out]; exact info37
  go_wp2_with (first | (refine wpList_store_mid rfl 37 _ _ rfl W.heap.size 0 L.toArray rfl rfl hts.out his.out HO.out ?_) | go_in)
  refine bodyPost_ret (v := .agg L.toArray) (results_cell Tryd.results14 W.heap.size rfl L _ (World.rangeAt_setCells_same _ _ _ L (by rw [hl.out]; exact ht.out)) Tryd.underlying37 rfl (by rw [hl.out]; exact info37)) rfl ⟨rfl, ?_⟩
  exact below_setCells HB.out _ _ (Nat.le_refl _) _
theorem mac_made (mem : Nat) : some (Obj.cells (((List.foldl (fun cs x => cs.setIfInBounds x.snd x.fst) #[.int .u64 0, .int .u64 0, .int .u64 0, .int .u64 0, .int .u64 0, .int .u64 0, .int .u64 0, .int .u64 0, .int .u64 0, .int .u64 0, .int .u64 0, .int .u64 0, .int .u64 0, .int .u64 0, .int .u64 0, .int .u64 0, .int .u64 0, .int .u64 0, .int .u64 0, .int .u64 0, .int .u64 0, .int .u64 0, .int .u64 0, .int .u64 0, .int .u64 0, .int .u64 0, .int .u64 0, .int .u64 0, .int .u64 0, .int .u64 0, .int .u64 0, .int .u64 0, .int .u64 0, .int .i64 0, .bool false, .int .i64 0, .int .i64 0, .slice none 0 0, .int .i64 0, .pointer none, .slice none 0 0]
    (ccs 4096 0 0 0 false 0).zipIdx).setIfInBounds 39 (.pointer (some ⟨mem, 0, none⟩))).setIfInBounds 40 (.slice none 0 0)) 72) = some (Obj.cells (mcs 4096 0 0 0 false 0 mem).toArray 72) := by kernel_rfl
set_option maxRecDepth 20000 in
set_option maxHeartbeats 1000000 in
theorem new12 {pv : Value} {ao : Nat → Option Addr} {bl bc : Nat → Nat} (w : World) (hP : PgArg w pv 1 kF pF ao bl bc YF) (hbl : bl 0 = 4096) :
    Calls Tryd.prog 12 #[.agg c0.toArray, pv, .slice none 0 0] w fun e w' => ∃ W0 mem r m, W0.heap.size ≤ m ∧ Below w.heap.size w W0 ∧ (∃ base ps, Fr W0 mem r 1 kF pF YF base ps) ∧ Below W0.heap.size W0 w' ∧ Sm w' m mem 0 ∧ e = .returned (.tuple #[.pointer (some ⟨m, 0, none⟩), .int .i64 0]) := by
  have HP : Hid (PgArg w pv 1 kF pF ao bl bc YF) := hP
  clear hP
  go_enter Tryd.func12, Tryd.ntmps12
  go_wp2_with (first | (refine wpList_load_guard rfl 37 _ rfl w.heap.size 0 rfl c0 _ (range_new w c0 37) Tryd.underlying37 rfl info37 ?_) | fail)
  refine (right26 _).mono ?_
  rintro e w1 ⟨rfl, hb⟩
  have hc : Hid (w1.rangeAt w.heap.size 0 c0) := range_below (range_new w c0 37) hb (by simp)
  have hz : w.heap.size < w1.heap.size := by have := hb.size; simp at this; omega
  have HB : Hid (Below w.heap.size w w1) := ((Below.refl _ w).alloc (Nat.le_refl _) _).trans (hb.mono (by simp))
  clear hb
  go_wp2_with fail
  refine (from_any w1 (HP.out.below HB.out)).mono ?_
  rintro e W0 ⟨hb0, ho⟩
  have he : errE 1 kF pF bl = 0 := by
    unfold errE fromE stepE badB
    rw [hbl]
    rfl
  rcases ho with ⟨hn, _⟩ | ⟨_, _, rfl, ps, hF⟩
  · exact absurd he hn
  have hc0 : Hid (W0.rangeAt w.heap.size 0 c0) := range_below hc.out hb0 hz
  have HF : Hid (Fr W0 (w1.heap.size + 1) w1.heap.size 1 kF pF YF w1.heap.size ps) := hF
  have hz0 : w.heap.size < W0.heap.size := Nat.lt_of_lt_of_le hz hb0.size
  have HB0 : Hid (Below w.heap.size w W0) := HB.out.trans (hb0.mono (Nat.le_of_lt hz))
  clear hb0 hF he hc
  go_wp2_with (first | (refine wpList_load_guard rfl 37 _ rfl w.heap.size 0 rfl c0 _ hc0.out Tryd.underlying37 rfl info37 ?_) | fail)
  refine (copied28 4096 0 0 0 false 0 W0).mono ?_
  rintro e W1 ⟨rfl, hb1⟩
  have hz1 := hb1.size
  have HB1 : Hid (Below W0.heap.size W0 W1) := hb1
  clear hb1
  go_wp2_with fail
  refine (clone29_nil _).mono ?_
  rintro e W2 ⟨rfl, h2⟩
  subst h2
  go_wp2_with fail
  go_ret2
  exact ⟨W0, w1.heap.size + 1, w1.heap.size, W2.heap.size, HB1.out.size, HB0.out, ⟨_, ps, HF.out⟩, HB1.out.alloc HB1.out.size _, ⟨(heap_at _ _).trans (mac_made _)⟩, rfl⟩
end Go.Proofs.YtnmpbihpoefeoaaDoor
