/- A program's text, plain. The document's own text of a program. -/
import Derived.Test.YtdppoblbenbafaaGreatDoorL4
import Derived.Test.YtdppoblbenbafaaGreatDoorJZ
namespace Go.Proofs.YtdppoblbenbafaaGreatDoor
section
open Go.RowKit Go.Shelf
/-- What is known of an instruction that is right. -/
structure GoodI (i : Ins) : Prop where
  o1 : 1 ≤ i.op
  o2 : i.op ≤ 11
  nm : i.nm.size ≤ 64
  gl : i.gs.length ≤ 7
  num : Num64 i
theorem bel_64 {n e : Int} {h : Bool} (he : e ≤ 4096) (hb : belB n h e = true) : I64 n := by
  unfold belB at hb
  unfold I64
  split at hb <;> simp at hb <;> omega
theorem rtA_nm {l : List UInt8} {k : Int} (h : rtA l = some k) : l.length ≤ 8 ∧ k ≤ 2 := by
  unfold rtA at h
  repeat' (split at h)
  all_goals (first | (cases h; done) | (rename_i e; subst e; cases h; simp))
theorem opB_nm {l : List UInt8} (h : opB l = true) : l.length ≤ 4 := by
  unfold opB at h
  simp at h
  rcases h with h | h | h | h | h | h | h | h | h | h | h | h | h | h <;> rw [h] <;> simp
theorem good_of {f : Fnh} {i : Ins} (hr : f.rg ≤ 4096) (hb : f.bl ≤ 1024) (hn : I64 i.n) (h : insB f i (frS i.op) none = true) : GoodI i := by
  unfold insB at h
  simp only [Bool.and_eq_true] at h
  obtain ⟨⟨h0, h0'⟩, h1, h2, h3, h4, h5, h6, h7, h8⟩ := h
  have hb' : (f.bl : Int) ≤ 4096 := by omega
  have o1 : 1 ≤ i.op := by simpa using h0
  have o2 : i.op ≤ 11 := by simpa using h0'
  have hnm : i.nm.data.toList.length = i.nm.size := by simp
  have key : i.nm.size ≤ 64 ∧ i.gs.length ≤ 7 := by
    unfold nanB at h8
    by_cases h7' : i.op = 7
    · rw [if_pos h7'] at h8
      unfold calB at h8
      cases hr : rtA i.nm.data.toList with
      | some k =>
        rw [hr] at h8
        have := rtA_nm hr
        simp at h8
        omega
      | none =>
        rw [hr] at h8
        simp at h8
        have t := h8.1
        unfold nmB at t
        simp at t
        omega
    · rw [if_neg h7'] at h8
      by_cases h3' : i.op = 3
      · rw [if_pos h3'] at h8
        simp at h8
        have := opB_nm h8.1
        rw [hnm] at this
        refine ⟨by omega, ?_⟩
        rw [h8.2]
        simp
      · rw [if_neg h3'] at h8
        simp at h8
        refine ⟨?_, by rw [h8.2]; simp⟩
        rw [← hnm]
        simp [h8.1]
  refine ⟨o1, o2, key.1, key.2, ?_, ?_, bel_64 hr h4, hn, bel_64 hb' h5, bel_64 hb' h6, fun y hy => ?_⟩
  · rw [Bool.or_eq_true] at h2
    rcases h2 with h2 | h2
    · simp at h2
      unfold I64
      omega
    · exact bel_64 hr h2
  · rw [Bool.or_eq_true] at h3
    rcases h3 with h3 | h3
    · simp at h3
      unfold I64
      omega
    · exact bel_64 hr h3
  · rw [List.all_eq_true] at h1
    exact bel_64 hr (h1 y hy)
/-- What is known of a function that is right. -/
structure GoodF (x : Fun) : Prop where
  nm : x.h.nm.size ≤ 64
  pa : I64 x.h.pa
  rg : I64 x.h.rg
  fr : I64 x.h.fr
  bl : x.bs.length ≤ 1024
  bs : ∀ b ∈ x.bs, b.l.length ≤ 4096 ∧ ∀ i ∈ b.l, GoodI i
theorem up_all (f : Fnh) (n : Nat) : ∀ (l : List Ins) (j : Nat), upB f fdN n l j = true → ∀ i ∈ l, insB f i (frS i.op) none = true
  | [], _, _, _, hi => by cases hi
  | x :: r, j, h, i, hi => by
    unfold upB atB at h
    simp only [Bool.and_eq_true] at h
    rcases List.mem_cons.1 hi with rfl | hi
    · exact h.1.2
    · exact up_all f n r (j + 1) h.2 i hi
theorem goodF_of {x : Fun} (hl : x.h.bl = x.bs.length) (hn : ∀ b ∈ x.bs, ∀ i ∈ b.l, I64 i.n) (h : fnB x.h fdN x.bs = true) : GoodF x := by
  unfold fnB at h
  simp only [Bool.and_eq_true] at h
  obtain ⟨h1, h2, h3, h4, h5, h6⟩ := h
  simp [witB] at h2 h3 h4 h5
  have hnm : x.h.nm.data.toList.length = x.h.nm.size := by simp
  have t : x.h.nm.size ≤ 64 := by
    unfold nmB at h1
    simp at h1
    omega
  refine ⟨t, ⟨by omega, by omega⟩, ⟨by omega, by omega⟩, ⟨by omega, by omega⟩, by omega, fun b hb => ?_⟩
  unfold blsB at h6
  rw [List.all_eq_true] at h6
  have hb6 := h6 b hb
  unfold blkB at hb6
  simp only [Bool.and_eq_true] at hb6
  have hw := hb6.1
  simp [witB] at hw
  exact ⟨by omega, fun i hi => good_of (by omega) (by omega) (hn b hb i hi) (up_all x.h _ b.l 0 hb6.2 i hi)⟩
/-- What is known of a program that is right. -/
def GoodP (l : List Fun) : Prop := l.length ≤ 1024 ∧ ∀ x ∈ l, GoodF x
/-- Numbers of 64 bits. -/
def N64 (l : List Fun) : Prop := ∀ x ∈ l, ∀ b ∈ x.bs, ∀ i ∈ b.l, I64 i.n
theorem goodP_of {l : List Fun} (hl : ∀ x ∈ l, x.h.bl = x.bs.length) (hn : N64 l) (h : prB l = true) : GoodP l := by
  rw [← ck_eq] at h
  unfold ckB at h
  simp only [Bool.and_eq_true] at h
  refine ⟨by simpa using h.1.2, fun x hx => ?_⟩
  obtain ⟨j, hj, e⟩ := List.mem_iff_getElem.1 hx
  have t := (okL_iff l l 0).1 h.2.2 j x (by rw [List.getElem?_eq_getElem hj, e])
  unfold okF at t
  simp only [Bool.and_eq_true] at t
  exact goodF_of (hl x hx) (hn x hx) t.1
/-- The text of a function's head, of a block's head, of blocks, of a function, of a program. -/
def hdL (x : Fun) : List UInt8 := [102, 110, 32] ++ x.h.nm.data.toList ++ [32] ++ Lib.itoa x.h.pa ++ [32] ++ Lib.itoa x.h.rg ++ [32] ++ Lib.itoa x.h.fr ++ [10]
def bkL (k : Nat) : List UInt8 := [98, 108, 111, 99, 107, 32] ++ Lib.itoa (k : Int) ++ [10]
def lnsT (l : List Ins) : List UInt8 := l.flatMap lnL
def blsT : Nat → List Blk → List UInt8
  | _, [] => []
  | k, b :: r => (bkL k ++ lnsT b.l) ++ blsT (k + 1) r
def txF (x : Fun) : List UInt8 := hdL x ++ blsT 0 x.bs
def txP (l : List Fun) : List UInt8 := l.flatMap txF
theorem lnsT_at {l : List Ins} {k : Nat} {i : Ins} (h : l[k]? = some i) : lnsT (l.take (k + 1)) = lnsT (l.take k) ++ lnL i := by
  unfold lnsT
  rw [List.take_add_one, h]
  simp
theorem blsT_snoc (b : Blk) : ∀ (l : List Blk) (k : Nat), blsT k (l ++ [b]) = blsT k l ++ (bkL (k + l.length) ++ lnsT b.l)
  | [], k => by simp [blsT]
  | c :: r, k => by
    show (bkL k ++ lnsT c.l) ++ blsT (k + 1) (r ++ [b]) = _
    rw [blsT_snoc b r (k + 1)]
    simp [blsT, Nat.add_assoc, Nat.add_comm 1 r.length]
theorem blsT_at {l : List Blk} {j : Nat} {b : Blk} (h : l[j]? = some b) : blsT 0 (l.take (j + 1)) = blsT 0 (l.take j) ++ (bkL j ++ lnsT b.l) := by
  have hj := (List.getElem?_eq_some_iff.1 h).1
  rw [List.take_add_one, h]
  show blsT 0 (l.take j ++ [b]) = _
  rw [blsT_snoc]
  simp [Nat.min_eq_left (Nat.le_of_lt hj)]
theorem txP_at {l : List Fun} {j : Nat} {x : Fun} (h : l[j]? = some x) : txP (l.take (j + 1)) = txP (l.take j) ++ txF x := by
  unfold txP
  rw [List.take_add_one, h]
  simp
theorem args_len : ∀ (l : List Int), (∀ y ∈ l, I64 y) → (l.flatMap (fun y => 32 :: Lib.itoa y)).length ≤ 22 * l.length
  | [], _ => by simp
  | y :: r, h => by
    have t1 := itoa_len (h y (by simp))
    have t2 := args_len r (fun z hz => h z (by simp [hz]))
    rw [List.flatMap_cons, List.length_append, List.length_cons, List.length_cons]
    omega
theorem lnL_len {i : Ins} (h : GoodI i) : (lnL i).length ≤ 300 := by
  have hd := itoa_len h.num.d
  have ha := itoa_len h.num.a
  have hb := itoa_len h.num.b
  have hn := itoa_len h.num.n
  have ht := itoa_len h.num.t
  have he := itoa_len h.num.e
  have hg := args_len i.gs h.num.g
  have hgl := h.gl
  have hnm : i.nm.data.toList.length ≤ 64 := by have := h.nm; simpa using this
  have o1 := h.o1
  have o2 := h.o2
  clear h
  unfold lnL lnS
  generalize i.gs.flatMap (fun y => 32 :: Lib.itoa y) = ga at *
  generalize Lib.itoa i.d = gd at *
  generalize Lib.itoa i.a = gaa at *
  generalize Lib.itoa i.b = gb at *
  generalize Lib.itoa i.n = gn at *
  generalize Lib.itoa i.to = gt at *
  generalize Lib.itoa i.el = ge at *
  generalize i.nm.data.toList = gm at *
  obtain h | h | h | h | h | h | h | h | h | h | h : i.op = 1 ∨ i.op = 2 ∨ i.op = 3 ∨ i.op = 4 ∨ i.op = 5 ∨ i.op = 6 ∨ i.op = 7 ∨ i.op = 8 ∨ i.op = 9 ∨ i.op = 10 ∨ i.op = 11 := by omega
  all_goals
    rw [h]
    simp
    omega
theorem lnsT_len : ∀ (l : List Ins), (∀ i ∈ l, GoodI i) → (lnsT l).length ≤ 300 * l.length
  | [], _ => by simp [lnsT]
  | i :: r, h => by
    have t1 := lnL_len (h i (by simp))
    have t2 := lnsT_len r (fun z hz => h z (by simp [hz]))
    unfold lnsT at t2 ⊢
    rw [List.flatMap_cons, List.length_append, List.length_cons]
    omega
theorem bkL_len {k : Nat} (h : k ≤ 1024) : (bkL k).length ≤ 30 := by
  have := itoa_len (n := (k : Int)) ⟨by omega, by omega⟩
  unfold bkL
  simp
  omega
theorem blsT_len : ∀ (l : List Blk) (k : Nat), k + l.length ≤ 1024 → (∀ b ∈ l, b.l.length ≤ 4096 ∧ ∀ i ∈ b.l, GoodI i) → (blsT k l).length ≤ 1228830 * l.length
  | [], _, _, _ => by simp [blsT]
  | b :: r, k, hk, h => by
    have h1 := h b (by simp)
    have t1 := lnsT_len b.l h1.2
    have t2 := blsT_len r (k + 1) (by simp at hk; omega) (fun z hz => h z (by simp [hz]))
    have t3 := bkL_len (k := k) (by simp at hk; omega)
    simp only [blsT, List.length_append, List.length_cons]
    have := h1.1
    omega
theorem hdL_len {x : Fun} (h : GoodF x) : (hdL x).length ≤ 150 := by
  have h1 := itoa_len h.pa
  have h2 := itoa_len h.rg
  have h3 := itoa_len h.fr
  have hnm : x.h.nm.data.toList.length ≤ 64 := by have := h.nm; simpa using this
  unfold hdL
  simp only [List.length_cons, List.length_append, List.length_nil]
  omega
theorem txF_len {x : Fun} (h : GoodF x) : (txF x).length ≤ 1258322070 := by
  have h1 := hdL_len h
  have h2 := blsT_len x.bs 0 (by have := h.bl; omega) h.bs
  have := h.bl
  unfold txF
  simp
  omega
theorem txP_len : ∀ (l : List Fun), (∀ x ∈ l, GoodF x) → (txP l).length ≤ 1258322070 * l.length
  | [], _ => by simp [txP]
  | x :: r, h => by
    have t1 := txF_len (h x (by simp))
    have t2 := txP_len r (fun z hz => h z (by simp [hz]))
    unfold txP at t2 ⊢
    rw [List.flatMap_cons, List.length_append, List.length_cons]
    omega
end
section
open Go.RowKit Go.Shelf
set_option maxHeartbeats 8000000
theorem lex17 : Region.lexB .any (opsOf (Tryz.f17.body.getD .skip) 7).toArray = true := by kernel_rfl
theorem rline37 (i : Ins) (w : World) (h : GoodI i) (hA : ArA w i.ar i.ac i.gs) : Calls Tryz.prog 37 #[inV i] w fun e w' => e = .returned (.string ⟨(lnL i).toArray⟩) ∧ Below w.heap.size w w' := by
  have o1 := h.o1
  have o2 := h.o2
  have hm : i.nm.size ≤ 1000 := by have := h.nm; omega
  obtain e | e | e | e | e | e | e | e | e | e | e : i.op = 1 ∨ i.op = 2 ∨ i.op = 3 ∨ i.op = 4 ∨ i.op = 5 ∨ i.op = 6 ∨ i.op = 7 ∨ i.op = 8 ∨ i.op = 9 ∨ i.op = 10 ∨ i.op = 11 := by omega
  · exact rline_1 i w e h.num hm
  · exact rline_2 i w e h.num hm
  · exact rline_3 i w e h.num hm
  · exact rline_4 i w e h.num hm
  · exact rline_5 i w e h.num hm
  · exact rline_6 i w e h.num hm
  · exact rline_7 i w e h.num hm hA h.gl
  · exact rline_8 i w e h.num hm
  · exact rline_9 i w e h.num hm
  · exact rline_10 i w e h.num hm
  · exact rline_11 i w e h.num hm
theorem ret_text {t : ByteArray} {L : List UInt8} {v : Value} (h : t.data.toList = L) : Ending.returned (.tuple #[.string t, v]) = .returned (.tuple #[.string ⟨L.toArray⟩, v]) := by rw [show t = ⟨L.toArray⟩ from ba_ext (by simpa using h)]
theorem ba_size (t : ByteArray) : t.size = t.data.toList.length := by simp
set_option maxRecDepth 20000 in
theorem rtext17_right (l : List Fun) (p : Option Addr) (pc : Nat) (w : World) (hI : FunA w p pc l) (hG : GoodP l) (hR : prB l = true) : Calls Tryz.prog 17 #[.slice p l.length pc] w fun e w' => e = .returned (.tuple #[.string ⟨(txP l).toArray⟩, .int .i64 0]) ∧ Below w.heap.size w w' := by
  have HI : Hid (FunA w p pc l) := hI
  have hxc := hI.1
  have hxc2 := hI.2.1
  have KC : Hid (Calls Tryz.prog 10 #[.slice p l.length pc] w fun e w' => e = .returned (.int .i64 0) ∧ Below w.heap.size w w') := by
    have t := rcheck10 l p pc w hI
    rw [ck_eq, hR] at t
    exact t
  have HGo : Hid (GoodP l) := hG
  obtain ⟨n, hn⟩ : ∃ n, n = l.length := ⟨_, rfl⟩
  have HN : Hid (n = l.length) := hn
  have hn2 : n ≤ 1024 := by rw [hn]; exact hG.1
  rw [← hn] at hxc KC ⊢
  clear hI hn hR hG
  have z3 : (⟨#[102, 110, 32]⟩ : ByteArray).size = 3 := rfl
  have z6 : (⟨#[98, 108, 111, 99, 107, 32]⟩ : ByteArray).size = 6 := rfl
  have z1 : (⟨#[32]⟩ : ByteArray).size = 1 := rfl
  have z0 : (⟨#[10]⟩ : ByteArray).size = 1 := rfl
  go_enter Tryz.func17, Tryz.ntmps17
  go_wp2_with fail
  refine KC.out.mono ?_
  rintro e w0 ⟨rfl, hb0⟩
  have HB0 : Hid (Below w.heap.size w w0) := hb0
  clear hb0 KC
  go_wp2
  go_loopw [4, 5, 6, 7] (fun sv fv _ _ wx => ∃ (j : Nat) (t : ByteArray), j ≤ n ∧ fv = .int .i64 j ∧ sv = .string t ∧ Below w.heap.size w wx ∧ t.data.toList = txP (l.take j)) (fun _ fv _ _ _ => n - (intOf fv).toNat)
  case atStart => exact ⟨0, _, Nat.zero_le _, rfl, rfl, HB0.out, rfl⟩
  case round =>
    obtain ⟨j, t, hj, rfl, rfl, hb, htx⟩ := hrel
    generalize wr = V at *
    have HB : Hid (Below w.heap.size w V) := hb
    have HTX : Hid (t.data.toList = txP (l.take j)) := htx
    clear hb htx
    by_cases hlt : j < n
    · obtain ⟨x, hx⟩ : ∃ x, l[j]? = some x := ⟨_, List.getElem?_eq_getElem (by have := HN.out; omega)⟩
      have hmem : x ∈ l := List.mem_of_getElem? hx
      have HF : Hid (GoodF x) := HGo.out.2 x hmem
      have HXt : Hid (txP (l.take (j + 1)) = txP (l.take j) ++ txF x) := txP_at hx
      have hts : t.size ≤ 1288521799680 := by
        rw [ba_size, HTX.out]
        have t1 := txP_len (l.take j) (fun y hy => HGo.out.2 y (List.mem_of_mem_take hy))
        have t2 : (l.take j).length ≤ 1024 := by simp; omega
        omega
      obtain ⟨g, oo, hp, hcc⟩ := (HI.out.below HB.out).2.2.2 (by have := HN.out; omega)
      have HIx : Hid (x.h.bl = x.bs.length ∧ BlkA w x.h.ba x.h.bc x.bs) := ⟨(HI.out.2.2.1 x hmem).1, (HI.out.2.2.1 x hmem).2.2⟩
      have d0 := hcc j x hx 0 _ rfl
      have d1 := hcc j x hx 1 _ rfl
      have d2 := hcc j x hx 2 _ rfl
      have d3 := hcc j x hx 3 _ rfl
      have d4 := hcc j x hx 4 _ rfl
      rw [Nat.add_zero] at d0
      have hgl : g < V.heap.size := World.block_lt_of_cell? _ _ d0
      have HD4 : Hid (∀ W, Below V.heap.size V W → W.cell? ⟨g, oo + j * 5 + 4, none⟩ = some (.slice x.h.ba x.h.bl x.h.bc)) := fun W hW => ((bcell hW).1 _ _ hgl).trans d4
      have hxn : x.h.nm.size ≤ 64 := HF.out.nm
      obtain ⟨tp, hp1, hp2, hp3⟩ := tx_of (Lib.itoa x.h.pa) 21 (itoa_len HF.out.pa)
      obtain ⟨tr, hr1, hr2, hr3⟩ := tx_of (Lib.itoa x.h.rg) 21 (itoa_len HF.out.rg)
      obtain ⟨tf, hf1, hf2, hf3⟩ := tx_of (Lib.itoa x.h.fr) 21 (itoa_len HF.out.fr)
      have kp := fun q : Bw V => Bw.to (num36 x.h.pa q.W HF.out.pa.1 HF.out.pa.2)
      have kr := fun q : Bw V => Bw.to (num36 x.h.rg q.W HF.out.rg.1 HF.out.rg.2)
      have kf := fun q : Bw V => Bw.to (num36 x.h.fr q.W HF.out.fr.1 HF.out.fr.2)
      rw [← hp1] at kp
      rw [← hr1] at kr
      rw [← hf1] at kf
      have HH : Hid (hdL x = [102, 110, 32] ++ x.h.nm.data.toList ++ [32] ++ tp.data.toList ++ [32] ++ tr.data.toList ++ [32] ++ tf.data.toList ++ [10]) := by
        show _ = _
        rw [hp3, hr3, hf3]
        rfl
      have b0 := Bw.cell hgl d0
      have b1 := Bw.cell hgl d1
      have b2 := Bw.cell hgl d2
      have b3 := Bw.cell hgl d3
      have hne := Bw.some V
      clear hcc hx hmem d0 d1 d2 d3 d4 hp1 hp3 hr1 hr3 hf1 hf3
      subst hp
      go_wp2_with fail
      refine wp_region_quiet_below (by kernel_rfl) (by exact lex17) ?_
      repeat (go_big_quiet_step ((first | (go_at_call 36; first | with_reducible exact kp _ | with_reducible exact kr _ | with_reducible exact kf _))))
      refine wpQuiet_nil ?_
      intro wz hwz
      obtain ⟨q, hq⟩ := hwz
      subst hq
      have HBq : Hid (Below V.heap.size V q.W) := q.h
      clear kp kr kf b0 b1 b2 b3 hne
      generalize q.W = U at *
      obtain ⟨A, hA⟩ : ∃ A, A = txP (l.take j) ++ hdL x := ⟨_, rfl⟩
      have HA : Hid (A = txP (l.take j) ++ hdL x) := hA
      have HAl : Hid (A.length ≤ 1288521799680 + 150) := by
        show _ ≤ _
        rw [hA, ← HTX.out, List.length_append, ← ba_size]
        have := hdL_len HF.out
        omega
      clear hA
      obtain ⟨t1, ht1⟩ : ∃ t1, t1 = t ++ ⟨#[102, 110, 32]⟩ ++ x.h.nm ++ ⟨#[32]⟩ ++ tp ++ ⟨#[32]⟩ ++ tr ++ ⟨#[32]⟩ ++ tf ++ ⟨#[10]⟩ := ⟨_, rfl⟩
      have HT1 : Hid (t1.data.toList = A ++ blsT 0 (x.bs.take 0)) := by
        show _ = _
        rw [ht1, HA.out, HH.out, ← HTX.out]
        simp [blsT]
      rw [← ht1]
      clear ht1 hp2 hr2 hf2 hxn
      have hbl1 : x.h.bl ≤ x.h.bc := by rw [HIx.out.1]; exact HIx.out.2.1
      have hbl2 := HIx.out.2.2.1
      have HBL : Hid (x.h.bl = x.bs.length ∧ x.bs.length ≤ 1024) := ⟨HIx.out.1, HF.out.bl⟩
      go_wp2
      go_loopw [4, 6, 7] (fun sv bv _ wx => ∃ (m : Nat) (t2 : ByteArray), m ≤ x.h.bl ∧ bv = .int .i64 m ∧ sv = .string t2 ∧ Below V.heap.size V wx ∧ t2.data.toList = A ++ blsT 0 (x.bs.take m)) (fun _ bv _ _ => x.h.bl - (intOf bv).toNat)
      case atStart => exact ⟨0, _, Nat.zero_le _, rfl, rfl, HBq.out, HT1.out⟩
      case round =>
        obtain ⟨m, t2, hm, rfl, rfl, hb2, htx2⟩ := hrel
        generalize wr = V2 at *
        have HB2 : Hid (Below V.heap.size V V2) := hb2
        have HTX2 : Hid (t2.data.toList = A ++ blsT 0 (x.bs.take m)) := htx2
        have d4 := HD4.out V2 hb2
        clear hb2 htx2
        by_cases hmt : m < x.h.bl
        · obtain ⟨b, hb⟩ : ∃ b, x.bs[m]? = some b := ⟨_, List.getElem?_eq_getElem (by have := HBL.out.1; omega)⟩
          have hbm : b ∈ x.bs := List.mem_of_getElem? hb
          have HGb : Hid (b.l.length ≤ 4096 ∧ ∀ i ∈ b.l, GoodI i) := HF.out.bs b hbm
          have HSt : Hid (blsT 0 (x.bs.take (m + 1)) = blsT 0 (x.bs.take m) ++ (bkL m ++ lnsT b.l)) := blsT_at hb
          have hbc := HIx.out.2.2.2.1 b hbm
          have HIb : Hid (InsA w b.xo b.xc b.l) := hbc
          have hts2 : t2.size ≤ 1289780121900 := by
            rw [ba_size, HTX2.out, List.length_append]
            have t3 := blsT_len (x.bs.take m) 0 (by have := HBL.out.2; simp; omega) (fun c hc => HF.out.bs c (List.mem_of_mem_take hc))
            have t4 : (x.bs.take m).length ≤ 1024 := by have := HBL.out.2; simp; omega
            have := HAl.out
            omega
          obtain ⟨tm, hm1, hm2, hm3⟩ := tx_of (Lib.itoa (m : Int)) 21 (itoa_len ⟨by omega, by omega⟩)
          have KM : Hid (∀ W, Calls Tryz.prog 36 #[.int .i64 (m : Int)] W fun e w' => e = .returned (.string tm) ∧ Below W.heap.size W w') := fun W => by
            rw [hm1]
            exact num36 (m : Int) W (by omega) (by have := HBL.out; omega)
          have HBk : Hid (bkL m = [98, 108, 111, 99, 107, 32] ++ tm.data.toList ++ [10]) := by show _ = _; rw [hm3]; rfl
          have HBc : Hid (∀ W, Below V.heap.size V W → ∃ g3 o3, x.h.ba = some ⟨g3, o3, none⟩ ∧ W.cell? ⟨g3, o3 + m, none⟩ = some (.slice b.xo b.l.length b.xc)) := fun W hW => by
            obtain ⟨g3, o3, e3, hc3⟩ := (HIx.out.2.below (HB.out.trans (hW.mono HB.out.size))).2.2.2 (by have := HBL.out.1; omega)
            exact ⟨g3, o3, e3, hc3 m b hb⟩
          have hbl3 := HIb.out.1
          have hbl4 := HIb.out.2.1
          clear hb hbm hbc hm1 hm3
          go_wp2_with fail
          refine (KM.out _).mono ?_
          rintro e U2 ⟨rfl, hbu⟩
          have HBu : Hid (Below V.heap.size V U2) := HB2.out.trans (hbu.mono HB2.out.size)
          clear hbu
          obtain ⟨t5, ht5⟩ : ∃ t5, t5 = t2 ++ ⟨#[98, 108, 111, 99, 107, 32]⟩ ++ tm ++ ⟨#[10]⟩ := ⟨_, rfl⟩
          obtain ⟨A2, hA2⟩ : ∃ A2, A2 = (A ++ blsT 0 (x.bs.take m)) ++ bkL m := ⟨_, rfl⟩
          have HA2 : Hid (A2 = (A ++ blsT 0 (x.bs.take m)) ++ bkL m) := hA2
          have HA2l : Hid (A2.length ≤ 1289780122000) := by
            show _ ≤ _
            rw [hA2, ← HTX2.out, List.length_append, ← ba_size]
            have := bkL_len (k := m) (by have := HBL.out; omega)
            omega
          have HT5 : Hid (t5.data.toList = A2 ++ lnsT (b.l.take 0)) := by
            show _ = _
            rw [ht5, HA2.out, HBk.out, ← HTX2.out]
            simp [lnsT]
          clear hA2
          go_wp2
          rw [← ht5]
          clear ht5 hm2
          go_loopw [4, 7] (fun sv kv wx => ∃ (k : Nat) (t6 : ByteArray), k ≤ b.l.length ∧ kv = .int .i64 k ∧ sv = .string t6 ∧ Below V.heap.size V wx ∧ t6.data.toList = A2 ++ lnsT (b.l.take k)) (fun _ kv _ => b.l.length - (intOf kv).toNat)
          case atStart => exact ⟨0, _, Nat.zero_le _, rfl, rfl, HBu.out, HT5.out⟩
          case round =>
            obtain ⟨k, t6, hk, rfl, rfl, hb6, htx6⟩ := hrel
            have HB6 : Hid (Below V.heap.size V wr) := hb6
            have HTX6 : Hid (t6.data.toList = A2 ++ lnsT (b.l.take k)) := htx6
            have e4 := HD4.out wr hb6
            obtain ⟨g3, o3, e3, c3⟩ := HBc.out wr hb6
            rw [e3] at e4
            clear hb6 htx6 d4
            have HLn : Hid (b.l.length ≤ 4096) := HGb.out.1
            by_cases hkt : k < b.l.length
            · obtain ⟨i, hi⟩ : ∃ i, b.l[k]? = some i := ⟨_, List.getElem?_eq_getElem hkt⟩
              have him : i ∈ b.l := List.mem_of_getElem? hi
              have hw6 : Below w.heap.size w wr := HB.out.trans (HB6.out.mono HB.out.size)
              obtain ⟨g7, o7, e7, hc7⟩ := (HIb.out.below hw6).2.2.2 (by omega)
              have HKi : Hid (Calls Tryz.prog 37 #[inV i] wr fun e w' => e = .returned (.string ⟨(lnL i).toArray⟩) ∧ Below wr.heap.size wr w') := rline37 i wr (HGb.out.2 i him) ((HIb.out.below hw6).2.2.1 i him).1
              have f0 := hc7 k i hi 0 _ rfl
              have f1 := hc7 k i hi 1 _ rfl
              have f2 := hc7 k i hi 2 _ rfl
              have f3 := hc7 k i hi 3 _ rfl
              have f4 := hc7 k i hi 4 _ rfl
              have f5 := hc7 k i hi 5 _ rfl
              have f6 := hc7 k i hi 6 _ rfl
              have f7 := hc7 k i hi 7 _ rfl
              have f8 := hc7 k i hi 8 _ rfl
              rw [Nat.add_zero] at f0
              have HLs : Hid (lnsT (b.l.take (k + 1)) = lnsT (b.l.take k) ++ lnL i) := lnsT_at hi
              have hts6 : t6.size ≤ 1289790122000 := by
                rw [ba_size, HTX6.out, List.length_append]
                have t7 := lnsT_len (b.l.take k) (fun c hc => HGb.out.2 c (List.mem_of_mem_take hc))
                have t8 : (b.l.take k).length ≤ 4096 := by have := HLn.out; simp; omega
                have := HA2l.out
                omega
              obtain ⟨tl, hl1, hl2, hl3⟩ := tx_of (lnL i) 300 (lnL_len (HGb.out.2 i him))
              rw [← hl1] at HKi
              have HLl : Hid (tl.data.toList = lnL i) := hl3
              rw [e7] at c3
              unfold inV at HKi
              clear hc7 hi him hl1 hl3 hw6 e3 e7
              generalize b.l.length = bn at *
              generalize i.gs.length = al at *
              go_wp2_with fail
              refine HKi.out.mono ?_
              rintro e w8 ⟨rfl, hb8⟩
              have HB8 : Hid (Below V.heap.size V w8) := HB6.out.trans (hb8.mono HB6.out.size)
              clear hb8
              go_wp2
              exact ⟨⟨k + 1, _, by omega, by go_num, rfl, HB8.out, by rw [HLs.out]; simp [HTX6.out, HLl.out]⟩, by simp [intOf]; omega⟩
            · have HE6 : Hid (t6.data.toList = A ++ blsT 0 (x.bs.take (m + 1))) := by
                show _ = _
                rw [HTX6.out, List.take_of_length_le (by omega), HSt.out, HA2.out]
                simp
              generalize b.l.length = bn at *
              obtain rfl : k = bn := by omega
              go_wp2
              exact ⟨⟨m + 1, _, by omega, by go_num, rfl, HB6.out, HE6.out⟩, by simp [intOf]; omega⟩
        · obtain rfl : m = x.h.bl := by omega
          have HE2 : Hid (t2.data.toList = txP (l.take (j + 1))) := by
            show _ = _
            rw [HTX2.out, List.take_of_length_le (by have := HBL.out.1; omega), HXt.out, HA.out]
            simp [txF]
          have HBz : Hid (Below w.heap.size w V2) := HB.out.trans (HB2.out.mono HB.out.size)
          go_wp2
          exact ⟨⟨j + 1, _, by omega, by go_num, rfl, HBz.out, HE2.out⟩, by simp [intOf]; omega⟩
    · obtain rfl : j = n := by omega
      have HE : Hid (t.data.toList = txP l) := by show _ = _; rw [HTX.out, List.take_of_length_le (by have := HN.out; omega)]
      go_wp2
      go_ret2
      exact ⟨ret_text HE.out, HB.out⟩
/-- What a program's text is. -/
def txV (l : List Fun) : List UInt8 := if prB l then txP l else []
theorem rtext17 (l : List Fun) (p : Option Addr) (pc : Nat) (w : World) (hI : FunA w p pc l) (hN : N64 l) : Calls Tryz.prog 17 #[.slice p l.length pc] w fun e w' => e = .returned (.tuple #[.string ⟨(txV l).toArray⟩, .int .i64 (if prB l then 0 else 6)]) ∧ Below w.heap.size w w' := by
  cases hR : prB l with
  | true =>
    have := rtext17_right l p pc w hI (goodP_of (fun x hx => (hI.2.2.1 x hx).1) hN hR) hR
    unfold txV
    rw [hR]
    exact this
  | false =>
    have KC : Hid (Calls Tryz.prog 10 #[.slice p l.length pc] w fun e w' => e = .returned (.int .i64 6) ∧ Below w.heap.size w w') := by
      have t := rcheck10 l p pc w hI
      rw [ck_eq, hR] at t
      exact t
    have HV : Hid (txV l = []) := by show _ = _; unfold txV; rw [hR]; rfl
    generalize txV l = T at *
    generalize l.length = n at *
    clear hI hN hR
    go_enter Tryz.func17, Tryz.ntmps17
    go_wp2_with fail
    refine KC.out.mono ?_
    rintro e w0 ⟨rfl, hb0⟩
    have HB0 : Hid (Below w.heap.size w w0) := hb0
    clear hb0 KC
    go_wp2
    go_ret2
    exact ⟨ret_text HV.out.symm, HB0.out⟩
end
end Go.Proofs.YtdppoblbenbafaaGreatDoor
