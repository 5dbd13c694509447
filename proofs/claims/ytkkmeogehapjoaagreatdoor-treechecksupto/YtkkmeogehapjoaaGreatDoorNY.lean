/- A node put, kind by kind: what serves. Words that a node is printed with; what lies beside a printer stays. Numbers and names of two parts, as they are printed. -/
import Derived.Test.YtkkmeogehapjoaaGreatDoorNX
namespace Go.Proofs.YtkkmeogehapjoaaGreatDoor
section
open Go.RowKit Go.Shelf
/-- What is asked of a node that is put. -/
structure NdK (w0 : World) (K : Nat) (x : Nd) : Prop where
  ks : IsA w0 x.ka x.kc x.ks
  hin : ∀ y ∈ x.ks, 0 ≤ y ∧ y < K
  ar : arB x.k.toNat x.ks.length = true
theorem NdK.kid {w0 : World} {K : Nat} {x : Nd} (h : NdK w0 K x) (j : Nat) (hj : j < x.ks.length) : kidN x j < K := by
  have t := kidN_in (fun y hy => (h.hin y hy).1) hj
  have t2 := h.hin _ (List.mem_of_getElem? t)
  omega
theorem NdK.addr {w0 : World} {K : Nat} {x : Nd} (h : NdK w0 K x) (h0 : 0 < x.ks.length) : ∃ g o, x.ka = some ⟨g, o, none⟩ ∧ ∀ W, Below w0.heap.size w0 W → ∀ j, j < x.ks.length → W.cell? ⟨g, o + j, none⟩ = some (.int .i64 (kidN x j : Nat)) := by
  obtain ⟨g, o, e1, e2⟩ := h.ks.2.2 h0
  refine ⟨g, o, e1, fun W hW j hj => ?_⟩
  have t := e2 j _ (kidN_in (fun y hy => (h.hin y hy).1) hj)
  rw [(bcell hW).1 g _ (World.block_lt_of_cell? _ _ t)]
  exact t
/-- What printing a node by one of the functions tells. -/
def PrF (w0 : World) (b : Nat) (nd : Value) (l : List Nd) (nt : Nat → Tks) (F : Nat) (x : Nd) (ps : List Pt) : Prop := ∀ t W, St w0 b nd t W → (run t (psT nt l ps)).length ≤ 140737488355328 → Calls Tryz.prog F #[.pointer (some ⟨b, 0, none⟩), nda x] W fun e w' => e = .returned (.tuple #[]) ∧ PoS w0 b nd (run t (psT nt l ps)) W w'
theorem put_hc {w0 : World} {b : Nat} {nd : Value} {l : List Nd} {nt : Nat → Tks} {K : Nat} (hP : Puts w0 b nd l nt K 3) (ps : List Pt) (h1 : 0 < ps.length ∧ ps.length ≤ 100) (h2 : ∀ p ∈ ps, p.rk < 3 ∧ p.ok w0 K) (n : Nat) (hn : n = ps.length) (vs : Array Value) (hvs : vs = (ps.map Pt.v).toArray) (t T : List UInt8) (hT : run t (psT nt l ps) = T) (hlen : T.length ≤ 140737488355328) : Hid (∀ W g, g = W.heap.size → St w0 b nd t W → Calls Tryz.prog 26 #[.pointer (some ⟨b, 0, none⟩), .slice (some ⟨g, 0, none⟩) n n] (W.alloc (.cells vs 20)) fun e w' => e = .returned (.tuple #[]) ∧ PoS w0 b nd T W w') := by
  intro W g hg hW
  subst hg
  rw [← hT] at hlen ⊢
  exact put_at hP ps h1 h2 n hn vs hvs t W hW hlen
theorem all_1 {Q : Pt → Prop} {p0 : Pt} (h0 : Q p0) : ∀ p ∈ [p0], Q p := by
  intro p hp
  simp only [List.mem_cons, List.not_mem_nil, or_false] at hp
  subst hp; assumption
theorem all_2 {Q : Pt → Prop} {p0 p1 : Pt} (h0 : Q p0) (h1 : Q p1) : ∀ p ∈ [p0, p1], Q p := by
  intro p hp
  simp only [List.mem_cons, List.not_mem_nil, or_false] at hp
  rcases hp with rfl | rfl <;> assumption
theorem all_3 {Q : Pt → Prop} {p0 p1 p2 : Pt} (h0 : Q p0) (h1 : Q p1) (h2 : Q p2) : ∀ p ∈ [p0, p1, p2], Q p := by
  intro p hp
  simp only [List.mem_cons, List.not_mem_nil, or_false] at hp
  rcases hp with rfl | rfl | rfl <;> assumption
theorem all_4 {Q : Pt → Prop} {p0 p1 p2 p3 : Pt} (h0 : Q p0) (h1 : Q p1) (h2 : Q p2) (h3 : Q p3) : ∀ p ∈ [p0, p1, p2, p3], Q p := by
  intro p hp
  simp only [List.mem_cons, List.not_mem_nil, or_false] at hp
  rcases hp with rfl | rfl | rfl | rfl <;> assumption
theorem all_5 {Q : Pt → Prop} {p0 p1 p2 p3 p4 : Pt} (h0 : Q p0) (h1 : Q p1) (h2 : Q p2) (h3 : Q p3) (h4 : Q p4) : ∀ p ∈ [p0, p1, p2, p3, p4], Q p := by
  intro p hp
  simp only [List.mem_cons, List.not_mem_nil, or_false] at hp
  rcases hp with rfl | rfl | rfl | rfl | rfl <;> assumption
theorem all_6 {Q : Pt → Prop} {p0 p1 p2 p3 p4 p5 : Pt} (h0 : Q p0) (h1 : Q p1) (h2 : Q p2) (h3 : Q p3) (h4 : Q p4) (h5 : Q p5) : ∀ p ∈ [p0, p1, p2, p3, p4, p5], Q p := by
  intro p hp
  simp only [List.mem_cons, List.not_mem_nil, or_false] at hp
  rcases hp with rfl | rfl | rfl | rfl | rfl | rfl <;> assumption
end
section
open Go.RowKit Go.Shelf
theorem PrnAt.later {B b : Nat} {nd p : Value} {bs : List Value} {w w' : World} (h : PrnAt B b nd p bs w) (hb : Below w.heap.size w w') : PrnAt B b nd p bs w' := by
  have hlt := h.lt
  obtain ⟨hB, v, hbk, hown, hne⟩ := h
  refine ⟨hB, v, by rw [hb.block b hlt]; exact hbk, ?_, hne⟩
  obtain ⟨h1, h2⟩ := hown
  refine ⟨h1, ?_⟩
  rcases h2 with h | ⟨g, cap, cur, e1, e2, e3, r⟩
  · exact .inl h
  · exact .inr ⟨g, cap, cur, e1, e2, by rw [hb.block g (Array.getElem?_eq_some_iff.1 e3).1]; exact e3, r⟩
theorem St.later {w0 W W' : World} {b : Nat} {nd : Value} {t : List UInt8} (h : St w0 b nd t W) (hb : Below W.heap.size W W') : St w0 b nd t W' :=
  ⟨⟨h.pr.1.imp (fun k => k.later hb) (fun k => k.later hb), Nat.le_trans h.pr.2 hb.size⟩, h.bl.trans (hb.mono h.bl.size)⟩
theorem Kept.later {b : Nat} {w w' : World} (hb : Below w.heap.size w w') : Kept b w w' := fun i _ _ _ hi _ _ => hb.block i (Array.getElem?_eq_some_iff.1 hi).1
theorem St.b_lt {w0 W : World} {b : Nat} {nd : Value} {t : List UInt8} (h : St w0 b nd t W) : b < W.heap.size := by
  rcases h.pr.1 with k | k
  · exact k.lt
  · exact k.lt
/-- A box that was laid ahead of a put is there behind it. -/
theorem box_kept {w0 W w' : World} {b : Nat} {nd : Value} {t T : List UInt8} {cs : Array Value} (hS : St w0 b nd t W) (hE : PoS w0 b nd T (W.alloc (.cells cs 53)) w') : w'.heap[W.heap.size]? = some (.cells cs 53 (0, 0)) := by
  have h := Go.heap_alloc_new W (.cells cs 53)
  rw [hE.2 W.heap.size cs 53 (0, 0) h (by decide) (by have := hS.b_lt; omega)]
  exact h
theorem put_hd {w0 : World} {b : Nat} {nd : Value} {l : List Nd} {nt : Nat → Tks} {K : Nat} (hP : Puts w0 b nd l nt K 3) (ps : List Pt) (h1 : 0 < ps.length ∧ ps.length ≤ 100) (h2 : ∀ p ∈ ps, p.rk < 3 ∧ p.ok w0 K) (n : Nat) (hn : n = ps.length) (vs : Array Value) (hvs : vs = (ps.map Pt.v).toArray) (t T : List UInt8) (hT : run t (psT nt l ps) = T) (hlen : T.length ≤ 140737488355328) : Hid (∀ W g, g = W.heap.size → St w0 b nd t W → Calls Tryz.prog 26 #[.pointer (some ⟨b, 0, none⟩), .slice (some ⟨g, 0, none⟩) n n] (W.alloc (.cells vs 20)).drew fun e w' => e = .returned (.tuple #[]) ∧ PoS w0 b nd T W w') := by
  intro W g hg hW
  have t := (put_hc hP ps h1 h2 n hn vs hvs t T hT hlen).out W.drew g hg (hW.later ⟨rfl, rfl, rfl, Nat.le_refl _, fun _ _ => rfl⟩)
  exact t.mono fun e w' ⟨h1, h2⟩ => ⟨h1, h2.1, fun i cs T fr hi => h2.2 i cs T fr hi⟩
theorem box6 {w : World} {g : Nat} {a0 a1 a2 a3 a4 a5 : Value} (h : w.heap[g]? = some (.cells #[a0, a1, a2, a3, a4, a5] 53 (0, 0))) : w.cell? ⟨g, 0, none⟩ = some a0 ∧ w.cell? ⟨g, 1, none⟩ = some a1 ∧ w.cell? ⟨g, 2, none⟩ = some a2 ∧ w.cell? ⟨g, 3, none⟩ = some a3 ∧ w.cell? ⟨g, 4, none⟩ = some a4 ∧ w.cell? ⟨g, 5, none⟩ = some a5 :=
  ⟨Lib.cell_of_heap h 0, Lib.cell_of_heap h 1, Lib.cell_of_heap h 2, Lib.cell_of_heap h 3, Lib.cell_of_heap h 4, Lib.cell_of_heap h 5⟩
theorem Kept.box {b g : Nat} {w w' : World} {cs : Array Value} (h : Kept b w w') (hg : w.heap[g]? = some (.cells cs 53 (0, 0))) (hne : g ≠ b) : w'.heap[g]? = some (.cells cs 53 (0, 0)) := by
  rw [h g cs 53 (0, 0) hg (by decide) hne]
  exact hg
/-- A printer at work, a node's box beside it. -/
structure Bs (w0 : World) (b : Nat) (nd : Value) (t : List UInt8) (W : World) (cs : Array Value) (w : World) : Prop where
  st : St w0 b nd t w
  ke : Kept b W w
  ne : W.heap.size ≠ b
  bx : w.heap[W.heap.size]? = some (.cells cs 53 (0, 0))
theorem Bs.start {w0 W : World} {b : Nat} {nd : Value} {t : List UInt8} (h : St w0 b nd t W) (cs : Array Value) : Bs w0 b nd t W cs (W.alloc (.cells cs 53)) :=
  ⟨h.alloc _, (Kept.refl b W).alloc _, by have := h.b_lt; omega, Go.heap_alloc_new W _⟩
theorem Bs.put {w0 W w w' : World} {b : Nat} {nd : Value} {t T : List UInt8} {cs : Array Value} (h : Bs w0 b nd t W cs w) (hE : PoS w0 b nd T w w') : Bs w0 b nd T W cs w' :=
  ⟨hE.1, h.ke.trans hE.2, h.ne, hE.2.box h.bx h.ne⟩
theorem Bs.later {w0 W w w' : World} {b : Nat} {nd : Value} {t : List UInt8} {cs : Array Value} (h : Bs w0 b nd t W cs w) (hb : Below w.heap.size w w') : Bs w0 b nd t W cs w' :=
  ⟨h.st.later hb, h.ke.trans (.later hb), h.ne, (Kept.later (b := b) hb).box h.bx h.ne⟩
theorem Bs.dr {w0 W w : World} {b : Nat} {nd : Value} {t : List UInt8} {cs : Array Value} (h : Bs w0 b nd t W cs w) : Bs w0 b nd t W cs w.drew := h.later ⟨rfl, rfl, rfl, Nat.le_refl _, fun _ _ => rfl⟩
theorem Bs.pos {w0 W w : World} {b : Nat} {nd : Value} {t : List UInt8} {cs : Array Value} (h : Bs w0 b nd t W cs w) : PoS w0 b nd t W w := ⟨h.st, h.ke⟩
set_option maxRecDepth 100000 in
set_option maxHeartbeats 4000000 in
theorem mut95 (k v f e : Int) (s : ByteArray) (sl : Value) (W : World) : Calls Tryz.prog 95 #[.agg #[.int .i64 k, .string s, .int .i64 v, sl, .int .i64 f, .int .i64 e]] W fun r w' => r = .returned (.string (mutS v)) ∧ Below W.heap.size W w' := by
  by_cases h : v = 1
  · subst h
    rw [show mutS 1 = ⟨#[109, 117, 116]⟩ from rfl]
    go_enter Tryz.func95, Tryz.ntmps95
    go_wp2
    go_ret
    exact ⟨rfl, below_cells _ _ _⟩
  · rw [show mutS v = ⟨#[]⟩ by unfold mutS; rw [if_neg h]]
    go_enter Tryz.func95, Tryz.ntmps95
    go_wp2
    go_ret
    exact ⟨rfl, below_cells _ _ _⟩
set_option maxRecDepth 100000 in
set_option maxHeartbeats 4000000 in
theorem truth93 (k v f e : Int) (s : ByteArray) (sl : Value) (W : World) : Calls Tryz.prog 93 #[.agg #[.int .i64 k, .string s, .int .i64 v, sl, .int .i64 f, .int .i64 e]] W fun r w' => r = .returned (.string (truS v)) ∧ Below W.heap.size W w' := by
  by_cases h : v = 1
  · subst h
    rw [show truS 1 = ⟨#[116, 114, 117, 101]⟩ from rfl]
    go_enter Tryz.func93, Tryz.ntmps93
    go_wp2
    go_ret
    exact ⟨rfl, below_cells _ _ _⟩
  · rw [show truS v = ⟨#[102, 97, 108, 115, 101]⟩ by unfold truS; rw [if_neg h]]
    go_enter Tryz.func93, Tryz.ntmps93
    go_wp2
    go_ret
    exact ⟨rfl, below_cells _ _ _⟩
end
section
open Go.RowKit Go.Shelf
theorem below_more (w : World) (k : Nat) (os : Array Obj) : Below w.heap.size w (Go.Sort.grow (w.drewN k) os) :=
  ⟨rfl, rfl, rfl, by show w.heap.size ≤ (w.heap ++ os).size; rw [Array.size_append]; omega, fun j hj => by show (w.heap ++ os)[j]? = w.heap[j]?; rw [Array.getElem?_append_left hj]⟩
theorem fmt81 (n : Int) (h0 : -9223372036854775808 ≤ n) (h1 : n ≤ 9223372036854775807) (W : World) (hT : Tm W) : Calls Tryz.prog 81 #[.int .i64 n, .int .i64 10] W fun e w' => e = .returned (.string ⟨(Lib.itoa n).toArray⟩) ∧ Below W.heap.size W w' :=
  (Tryz.strconv_FormatInt_10 n h0 h1 W hT.tb.pow).mono fun e w' ⟨h1, k, os, h2⟩ => ⟨h1, by rw [h2]; exact below_more W k os⟩
theorem cut83 (s : ByteArray) (hs : s.size ≤ 4294967280) (W : World) (hT : Tm W) : Calls Tryz.prog 83 #[.string s, .string ⟨#[58, 58]⟩] W fun e w' => e = .returned (.tuple #[.string ⟨(Lib.cut s.data.toList [58, 58]).1.toArray⟩, .string ⟨(Lib.cut s.data.toList [58, 58]).2.1.toArray⟩, .bool (Lib.cut s.data.toList [58, 58]).2.2]) ∧ Below W.heap.size W w' := by
  obtain ⟨m, hm⟩ := hT.mx
  exact (Tryz.strings_Cut s ⟨#[58, 58]⟩ m W (by omega) hm).mono fun e w' ⟨h1, n, h2⟩ => ⟨h1, by rw [h2]; exact drew_below W n⟩
end
end Go.Proofs.YtkkmeogehapjoaaGreatDoor
