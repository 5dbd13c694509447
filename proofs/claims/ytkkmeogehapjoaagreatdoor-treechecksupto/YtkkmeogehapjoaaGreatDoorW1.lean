/- A node's kids: whether they fit its kind, whatever that is. -/
import Derived.Test.YtkkmeogehapjoaaGreatDoorUA
import Derived.Test.YtkkmeogehapjoaaGreatDoorUB
import Derived.Test.YtkkmeogehapjoaaGreatDoorU6
import Derived.Test.YtkkmeogehapjoaaGreatDoorU7
import Derived.Test.YtkkmeogehapjoaaGreatDoorUC
import Derived.Test.YtkkmeogehapjoaaGreatDoorV2
import Derived.Test.YtkkmeogehapjoaaGreatDoorV3
namespace Go.Proofs.YtkkmeogehapjoaaGreatDoor
open Go.RowKit Go.Shelf
def kidsB (l : List Nd) (k v : Int) (ks : List Int) : Bool :=
  if k = 1 then (kAll l ks 28) else
  if k = 2 then (decide (((ks.take (ks.length - 2)).length : Int) = v) && (kAll l (ks.take (ks.length - 2)) 128 && kAre l (ks.drop (ks.length - 2)) [130048, 1048576])) else
  if k = 3 then (kAll l ks 32) else
  if k = 4 then (kAll l ks 64) else
  if k = 5 then (kAre l ks [130048]) else
  if k = 6 then (if ks.length = 0 then true else kAre l ks [130048]) else
  if k = 7 then (kAre l ks [130048]) else
  if k = 10 then ((ks.length : Int) == 0) else
  if k = 11 then ((ks.length : Int) == 0) else
  if k = 12 then ((ks.length : Int) == 0) else
  if k = 13 then ((ks.length : Int) == 0) else
  if k = 14 then (kAre l ks [130048]) else
  if k = 15 then (kAre l ks [130048]) else
  if k = 16 then (kAre l ks [130048]) else
  if k = 20 then (decide (((ks.drop (ks.length - v.toNat)).length : Int) = v) && (kAll l (ks.take (ks.length - v.toNat)) 266338304 && kAll l (ks.drop (ks.length - v.toNat)) 140667696185344)) else
  if k = 21 then (kAre l ks [140667696185344] || kAre l ks [130048, 140667696185344]) else
  if k = 22 then (kAre l ks [140667696185344]) else
  if k = 23 then (kAre l ks [140667696185344, 140667696185344]) else
  if k = 24 then (kAre l ks [140667696185344, 1048576]) else
  if k = 25 then (if ks.length = 0 then true else kAre l ks [140667696185344]) else
  if k = 26 then ((ks.length : Int) == 0) else
  if k = 27 then ((ks.length : Int) == 0) else
  if k = 30 then ((ks.length : Int) == 0) else
  if k = 31 then ((ks.length : Int) == 0) else
  if k = 32 then ((ks.length : Int) == 0) else
  if k = 33 then ((ks.length : Int) == 0) else
  if k = 34 then (kAll l ks 140667696185344) else
  if k = 35 then (kAll l ks 68719476736) else
  if k = 36 then (kAre l ks [140667696185344]) else
  if k = 37 then (if ks.length = 0 then true else kAre l ks [140667696185344]) else
  if k = 38 then (kAre l ks [140667696185344, 140667696185344]) else
  if k = 39 then (kAre l ks [140667696185344]) else
  if k = 40 then (kAre l ks [140667696185344]) else
  if k = 41 then (kAre l ks [140667696185344]) else
  if k = 42 then (kAre l ks [140667696185344]) else
  if k = 43 then (kAre l ks [140667696185344]) else
  if k = 44 then (kAre l ks [140667696185344]) else
  if k = 45 then (kAre l ks [140667696185344, 1048576] || kAre l ks [140667696185344, 1048576, 35184373137408]) else
  if k = 46 then (if ks.length = 0 then false else (kAre l (ks.take 1) [140667696185344] && kAll l (ks.drop 1) 140737488355328)) else
  if k = 47 then (kAre l ks [34902897112121344, 140667696185344]) else
  if k = 50 then ((ks.length : Int) == 0) else
  if k = 51 then ((ks.length : Int) == 0) else
  if k = 52 then ((ks.length : Int) == 0) else
  if k = 53 then ((ks.length : Int) == 0) else
  if k = 54 then (if ks.length = 0 then true else kAre l ks [34902897112121344]) else
  false
set_option maxRecDepth 100000 in
set_option maxHeartbeats 4000000 in
theorem kidsFit62 (l : List Nd) (x : Nd) (ao : Option Addr) (c : Nat) (w : World) (hl : NdA w ao c l) (hks : IsA w x.ka x.kc x.ks) (hi : Inn l x.ks) (hv : nuB x.k x.v = true) : Calls Tryz.prog 62 #[.slice ao l.length c, ndv x.k x.nm x.v (.slice x.ka x.ks.length x.kc) x.fr x.en] w fun r w' => r = .returned (.bool (kidsB l x.k x.v x.ks)) ∧ Below w.heap.size w w' := by
  unfold kidsB
  by_cases h1 : x.k = 1
  · rw [if_pos h1]
    exact kf_1 l x ao c w h1 hl hks hi
  rw [if_neg h1]
  by_cases h2 : x.k = 2
  · rw [if_pos h2]
    exact kf_2 l x ao c w h2 hl hks hi
  rw [if_neg h2]
  by_cases h3 : x.k = 3
  · rw [if_pos h3]
    exact kf_3 l x ao c w h3 hl hks hi
  rw [if_neg h3]
  by_cases h4 : x.k = 4
  · rw [if_pos h4]
    exact kf_4 l x ao c w h4 hl hks hi
  rw [if_neg h4]
  by_cases h5 : x.k = 5
  · rw [if_pos h5]
    exact kf_5 l x ao c w h5 hl hks hi
  rw [if_neg h5]
  by_cases h6 : x.k = 6
  · rw [if_pos h6]
    by_cases hz : x.ks.length = 0
    · rw [if_pos hz]
      exact kf_6_e l x ao c w h6 hl hks hi hz
    · rw [if_neg hz]
      exact kf_6_n l x ao c w h6 hl hks hi hz
  rw [if_neg h6]
  by_cases h7 : x.k = 7
  · rw [if_pos h7]
    exact kf_7 l x ao c w h7 hl hks hi
  rw [if_neg h7]
  by_cases h10 : x.k = 10
  · rw [if_pos h10]
    exact kf_10 l x ao c w h10 hl hks hi
  rw [if_neg h10]
  by_cases h11 : x.k = 11
  · rw [if_pos h11]
    exact kf_11 l x ao c w h11 hl hks hi
  rw [if_neg h11]
  by_cases h12 : x.k = 12
  · rw [if_pos h12]
    exact kf_12 l x ao c w h12 hl hks hi
  rw [if_neg h12]
  by_cases h13 : x.k = 13
  · rw [if_pos h13]
    exact kf_13 l x ao c w h13 hl hks hi
  rw [if_neg h13]
  by_cases h14 : x.k = 14
  · rw [if_pos h14]
    exact kf_14 l x ao c w h14 hl hks hi
  rw [if_neg h14]
  by_cases h15 : x.k = 15
  · rw [if_pos h15]
    exact kf_15 l x ao c w h15 hl hks hi
  rw [if_neg h15]
  by_cases h16 : x.k = 16
  · rw [if_pos h16]
    exact kf_16 l x ao c w h16 hl hks hi
  rw [if_neg h16]
  by_cases h20 : x.k = 20
  · rw [if_pos h20]
    exact kf_20 l x ao c w h20 hl hks hi (by rw [h20] at hv; simpa [nuB] using hv)
  rw [if_neg h20]
  by_cases h21 : x.k = 21
  · rw [if_pos h21]
    exact kf_21 l x ao c w h21 hl hks hi
  rw [if_neg h21]
  by_cases h22 : x.k = 22
  · rw [if_pos h22]
    exact kf_22 l x ao c w h22 hl hks hi
  rw [if_neg h22]
  by_cases h23 : x.k = 23
  · rw [if_pos h23]
    exact kf_23 l x ao c w h23 hl hks hi
  rw [if_neg h23]
  by_cases h24 : x.k = 24
  · rw [if_pos h24]
    exact kf_24 l x ao c w h24 hl hks hi
  rw [if_neg h24]
  by_cases h25 : x.k = 25
  · rw [if_pos h25]
    by_cases hz : x.ks.length = 0
    · rw [if_pos hz]
      exact kf_25_e l x ao c w h25 hl hks hi hz
    · rw [if_neg hz]
      exact kf_25_n l x ao c w h25 hl hks hi hz
  rw [if_neg h25]
  by_cases h26 : x.k = 26
  · rw [if_pos h26]
    exact kf_26 l x ao c w h26 hl hks hi
  rw [if_neg h26]
  by_cases h27 : x.k = 27
  · rw [if_pos h27]
    exact kf_27 l x ao c w h27 hl hks hi
  rw [if_neg h27]
  by_cases h30 : x.k = 30
  · rw [if_pos h30]
    exact kf_30 l x ao c w h30 hl hks hi
  rw [if_neg h30]
  by_cases h31 : x.k = 31
  · rw [if_pos h31]
    exact kf_31 l x ao c w h31 hl hks hi
  rw [if_neg h31]
  by_cases h32 : x.k = 32
  · rw [if_pos h32]
    exact kf_32 l x ao c w h32 hl hks hi
  rw [if_neg h32]
  by_cases h33 : x.k = 33
  · rw [if_pos h33]
    exact kf_33 l x ao c w h33 hl hks hi
  rw [if_neg h33]
  by_cases h34 : x.k = 34
  · rw [if_pos h34]
    exact kf_34 l x ao c w h34 hl hks hi
  rw [if_neg h34]
  by_cases h35 : x.k = 35
  · rw [if_pos h35]
    exact kf_35 l x ao c w h35 hl hks hi
  rw [if_neg h35]
  by_cases h36 : x.k = 36
  · rw [if_pos h36]
    exact kf_36 l x ao c w h36 hl hks hi
  rw [if_neg h36]
  by_cases h37 : x.k = 37
  · rw [if_pos h37]
    by_cases hz : x.ks.length = 0
    · rw [if_pos hz]
      exact kf_37_e l x ao c w h37 hl hks hi hz
    · rw [if_neg hz]
      exact kf_37_n l x ao c w h37 hl hks hi hz
  rw [if_neg h37]
  by_cases h38 : x.k = 38
  · rw [if_pos h38]
    exact kf_38 l x ao c w h38 hl hks hi
  rw [if_neg h38]
  by_cases h39 : x.k = 39
  · rw [if_pos h39]
    exact kf_39 l x ao c w h39 hl hks hi
  rw [if_neg h39]
  by_cases h40 : x.k = 40
  · rw [if_pos h40]
    exact kf_40 l x ao c w h40 hl hks hi
  rw [if_neg h40]
  by_cases h41 : x.k = 41
  · rw [if_pos h41]
    exact kf_41 l x ao c w h41 hl hks hi
  rw [if_neg h41]
  by_cases h42 : x.k = 42
  · rw [if_pos h42]
    exact kf_42 l x ao c w h42 hl hks hi
  rw [if_neg h42]
  by_cases h43 : x.k = 43
  · rw [if_pos h43]
    exact kf_43 l x ao c w h43 hl hks hi
  rw [if_neg h43]
  by_cases h44 : x.k = 44
  · rw [if_pos h44]
    exact kf_44 l x ao c w h44 hl hks hi
  rw [if_neg h44]
  by_cases h45 : x.k = 45
  · rw [if_pos h45]
    exact kf_45 l x ao c w h45 hl hks hi
  rw [if_neg h45]
  by_cases h46 : x.k = 46
  · rw [if_pos h46]
    by_cases hz : x.ks.length = 0
    · rw [if_pos hz]
      exact kf_46_A l x ao c w h46 hl hks hi hz
    · rw [if_neg hz]
      cases hq : kAre l (x.ks.take 1) [140667696185344]
      · exact kf_46_B l x ao c w h46 hl hks hi ⟨hz, hq⟩
      · rw [Bool.true_and]
        exact kf_46_C l x ao c w h46 hl hks hi ⟨hz, hq⟩
  rw [if_neg h46]
  by_cases h47 : x.k = 47
  · rw [if_pos h47]
    exact kf_47 l x ao c w h47 hl hks hi
  rw [if_neg h47]
  by_cases h50 : x.k = 50
  · rw [if_pos h50]
    exact kf_50 l x ao c w h50 hl hks hi
  rw [if_neg h50]
  by_cases h51 : x.k = 51
  · rw [if_pos h51]
    exact kf_51 l x ao c w h51 hl hks hi
  rw [if_neg h51]
  by_cases h52 : x.k = 52
  · rw [if_pos h52]
    exact kf_52 l x ao c w h52 hl hks hi
  rw [if_neg h52]
  by_cases h53 : x.k = 53
  · rw [if_pos h53]
    exact kf_53 l x ao c w h53 hl hks hi
  rw [if_neg h53]
  by_cases h54 : x.k = 54
  · rw [if_pos h54]
    by_cases hz : x.ks.length = 0
    · rw [if_pos hz]
      exact kf_54_e l x ao c w h54 hl hks hi hz
    · rw [if_neg hz]
      exact kf_54_n l x ao c w h54 hl hks hi hz
  rw [if_neg h54]
  exact kf_no l x ao c w h1 h2 h3 h4 h5 h6 h7 h10 h11 h12 h13 h14 h15 h16 h20 h21 h22 h23 h24 h25 h26 h27 h30 h31 h32 h33 h34 h35 h36 h37 h38 h39 h40 h41 h42 h43 h44 h45 h46 h47 h50 h51 h52 h53 h54 hl hks hi
end Go.Proofs.YtkkmeogehapjoaaGreatDoor
