/- A hasher made, forked, written to, looked at, in the program. -/
import Derived.Test.YtmhehnimgkmmaaaDoorHasG
import Derived.Test.YtmhehnimgkmmaaaDoorHasH
import Derived.Test.YtmhehnimgkmmaaaDoorHasJ
import Derived.Deep.RegionHeld3
import Derived.Deep.DeepCutAuto
import Derived.IntWalk
namespace Go.Proofs.YtmhehnimgkmmaaaDoor
set_option maxRecDepth 100000
open Go.RowKit
set_option linter.unusedVariables false
attribute [local go_sem] cell_re

/-- What New and Fork hand out. -/
def MadePost (l : List Int) (w : World) (e : Ending) (w' : World) : Prop := ∃ g, e = .returned (.pointer (some ⟨g, 0, none⟩)) ∧ w.heap.size ≤ g ∧ Has w' g l ∧ Below w.heap.size w w'
theorem has_nil : hlast [] = List.replicate 64 0 := rfl
/-- A hasher's cells when it is a variable just made. -/
def rawZero : List Value := .bool false :: (ints .u32 (List.replicate 8 0) ++ (ints .u8 (List.replicate 64 0) ++ [.int .i64 0]))
set_option maxRecDepth 200000 in
set_option maxHeartbeats 8000000 in
theorem hashNew (w : World) : Calls Tryd.prog 29 #[] w (MadePost [] w) := by
  have hX : (Tryd.prog.built 70 [(0, .bool true), (1, A8 first8)]).getD #[] = (rawCells (hstate []) (hlast []) 0).toArray := by kernel_rfl
  have hR := Raw.new (s := hstate []) (L := hlast []) (n := 0) w ((Tryd.prog.built 70 [(0, .bool true), (1, A8 first8)]).getD #[]) 70 hX (hlast_length [])
  have hB := (Below.refl w.heap.size w).alloc (Nat.le_refl _) (.cells ((Tryd.prog.built 70 [(0, .bool true), (1, A8 first8)]).getD #[]) 70)
  clear hX
  go_enter Tryd.func29, Tryd.ntmps29
  go_wp2_with (first
    | (refine wpList_build (o := ⟨some 2, _, _, _, _, _⟩) rfl 70 _ rfl (by kernel_rfl) ?_)
    | (refine walk_box rfl 70 _ rfl ((Tryd.prog.built 70 [(0, .bool true), (1, A8 first8)]).getD #[]) rfl ?_; intro w1 hw1; rw [hw1] at hR hB; clear hw1))
  go_ret
  exact ⟨_, rfl, Nat.le_refl _, hR, hB⟩
set_option maxRecDepth 200000 in
set_option maxHeartbeats 8000000 in
theorem hashWrite (l xs : List Int) (hl : Byted l) (hb : Byted xs) (hlen : l.length + xs.length ≤ 2000000000) (g : Nat) (hg0 : 0 < g) (p : Option Addr) (n c : Nat) (hp : 0 < n → ∀ a, p = some a → a.block ≠ g) (hn : n = xs.length) (hnc : n ≤ c) (w : World) (hx : At .u8 w p xs) (hT : Steps w) (hR : Has w g l) :
    Calls Tryd.prog 30 #[.pointer (some ⟨g, 0, none⟩), .slice p n c] w fun e w' => e = .returned (.int .i64 0) ∧ Has w' g (l ++ xs) ∧ Only g w w' := by
  have d1 := Lib.hid (hashNone true g w hR.made)
  have d2 := Lib.hid (hashTake l xs hl hb hlen g hg0 p n c hp hn hnc w hx hT hR)
  have c73 := hR.len
  obtain ⟨N, hN⟩ : ∃ N, Hid (l.length = N) := ⟨_, rfl⟩
  have j1 : (N : Int) ≤ 2000000000 := by rw [← hN.out]; omega
  have j2 : (n : Int) ≤ 2000000000 := by omega
  rw [hN.out] at c73
  clear hl hb hlen hp hn hnc hx hT hR
  go_enter Tryd.func30, Tryd.ntmps30
  go_wp2_with (first
    | (go_at_call 35; refine d1.out.mono ?_; rintro e' w' ⟨rfl, rfl⟩)
    | (go_at_call 36; refine d2.out.mono ?_; rintro e' w' ⟨rfl, hR2, hO2⟩))
  go_ret
  exact ⟨rfl, hR2, hO2⟩

end Go.Proofs.YtmhehnimgkmmaaaDoor
