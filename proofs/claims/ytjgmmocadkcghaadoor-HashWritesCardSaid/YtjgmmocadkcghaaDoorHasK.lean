/- A hasher made, forked, written to, looked at, in the program. -/
import Derived.Test.YtjgmmocadkcghaaDoorHasG
import Derived.Test.YtjgmmocadkcghaaDoorHasH
import Derived.Test.YtjgmmocadkcghaaDoorHasJ
import Derived.Deep.RegionHeld3
import Derived.Deep.DeepCutAuto
import Derived.IntWalk
namespace Go.Proofs.YtjgmmocadkcghaaDoor
set_option maxRecDepth 100000
open Go.RowKit
set_option linter.unusedVariables false
attribute [local go_sem] cell_re

/-- What New and Fork hand out. -/
def MadePost (l : List Int) (w : World) (e : Ending) (w' : World) : Prop := ∃ g, e = .returned (.pointer (some ⟨g, 0, none⟩)) ∧ w.heap.size ≤ g ∧ Has w' g l ∧ Below w.heap.size w w'
theorem has_nil : hlast [] = List.replicate 64 0 := rfl
/-- A hasher's cells when it is a variable just made. -/
def rawZero : List Value := .bool false :: (ints .u32 (List.replicate 8 0) ++ (ints .u8 (List.replicate 64 0) ++ [.int .i64 0]))
set_option maxRecDepth 200000 in
set_option maxHeartbeats 8000000 in
theorem hashNew (w : World) : Calls Tryd.prog 11 #[] w (MadePost [] w) := by
  have hX : (Tryd.prog.built 50 [(0, .bool true), (1, A8 first8)]).getD #[] = (rawCells (hstate []) (hlast []) 0).toArray := by kernel_rfl
  have hR := Raw.new (s := hstate []) (L := hlast []) (n := 0) w ((Tryd.prog.built 50 [(0, .bool true), (1, A8 first8)]).getD #[]) 50 hX (hlast_length [])
  have hB := (Below.refl w.heap.size w).alloc (Nat.le_refl _) (.cells ((Tryd.prog.built 50 [(0, .bool true), (1, A8 first8)]).getD #[]) 50)
  clear hX
  go_enter Tryd.func11, Tryd.ntmps11
  go_wp2_with (first
    | (refine wpList_build (o := ⟨some 2, _, _, _, _, _⟩) rfl 50 _ rfl (by kernel_rfl) ?_)
    | (refine walk_box rfl 50 _ rfl ((Tryd.prog.built 50 [(0, .bool true), (1, A8 first8)]).getD #[]) rfl ?_; intro w1 hw1; rw [hw1] at hR hB; clear hw1))
  go_ret
  exact ⟨_, rfl, Nat.le_refl _, hR, hB⟩
set_option maxRecDepth 200000 in
set_option maxHeartbeats 8000000 in
theorem hashLen (l : List Int) (g : Nat) (w : World) (hR : Has w g l) : Calls Tryd.prog 17 #[.pointer (some ⟨g, 0, none⟩)] w fun e w' => e = .returned (.int .i64 l.length) ∧ w = w' := by
  have c0 := hR.made
  have c73 := hR.len
  have d1 := Lib.hid (hashNone true g w c0)
  obtain ⟨N, hN⟩ : ∃ N, Hid (l.length = N) := ⟨_, rfl⟩
  rw [hN.out] at c73 ⊢
  go_enter Tryd.func17, Tryd.ntmps17
  go_wp2_with (go_at_call 22; refine d1.out.mono ?_; rintro e' w' ⟨rfl, rfl⟩)
  go_ret
  exact ⟨rfl, rfl⟩
set_option maxRecDepth 200000 in
set_option maxHeartbeats 8000000 in
theorem hashFork (l : List Int) (g : Nat) (w : World) (hR : Has w g l) : Calls Tryd.prog 13 #[.pointer (some ⟨g, 0, none⟩)] w (MadePost l w) := by
  have c0 := hR.made
  have d1 := Lib.hid (hashNone true g w c0)
  have hr := Lib.hid hR.whole
  have hsz : Hid ((Tryd.prog.info? 50).map (·.size) = some (rawCells (hstate l) (hlast l) l.length).length) := by show _ = _; rw [rawCells_length (hlast_length l)]; kernel_rfl
  obtain ⟨C, hC⟩ : ∃ C, Hid (rawCells (hstate l) (hlast l) l.length = C) := ⟨_, rfl⟩
  have hone : Hid (C.toArray.all (·.oneCell') = true) := by show _ = _; rw [← hC.out]; exact all_oneCell_toArray rawCells_one
  have hCl : Hid (C.length = 74) := by show _ = _; rw [← hC.out]; exact rawCells_length (hlast_length l)
  rw [hC.out] at hr hsz
  clear hR
  go_enter Tryd.func13, Tryd.ntmps13
  go_wp2_with (first
    | (go_at_call 22; refine d1.out.mono ?_; rintro e' w' ⟨rfl, rfl⟩)
    | (refine wpList_load_mid rfl 50 _ rfl g 0 rfl C _ hr.out Tryd.underlying50 rfl hsz.out ?_)
    | (refine walk_alloc rfl 50 rfl (.agg rawZero.toArray) (by kernel_rfl) rawZero.toArray rfl ?_; intro w1 hw1)
    | (refine wpList_store_mid rfl 50 _ _ rfl w.heap.size 0 C.toArray rfl rfl (fun j hj => by
          have h2 := (Raw.stored (s := hstate l) (n := l.length) w rawZero.toArray 50 rfl (hlast_length l)).free
          have h3 : j < 74 := by have := hCl.out; simp at hj; omega
          rw [← hw1]
          refine ⟨?_, by simp [go_sem]⟩
          have h4 : (rawZero[0 + j]?).isSome = true := by rw [Nat.zero_add, List.getElem?_eq_getElem (show j < rawZero.length from h3)]; rfl
          simpa [go_sem] using h4) (by rw [hsz.out]; simp) hone.out ?_; rw [List.toList_toArray, ← hC.out, ← hw1]; have hF := Raw.stored (s := hstate l) (L := hlast l) (n := l.length) w rawZero.toArray 50 rfl (hlast_length l); have hB := below_setCells ((Below.refl w.heap.size w).alloc (Nat.le_refl _) (.cells rawZero.toArray 50)) (g := w.heap.size) (Nat.le_refl _) (rawCells (hstate l) (hlast l) l.length) 0; generalize (w.alloc (.cells rawZero.toArray 50)).setCells w.heap.size 0 (rawCells (hstate l) (hlast l) l.length) = w2 at hF hB ⊢))
  go_ret
  exact ⟨_, rfl, Nat.le_refl _, hF, hB⟩
set_option maxRecDepth 200000 in
set_option maxHeartbeats 8000000 in
theorem hashWrite (l xs : List Int) (hl : Byted l) (hb : Byted xs) (hlen : l.length + xs.length ≤ 2000000000) (g : Nat) (hg0 : 0 < g) (p : Option Addr) (n c : Nat) (hp : 0 < n → ∀ a, p = some a → a.block ≠ g) (hn : n = xs.length) (hnc : n ≤ c) (w : World) (hx : At .u8 w p xs) (hT : Steps w) (hR : Has w g l) :
    Calls Tryd.prog 14 #[.pointer (some ⟨g, 0, none⟩), .slice p n c] w fun e w' => e = .returned (.int .i64 0) ∧ Has w' g (l ++ xs) ∧ Only g w w' := by
  have d1 := Lib.hid (hashNone true g w hR.made)
  have d2 := Lib.hid (hashTake l xs hl hb hlen g hg0 p n c hp hn hnc w hx hT hR)
  have c73 := hR.len
  obtain ⟨N, hN⟩ : ∃ N, Hid (l.length = N) := ⟨_, rfl⟩
  have j1 : (N : Int) ≤ 2000000000 := by rw [← hN.out]; omega
  have j2 : (n : Int) ≤ 2000000000 := by omega
  rw [hN.out] at c73
  clear hl hb hlen hp hn hnc hx hT hR
  go_enter Tryd.func14, Tryd.ntmps14
  go_wp2_with (first
    | (go_at_call 22; refine d1.out.mono ?_; rintro e' w' ⟨rfl, rfl⟩)
    | (go_at_call 23; refine d2.out.mono ?_; rintro e' w' ⟨rfl, hR2, hO2⟩))
  go_ret
  exact ⟨rfl, hR2, hO2⟩

end Go.Proofs.YtjgmmocadkcghaaDoor
