/- What a row that lists the table of package hash gives its walk; the chapter's example. -/
import Derived.Test.YtdbmkelcgfmclaaDoorRows
import Derived.Test.YtdbmkelcgfmclaaDoorLawK
import Derived.Test.YtdbmkelcgfmclaaDoorMacH
import Derived.Test.YtdbmkelcgfmclaaDoorMacF
import Derived.Test.YtdbmkelcgfmclaaDoorHasEq
import Derived.Deep.RegionHeld3
import Derived.Deep.DeepCutAuto
import Derived.Deep.Matrix
import Derived.Lib.LaidTab
import Derived.Lib.SlBytesConst
import Derived.LaidMore
import Derived.MakeChecks
import Derived.LaidHandle
namespace Go.Proofs.YtdbmkelcgfmclaaDoor
set_option maxRecDepth 100000
open Go.RowKit
set_option linter.unusedVariables false
set_option linter.unusedSimpArgs false
attribute [local go_sem] cell_re

/-- What the rows list. -/
def laidT : List (String × DataW Unit) := [("pelorus/hash.table", Rows.laid_pelorus_hash_table)]
theorem door_met (os : Os) (args : Array Value) : laidMetH Tryd.prog laidT ((World.doorLaid Tryd.prog 400 os).forCall (fun _ _ => 0) ⟨#[], args, []⟩).memory :=
  laidMetH_of_parts3 (fuel := 8) (laidMet_of_run' 8 (by kernel_rfl) (by kernel_rfl)) (by kernel_rfl) (by kernel_rfl)
theorem gSteps : Tryd.prog.globalNamed "pelorus/hash.table" = some 0 := by kernel_rfl
theorem tSteps : (Tryd.prog.globals[0]?).map (·.type) = some 74 := by kernel_rfl
theorem steps_of_laid {W : World} (h : laidMetH Tryd.prog laidT W) : Steps W := by
  rw [MakeChecks.laidMetH_plain _ _ _ (by kernel_rfl)] at h
  have h' : laidMet Tryd.prog [("pelorus/hash.table", Lib.tabData .u32 tableL)] W := h
  have ht := Lib.tabIs_of_head gSteps tSteps Tryd.underlying74 Tryd.underlying58 (by kernel_rfl) (by kernel_rfl) h'
  unfold Lib.TabIs World.var? at ht
  rw [gSteps] at ht
  simp only [Option.bind_some] at ht
  split at ht
  · rename_i cs t fr hc
    have e := Option.some.inj ht
    subst e
    exact ⟨t, fr, hc⟩
  · cases ht
theorem cell_marked (w : World) (C : Array Value) (e : TypeId) (fr : Nat × Nat) (j : Nat) : (w.alloc (.cells C e fr)).cell? ⟨w.heap.size, j, none⟩ = C[j]? :=
  cell_of_row _ _ _ C e fr (by show (w.heap.push _)[w.heap.size]? = _; simp)
section
variable {P : Program} {ops : Array Oper} {Q : Exit → Act → World → Prop} {a : Act} {w : World} {rest : List Oper} {o : Oper}
/-- An operation behind a guard that lets it come up. -/
theorem wpList_wanted (hw : Region.wanted o (yielded ops a.tmps) = true) (h : ∀ K : Act → World → Prop, (∀ a w, wpList P ops Q rest a w → K a w) → o.wp P a w K Q) : wpList P ops Q (o :: rest) a w :=
  wpList_step fun K hK => by simp only [hw, if_true]; exact h K hK
/-- The walk where an array is read whole behind a guard. -/
theorem walk_readG (hw : Region.wanted o (yielded ops a.tmps) = true) (T : TypeId) (x : Operand) (ho : o.op = .load T x) {k : IntKind} {zs : List Int} {g : Nat} (hA : Arr k w g zs) (hx : a.eval x = .pointer (some ⟨g, 0, none⟩))
    (n : Nat) (E : TypeId) (hu : P.underlying T = some (.array n E)) (hi : (P.info? T).map (·.size) = some n) (hn : zs.length = n) (X : Array Value) (hX : Hid ((ints k zs).toArray = X))
    (h : wpList P ops Q rest (a.put o.dst (.agg X)) w) : wpList P ops Q (o :: rest) a w :=
  wpList_wanted hw fun _ hK => wp_load_mid T x ho g 0 hx (ints k zs) _ hA.range hu rfl (by rw [hi, ints, List.length_map, hn]) (by rw [hX.out]; exact hK _ _ h)
end
/-- A key, bytes, their tag. -/
def key1 : List Int := 1 :: List.replicate 31 0
theorem key1_byted : Byted key1 := fun x hx => by
  rcases List.mem_cons.mp hx with rfl | hx
  · omega
  · obtain ⟨-, rfl⟩ := List.mem_replicate.mp hx; omega
theorem zero_not_right : List.replicate 16 0 ≠ tagL key1 [5] := by decide +kernel
theorem byted5 : ∀ x ∈ ([[5]] : List (List Int)), Byted x := fun x hx => by
  obtain rfl := List.mem_singleton.mp hx
  intro y hy
  obtain rfl := List.mem_singleton.mp hy
  omega
theorem five_below (W : World) : Below W.heap.size W ((W.alloc (.cells #[.int .u8 5] 5)).alloc (.cells #[.slice (some ⟨W.heap.size, 0, none⟩) 1 1] 22)) := by go_grown
theorem five_parts (W : World) : Parts ((W.alloc (.cells #[.int .u8 5] 5)).alloc (.cells #[.slice (some ⟨W.heap.size, 0, none⟩) 1 1] 22)) (some ⟨W.heap.size + 1, 0, none⟩) [[5]] := by
  have h5 := Mine.lit (k := .u8) (e := 5) (B := W.heap.size) W [5] #[.int .u8 5] 1 rfl rfl (Nat.le_refl _) (by unfold maxLen; omega)
  have := Parts.lit (w := W.alloc (.cells #[.int .u8 5] 5)) [.slice (some ⟨W.heap.size, 0, none⟩) 1 1] #[.slice (some ⟨W.heap.size, 0, none⟩) 1 1] 22 rfl [[5]] (fun j hj => by
    obtain rfl : j = 0 := (by simpa using hj)
    exact ⟨_, rfl, h5.at_.part rfl (Nat.le_refl _) (byted5 _ (by simp))⟩)
  rw [World.size_alloc] at this
  exact this
set_option maxRecDepth 200000 in
set_option maxHeartbeats 8000000 in
theorem works (w : World) (hT : Steps w) : Calls Tryd.prog 14 #[] w fun e w' => e = .returned (.bool true) ∧ Below w.heap.size w w' := by
  have hT0 := Lib.hid hT
  have dT := Lib.hid (fun (W : World) (h : Below w.heap.size w W) => macTag key1 key1_byted rfl #[.int .u8 1, .int .u8 0, .int .u8 0, .int .u8 0, .int .u8 0, .int .u8 0, .int .u8 0, .int .u8 0, .int .u8 0, .int .u8 0, .int .u8 0, .int .u8 0, .int .u8 0, .int .u8 0, .int .u8 0, .int .u8 0, .int .u8 0, .int .u8 0, .int .u8 0, .int .u8 0, .int .u8 0, .int .u8 0, .int .u8 0, .int .u8 0, .int .u8 0, .int .u8 0, .int .u8 0, .int .u8 0, .int .u8 0, .int .u8 0, .int .u8 0, .int .u8 0] (Lib.hid rfl) [[5]] byted5 (by decide) (some ⟨W.heap.size + 1, 0, none⟩) 1 1 rfl (by decide) (fun e => by cases e) ((W.alloc (.cells #[.int .u8 5] 5)).alloc (.cells #[.slice (some ⟨W.heap.size, 0, none⟩) 1 1] 22)) (hT0.out.call (below_then h (five_below W))) (five_parts W))
  have dR := Lib.hid (fun (t : List Int) (htb : Byted t) (htl : t.length = 16) (T : Array Value) (hTa : Hid ((ints .u8 t).toArray = T)) (W : World) (h : Below w.heap.size w W) => macRight key1 key1_byted rfl #[.int .u8 1, .int .u8 0, .int .u8 0, .int .u8 0, .int .u8 0, .int .u8 0, .int .u8 0, .int .u8 0, .int .u8 0, .int .u8 0, .int .u8 0, .int .u8 0, .int .u8 0, .int .u8 0, .int .u8 0, .int .u8 0, .int .u8 0, .int .u8 0, .int .u8 0, .int .u8 0, .int .u8 0, .int .u8 0, .int .u8 0, .int .u8 0, .int .u8 0, .int .u8 0, .int .u8 0, .int .u8 0, .int .u8 0, .int .u8 0, .int .u8 0, .int .u8 0] (Lib.hid rfl) t htb htl T hTa [[5]] byted5 (by decide) (some ⟨W.heap.size + 1, 0, none⟩) 1 1 rfl (by decide) (fun e => by cases e) ((W.alloc (.cells #[.int .u8 5] 5)).alloc (.cells #[.slice (some ⟨W.heap.size, 0, none⟩) 1 1] 22)) (hT0.out.call (below_then h (five_below W))) (five_parts W))
  have hfl : ([[5]] : List (List Int)).flatten = [5] := rfl
  rw [hfl] at dT dR
  have hb1 := tagL_byted key1 [5]
  have hz := zero_not_right
  have hDl : Hid ((tagL key1 [5]).length = 16) := Lib.hid rfl
  obtain ⟨D, hD⟩ : ∃ D, Hid (tagL key1 [5] = D) := ⟨_, Lib.hid rfl⟩
  rw [hD.out] at dT dR hb1 hz hDl
  obtain ⟨Y, hY⟩ : ∃ Y, Hid ((ints .u8 D).toArray = Y) := ⟨_, rfl⟩
  rw [hY.out] at dT
  have dR1 := Lib.hid (fun W h => dR.out D hb1 hDl.out Y hY W h)
  have dR2 := Lib.hid (fun W h => dR.out (List.replicate 16 0) (replicate_byted 16) rfl #[.int .u8 0, .int .u8 0, .int .u8 0, .int .u8 0, .int .u8 0, .int .u8 0, .int .u8 0, .int .u8 0, .int .u8 0, .int .u8 0, .int .u8 0, .int .u8 0, .int .u8 0, .int .u8 0, .int .u8 0, .int .u8 0] (Lib.hid rfl) W h)
  rw [show decide (D = D) = true from decide_eq_true rfl] at dR1
  rw [show decide (List.replicate 16 0 = D) = false from decide_eq_false hz] at dR2
  have dE := Lib.hid (fun W : World => macEqual [] [] (fun _ h => by cases h) (fun _ h => by cases h) (by decide) (by decide) 0 0 none none 0 0 rfl rfl W (Or.inl rfl) (Or.inl rfl))
  rw [show decide (([] : List Int) = []) = true from rfl] at dE
  have hB0 : Below w.heap.size w w := Below.refl _ _
  clear dR hb1 hz hfl hT
  go_enter Tryd.func14, Tryd.ntmps14
  go_upto_region 2 with (first
    | (go_at_call 12; refine (dT.out w hB0).mono ?_; rintro e' w1 ⟨rfl, b1⟩; have hB1 := below_then (five_below w) b1)
    | (refine walk_arr rfl 26 rfl .u8 (List.replicate 16 0) (by kernel_rfl) ?_; intro w2 k2 b2 s2; clear s2; have hB2 := below_then hB1 b2)
    | (refine walk_store rfl 26 _ _ rfl k2 rfl Y hY rfl (by rw [hDl.out]; kernel_rfl) (by rw [hDl.out]; rfl) ?_; intro w3 k3 s3 o3; have hB3 := below_only hB2 o3 hB1.size s3; clear s3 o3))
  clear k2 b2 hB2 b1
  generalize w1.heap.size = gt at *
  try simp only [Act.put, List.setIfInBounds_toArray, List.set_cons_zero, List.set_cons_succ]
  go_wp2_with (first
    | (go_at_call 15; refine (dE.out w3).mono ?_; rintro e' w4 ⟨rfl, b4⟩; have k4 := k3.call b4; have hB4 := below_then hB3 b4)
    | (refine walk_readG (by rfl) 26 _ rfl k4 rfl 16 _ Tryd.underlying26 (by kernel_rfl) hDl.out Y hY ?_)
    | (go_at_call 13; first
        | (with_reducible refine (dR1.out w4 hB4).mono ?_; rintro e' w5 ⟨rfl, b5⟩; have hB5 := below_then hB4 (below_then (five_below w4) b5))
        | (with_reducible refine (dR2.out w5 hB5).mono ?_; rintro e' w6 ⟨rfl, b6⟩; have hB6 := below_then hB5 (below_then (five_below w5) b6))))
  go_ret
  exact ⟨rfl, hB6⟩

end Go.Proofs.YtdbmkelcgfmclaaDoor
