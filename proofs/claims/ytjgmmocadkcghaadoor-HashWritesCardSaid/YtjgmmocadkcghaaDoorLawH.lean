/- What a row that lists the table of package hash gives its walk; the chapter's example. -/
import Derived.Test.YtjgmmocadkcghaaDoorRows
import Derived.Test.YtjgmmocadkcghaaDoorLawK
import Derived.Test.YtjgmmocadkcghaaDoorHasM
import Derived.Deep.RegionHeld3
import Derived.Deep.DeepCutAuto
import Derived.Deep.Matrix
import Derived.Lib.LaidTab
import Derived.Lib.SlBytesConst
import Derived.LaidMore
import Derived.MakeChecks
import Derived.LaidHandle
namespace Go.Proofs.YtjgmmocadkcghaaDoor
set_option maxRecDepth 100000
open Go.RowKit
set_option linter.unusedVariables false
attribute [local go_sem] cell_re

/-- What the rows list. -/
def laidT : List (String × DataW Unit) := [("pelorus/hash.table", Rows.laid_pelorus_hash_table)]
theorem door_met (os : Os) (args : Array Value) : laidMetH Tryd.prog laidT ((World.doorLaid Tryd.prog 400 os).forCall (fun _ _ => 0) ⟨#[], args, []⟩).memory :=
  laidMetH_of_parts3 (fuel := 8) (laidMet_of_run' 8 (by kernel_rfl) (by kernel_rfl)) (by kernel_rfl) (by kernel_rfl)
theorem gSteps : Tryd.prog.globalNamed "pelorus/hash.table" = some 0 := by kernel_rfl
theorem tSteps : (Tryd.prog.globals[0]?).map (·.type) = some 63 := by kernel_rfl
theorem steps_of_laid {W : World} (h : laidMetH Tryd.prog laidT W) : Steps W := by
  rw [MakeChecks.laidMetH_plain _ _ _ (by kernel_rfl)] at h
  have h' : laidMet Tryd.prog [("pelorus/hash.table", Lib.tabData .u32 tableL)] W := h
  have ht := Lib.tabIs_of_head gSteps tSteps Tryd.underlying63 Tryd.underlying44 (by kernel_rfl) (by kernel_rfl) h'
  unfold Lib.TabIs World.var? at ht
  rw [gSteps] at ht
  simp only [Option.bind_some] at ht
  split at ht
  · rename_i cs t fr hc
    have e := Option.some.inj ht
    subst e
    exact ⟨t, fr, hc⟩
  · cases ht
theorem cell_marked (w : World) (C : Array Value) (e : TypeId) (fr : Nat × Nat) (j : Nat) : (w.alloc (.cells C e fr)).cell? ⟨w.heap.size, j, none⟩ = C[j]? :=
  cell_of_row _ _ _ C e fr (by show (w.heap.push _)[w.heap.size]? = _; simp)
/-- The digest of abc. -/
def abc : List Int := [0xba, 0x78, 0x16, 0xbf, 0x8f, 0x01, 0xcf, 0xea, 0x41, 0x41, 0x40, 0xde, 0x5d, 0xae, 0x22, 0x23, 0xb0, 0x03, 0x61, 0xa3, 0x96, 0x17, 0x7a, 0x9c, 0xb4, 0x10, 0xff, 0x61, 0xf2, 0x00, 0x15, 0xad]
theorem sha_abc : sha [97, 98, 99] = abc := by decide +kernel
theorem byted_abc (k : Nat) : Byted (joinTo [[97, 98], [99]] k) := by
  have h : ∀ x ∈ joinTo [[97, 98], [99]] k, x ∈ ([97, 98, 99] : List Int) := fun x hx => by
    unfold joinTo at hx
    rw [List.mem_flatten] at hx
    obtain ⟨y, hy, hxy⟩ := hx
    have := List.mem_of_mem_take hy
    simp only [List.mem_cons, List.not_mem_nil, or_false] at this
    rcases this with rfl | rfl <;> simp_all <;> omega
  intro x hx
  have := h x hx
  simp only [List.mem_cons, List.not_mem_nil, or_false] at this
  rcases this with rfl | rfl | rfl <;> omega
set_option maxRecDepth 200000 in
set_option maxHeartbeats 8000000 in
theorem works (w : World) (hT : Steps w) : Calls Tryd.prog 10 #[] w fun e w' => e = .returned (.bool true) ∧ Below w.heap.size w w' := by
  have hB3 : Below w.heap.size w (((w.alloc (.cells #[.int .u8 97, .int .u8 98] 5 (2, 3))).alloc (.cells #[.int .u8 99] 5 (1, 2))).alloc (.cells #[.slice (some ⟨w.heap.size, 0, none⟩) 2 2, .slice (some ⟨w.heap.size + 1, 0, none⟩) 1 1] 23)) := by go_grown
  have hP : Parts (((w.alloc (.cells #[.int .u8 97, .int .u8 98] 5 (2, 3))).alloc (.cells #[.int .u8 99] 5 (1, 2))).alloc (.cells #[.slice (some ⟨w.heap.size, 0, none⟩) 2 2, .slice (some ⟨w.heap.size + 1, 0, none⟩) 1 1] 23)) (some ⟨w.heap.size + 1 + 1, 0, none⟩) [[97, 98], [99]] := by
    refine Or.inr ⟨_, _, rfl, by simp, fun j hj => ?_⟩
    replace hj : j < 2 := hj
    have h2 : j = 0 ∨ j = 1 := by omega
    rcases h2 with rfl | rfl
    · refine ⟨.slice (some ⟨w.heap.size, 0, none⟩) 2 2, by simp [go_sem], _, _, _, rfl, rfl, Nat.le_refl _, Or.inr ⟨_, _, rfl, by simp; omega, fun i hi => ?_⟩, fun x hx => ?_⟩
      · replace hi : i < 2 := hi
        have h3 : i = 0 ∨ i = 1 := by omega
        rcases h3 with rfl | rfl <;> (simp [go_sem]; rw [cell_marked]; rfl)
      · have : x = 97 ∨ x = 98 := by simpa using hx
        omega
    · refine ⟨.slice (some ⟨w.heap.size + 1, 0, none⟩) 1 1, by simp [go_sem], _, _, _, rfl, rfl, Nat.le_refl _, Or.inr ⟨_, _, rfl, by simp, fun i hi => ?_⟩, fun x hx => ?_⟩
      · replace hi : i < 1 := hi
        obtain rfl : i = 0 := by omega
        have hm := cell_marked (w.alloc (.cells #[.int .u8 97, .int .u8 98] 5 (2, 3))) #[.int .u8 99] 5 (1, 2) 0
        rw [World.size_alloc] at hm
        simp [go_sem]
        rw [hm]
        rfl
      · have : x = 99 := by simpa using hx
        omega
  have hT3 := hT.call hB3
  have r1 : (convert 23 23 (.slice (some ⟨w.heap.size, 0, none⟩) 2 2)).run Tryd.prog (w.alloc (.cells #[.int .u8 97, .int .u8 98] 5)) = .ok (.slice (some ⟨w.heap.size, 0, none⟩) 2 2) (w.alloc (.cells #[.int .u8 97, .int .u8 98] 5 (2, 3))) := Lib.run_convert_bytes_const w 23 5 #[.int .u8 97, .int .u8 98] 2 2 Tryd.underlying23 Tryd.underlying5
  have r2 : (convert 23 23 (.slice (some ⟨w.heap.size + 1, 0, none⟩) 1 1)).run Tryd.prog ((w.alloc (.cells #[.int .u8 97, .int .u8 98] 5 (2, 3))).alloc (.cells #[.int .u8 99] 5)) = .ok (.slice (some ⟨w.heap.size + 1, 0, none⟩) 1 1) ((w.alloc (.cells #[.int .u8 97, .int .u8 98] 5 (2, 3))).alloc (.cells #[.int .u8 99] 5 (1, 2))) := by
    have := Lib.run_convert_bytes_const (P := Tryd.prog) (w.alloc (.cells #[.int .u8 97, .int .u8 98] 5 (2, 3))) 23 5 #[.int .u8 99] 1 1 Tryd.underlying23 Tryd.underlying5
    rw [World.size_alloc] at this
    exact this
  obtain ⟨Y, hY⟩ : ∃ Y, Hid ((ints .u8 abc).toArray = Y) := ⟨_, rfl⟩
  have d1 := hashOf [[97, 98], [99]] byted_abc (by decide) 2 2 rfl (by decide) _ _ hT3 hP
  rw [show ([[97, 98], [99]] : List (List Int)).flatten = [97, 98, 99] from rfl, sha_abc, hY.out] at d1
  replace d1 := Lib.hid d1
  clear hP hT3
  go_enter Tryd.func10, Tryd.ntmps10
  go_upto_region 2 with (first
    | (go_at_call 8; refine d1.out.mono ?_; rintro e' w4 ⟨rfl, hB4⟩; have hBw4 := below_then hB3 hB4)
    | (refine walk_arr (o := ⟨some 1, _, _, _, _, _⟩) rfl 27 rfl .u8 (List.replicate 32 0) (by kernel_rfl) ?_; intro w5 hA5 hB5 hs5)
    | (refine walk_store rfl 27 _ _ rfl hA5 rfl Y hY rfl (by kernel_rfl) rfl ?_; intro w6 hA6 hs6 ho6))
  have hBw6 := below_only (below_then hBw4 hB5) ho6 hBw4.size hs6
  have c0 := (show w6.cell? ⟨w4.heap.size, 0, none⟩ = some (.int .u8 186) from hA6.c 0 (by decide))
  have c1 := (show w6.cell? ⟨w4.heap.size, 1, none⟩ = some (.int .u8 120) from hA6.c 1 (by decide))
  have c2 := (show w6.cell? ⟨w4.heap.size, 30, none⟩ = some (.int .u8 21) from hA6.c 30 (by decide))
  have c3 := (show w6.cell? ⟨w4.heap.size, 31, none⟩ = some (.int .u8 173) from hA6.c 31 (by decide))
  clear d1 hB3 hB4 hBw4 hA5 hB5 hs5 hA6 hs6 ho6
  go_wp2
  go_ret
  exact ⟨rfl, hBw6⟩

end Go.Proofs.YtjgmmocadkcghaaDoor
