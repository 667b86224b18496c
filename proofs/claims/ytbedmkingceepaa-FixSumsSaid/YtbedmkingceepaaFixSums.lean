/- The sum of any numbers with a point is as the document's answer has it. -/
import Derived.Test.YtbedmkingceepaaRows
import Derived.Test.YtbedmkingceepaaFixQ
import Derived.Test.YtbedmkingceepaaRefL
import Derived.Test.YtbedmkingceepaaLawK
import Derived.WalkKit
import Derived.ProofKit
import Derived.OpenShut
namespace Go.Proofs.Ytbedmkingceepaa.fixSums
open Go.ChangeShapes Go.WideShapes Go.ChangeAt Go.RowKit
set_option linter.unusedVariables false

attribute [local go_sem] cell_re eqW_self run_fieldW
attribute [local go_sem ↓] run_eqlW run_neqW

theorem half_of (zs : List Int) (h : ∀ z ∈ zs, (Lit.int .i64 z).wf = true) (j : Nat) : Half (zs.getD j 0) := by
  by_cases hj : j < zs.length
  · rw [List.getD_eq_getElem?_getD, List.getElem?_eq_getElem hj]
    exact half_of_wf (h _ (List.getElem_mem hj))
  · rw [List.getD_eq_getElem?_getD, List.getElem?_eq_none (by omega)]
    exact ⟨by decide, by decide⟩

set_option maxRecDepth 100000 in
set_option maxHeartbeats 2000000 in
theorem walk (v : Value) (zs : List Int) (w : World) (h : IntsAt .i64 w v zs) : Calls Try.prog 5 #[v] w fun e w' => e = .returned (.bool true) ∧ Below w.heap.size w w' := by
  obtain ⟨p, cap, rfl, hcap, hmax, hwf, hc⟩ := h
  obtain ⟨n, hn⟩ : ∃ n, Hid (min zs.length 60 = n) := ⟨_, rfl⟩
  have hn60 : n ≤ 60 := by rw [← hn.out]; omega
  have hnl : n ≤ zs.length := by rw [← hn.out]; omega
  have hc1 : n = 0 ∨ ∃ g off, p = some ⟨g, off, none⟩ ∧ g < w.heap.size ∧ ∀ j, j < n → w.cell? ⟨g, off + j, none⟩ = some (.int .i64 ((fun j => zs.getD j 0) j)) := by
    rcases hc with rfl | ⟨b, off, e, hb, hc⟩
    · exact Or.inl (by simp at hnl; omega)
    · exact Or.inr ⟨b, off, e, hb, fun j hj => hc j (by omega)⟩
  have hh := half_of zs hwf
  have d1 := Lib.hid (fun (W1 : World) (hb : Below w.heap.size w W1) (c : Nat) => fixSum (fun j => zs.getD j 0) hh n hn60 p c W1 (old_list hb hc1))
  have d2 := Lib.hid (fun (W1 : World) (hb : Below w.heap.size w W1) (c : Nat) => ref2Sum (fun j => zs.getD j 0) hh n hn60 p c W1 (old_list hb hc1))
  have hl := Lib.hid (show zs.length ≤ 9223372036854775807 by unfold maxLen at hmax; omega)
  clear hc hwf hc1 hh
  go_enter Try.func5, Try.ntmps5
  go_wp2_with fail
  all_goals
    first
      | (have hn2 : n = 60 := by have := hn.out; omega)
      | (have hn2 : n = zs.length := by have := hn.out; omega)
    subst hn2
    refine (d1.out _ (Below.refl _ _) _).mono ?_
    rintro e w1 ⟨rfl, hb1⟩
    go_wp2_with fail
    refine (d2.out _ hb1 _).mono ?_
    rintro e w2 ⟨rfl, hb2⟩
    have hB := below_then hb1 hb2
    clear hb1 hb2
    go_wp2_with fail
    refine (works _).mono ?_
    rintro e w3 ⟨rfl, hb3⟩
    go_wp2
    go_ret
    exact ⟨rfl, below_then hB hb3⟩


set_option maxRecDepth 100000 in
theorem lifted (os : Os) (started : os.Started) (H : Type) (enc : TypeId × Value → H) :
    ReturnsInHanded {} Try.checked os 5 .any (Rows.fixSumsSpec.pre6 enc Try.prog Try.f5 Rows.fixSumsRow.domain false) (Rows.fixSumsSpec.post enc Try.prog Try.f5 false true false false) := by
  refine returnsInHanded_of_change (C := Try.checked) own started (by kernel_rfl) Try.func5
    (ChangeSpec.witness6 (enc := enc) (C := Try.checked) false ⟨#[], #[.slice none 0 0], []⟩ 8 (by kernel_rfl) (by kernel_rfl) (by kernel_rfl) (by kernel_rfl)) ?_
  intro W1 base args ds gs before hval0 hW hcnd _
  have hval : ∀ (j : Nat) t v, Try.f5.params[j]? = some t → args[j]? = some v → Value.okWide Try.prog W1 .any base t v := hval0
  have hW' := hW
  obtain ⟨p, q, hA0, hV, rfl, hfz, hnd⟩ := hW
  have hA : DataW.TrodAll enc Try.prog W1 0 (fun _ => true) true Try.f5.params.toList args.toList ds p := hA0
  rw [Try.params5] at hA hval
  obtain ⟨v0, vs0, d0, ds0, p0, q0, hargs, rfl, rfl, h0, r0⟩ := trodAll_cons hA
  obtain ⟨rfl, rfl, rfl⟩ := trodAll_nil r0
  obtain rfl : args = #[v0] := by cases args; simp_all
  obtain ⟨rfl, rfl⟩ := trodVars_none hV
  obtain ⟨l, w0⟩ := open_list (k := .i64) Try.underlying30 Try.underlying22 (by kernel_rfl) (hval 0 30 v0 rfl rfl) h0
  clear hA0 hval0 hval hA
  refine (walk v0 l W1 w0).mono fun e W' ⟨he, hg⟩ => ?_
  subst he
  exact ⟨_, rfl, law_post laidOut (by kernel_rfl) rfl (by kernel_rfl) Try.underlying4 hW' rfl hg⟩

theorem over : Rows.fixSumsRow.holds Try.pinned (OpenSpec.ofChange Rows.fixSumsSpec) :=
  OpenClaim.holds_of_wide 5 Try.f5 rfl rfl rfl rfl rfl rfl rfl ⟨rfl, rfl, rfl, rfl, rfl⟩ rfl rfl rfl rfl rfl (by kernel_rfl) Try.func5 (by kernel_rfl)
    (of_decide_eq_true (by kernel_rfl)) (by unfold Func.isWrapper; first | (rw [if_pos (by decide +kernel)]; kernel_rfl) | (rw [if_neg (by decide +kernel)]; exact ⟨rfl, rfl⟩))
    (fun os started H enc _ => lifted os started H enc)

theorem proved : Rows.FixSumsSaid :=
  over
end Go.Proofs.Ytbedmkingceepaa.fixSums
