/- Small facts for the last step of a law: what a bool answer and memory that has only grown come to; wide numbers and integers as arguments. -/
import Derived.Test.YtmhehnimgkmmaaaDoorWide
import Derived.ProofKit
import Derived.OpenShut
import Derived.Below
import Derived.ChangeSame
import Derived.Lib.SmallJoins
namespace Go.Proofs.YtmhehnimgkmmaaaDoor
set_option maxRecDepth 100000
open Go.ChangeShapes Go.WideShapes Go.ChangeAt Go.RowKit Go.Joins

theorem own : ownKnob Tryd.prog.godebug = none := by kernel_rfl

theorem half_of_wf {n : Int} (h : (Lit.int .i64 n).wf = true) : Half n := by
  simp [Lit.wf, IntKind.min, IntKind.max, IntKind.signed, IntKind.bits] at h
  exact ⟨by omega, by omega⟩
theorem word_of_wf {n : Int} (h : (Lit.int .u64 n).wf = true) : 0 ≤ n ∧ n ≤ 18446744073709551615 := by
  simp [Lit.wf, IntKind.min, IntKind.max, IntKind.signed, IntKind.bits] at h
  exact ⟨by omega, by omega⟩
theorem byte_of_wf {n : Int} (h : (Lit.int .u8 n).wf = true) : 0 ≤ n ∧ n ≤ 255 := by
  simp [Lit.wf, IntKind.min, IntKind.max, IntKind.signed, IntKind.bits] at h
  exact ⟨by omega, by omega⟩
theorem wf_hi (v : Int) : (Lit.int .i64 (hi v)).wf = true := by
  have := hi_lo v; have := hi_hi v
  simp [Lit.wf, IntKind.min, IntKind.max, IntKind.signed, IntKind.bits]; omega
theorem wf_lo (v : Int) : (Lit.int .u64 (lo v)).wf = true := by
  have := lo_lo v; have := lo_hi v
  simp [Lit.wf, IntKind.min, IntKind.max, IntKind.signed, IntKind.bits]; omega

/-- A wide number's datum. -/
abbrev dW {H : Type} (v : Int) : DataW H := .agg [.lit (.int .i64 (hi v)), .lit (.int .u64 (lo v))]

section
variable {H : Type} {enc : TypeId × Value → H} {w : World} {base : Nat} {spare : Nat → Bool} {held : Bool}
end

end Go.Proofs.YtmhehnimgkmmaaaDoor
