/- Small facts for the last step of a law: what a bool answer and memory that has only grown come to; wide numbers and integers as arguments. -/
import Derived.Test.YtmedemniopgpeaaWide
import Derived.ProofKit
import Derived.OpenShut
import Derived.Below
import Derived.ChangeSame
import Derived.Lib.SmallJoins
namespace Go.Proofs.Ytmedemniopgpeaa
open Go.ChangeShapes Go.WideShapes Go.ChangeAt Go.RowKit Go.Joins

theorem own : ownKnob Try.prog.godebug = none := by kernel_rfl

theorem half_of_wf {n : Int} (h : (Lit.int .i64 n).wf = true) : Half n := by
  simp [Lit.wf, IntKind.min, IntKind.max, IntKind.signed, IntKind.bits] at h
  exact ⟨by omega, by omega⟩
theorem word_of_wf {n : Int} (h : (Lit.int .u64 n).wf = true) : 0 ≤ n ∧ n ≤ 18446744073709551615 := by
  simp [Lit.wf, IntKind.min, IntKind.max, IntKind.signed, IntKind.bits] at h
  exact ⟨by omega, by omega⟩
theorem byte_of_wf {n : Int} (h : (Lit.int .u8 n).wf = true) : 0 ≤ n ∧ n ≤ 255 := by
  simp [Lit.wf, IntKind.min, IntKind.max, IntKind.signed, IntKind.bits] at h
  exact ⟨by omega, by omega⟩
theorem wf_hi (v : Int) : (Lit.int .i64 (hi v)).wf = true := by
  have := hi_lo v; have := hi_hi v
  simp [Lit.wf, IntKind.min, IntKind.max, IntKind.signed, IntKind.bits]; omega
theorem wf_lo (v : Int) : (Lit.int .u64 (lo v)).wf = true := by
  have := lo_lo v; have := lo_hi v
  simp [Lit.wf, IntKind.min, IntKind.max, IntKind.signed, IntKind.bits]; omega

/-- A wide number's datum. -/
abbrev dW {H : Type} (v : Int) : DataW H := .agg [.lit (.int .i64 (hi v)), .lit (.int .u64 (lo v))]

section
variable {H : Type} {enc : TypeId × Value → H} {w : World} {base : Nat} {spare : Nat → Bool} {held : Bool}
theorem open_W {r : Reach} {b0 : Nat} {v : Value} {d : DataW H} {p : List MemPlace} (hv : Value.okWide Try.prog w r b0 39 v) (h : DataW.Trod enc Try.prog w base spare held 39 v d p) :
    ∃ a : Int, Fits a ∧ v = W a ∧ d = dW a ∧ p = [] := by
  obtain ⟨c0, c1, y0, y1, m, rfl, rfl, rfl, hy0, hy1⟩ := open_agg2 Try.underlying39 (by kernel_rfl) (by kernel_rfl) hv h
  obtain ⟨x, e0, rfl, wx⟩ := DataW.trod_int Try.underlying2 hy0
  obtain ⟨y, e1, rfl, wy⟩ := DataW.trod_int Try.underlying37 hy1
  simp at e0 e1
  subst e0 e1
  obtain ⟨a, fa, rfl, rfl⟩ := of_halves (half_of_wf wx) (word_of_wf wy).1 (word_of_wf wy).2
  exact ⟨a, fa, rfl, rfl, rfl⟩
theorem shut_W (a : Int) : DataW.Trod enc Try.prog w base spare held 39 (W a) (dW a) [] :=
  shut_agg2 (y0 := (.lit (.int .i64 (hi a)), [])) (y1 := (.lit (.int .u64 (lo a)), [])) Try.underlying39 (by kernel_rfl) (by kernel_rfl) ⟨1, by simp [DataW.trod, Try.underlying2, wf_hi]⟩ ⟨1, by simp [DataW.trod, Try.underlying37, wf_lo]⟩
end

end Go.Proofs.Ytmedemniopgpeaa
