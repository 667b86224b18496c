/- What the document's answers on numbers with a point are, each for every number that its parameters can hold. -/
import Derived.Test.YtlpajjhkiaobbaaRefI
import Derived.Test.YtlpajjhkiaobbaaRefJ
import Derived.Test.YtlpajjhkiaobbaaRefE
import Derived.Test.YtlpajjhkiaobbaaRefD
import Derived.Test.YtlpajjhkiaobbaaFixMath
import Derived.Laws.MakeOwn
namespace Go.Proofs.Ytlpajjhkiaobbaa
open Go.RowKit
attribute [local go_sem] cell_re eqW_self
attribute [local go_sem ↓] run_eqlW run_neqW

set_option maxHeartbeats 1000000 in
theorem ref2Clip (a : Int) (ha : Fits a) (w : World) :
    Calls Try.prog 53 #[W a] w fun e w' => e = .returned (sat a) ∧ Below w.heap.size w w' := by
  go_enter Try.func53, Try.ntmps53
  go_wp2_with (first | (go_at_call 32; refine (chain (w0 := w) (by go_grown) (by first | with_reducible exact refClip a ha _)).mono ?_; rintro e w' ⟨rfl, ht⟩; have hs := ht.size))
  go_ret2
  exact ⟨rfl, by go_grown⟩

set_option maxHeartbeats 1000000 in
theorem ref2Mul (a b : Int) (ha : Half a) (hb : Half b) (w : World) :
    Calls Try.prog 38 #[.int .i64 a, .int .i64 b] w fun e w' => e = .returned (sat (near (a * b) 32)) ∧ Below w.heap.size w w' := by
  have f1 := Lib.hid ha
  have f2 := Lib.hid hb
  clear ha hb
  go_enter Try.func38, Try.ntmps38
  go_wp2_with (first | (go_at_call 36; refine (chain (w0 := w) (by go_grown) (by first | with_reducible exact refMul a b f1.out f2.out _)).mono ?_; rintro e w' ⟨rfl, ht⟩; have hs := ht.size) | (go_at_call 33; refine (chain (w0 := w) (by go_grown) (by first | with_reducible exact refNear (a * b) 32 (fits_mul f1.out f2.out) (by unfold Half; omega) _)).mono ?_; rintro e w' ⟨rfl, ht⟩; have hs := ht.size) | (go_at_call 53; refine (chain (w0 := w) (by go_grown) (by first | with_reducible exact ref2Clip _ (fits_near f1.out f2.out) _)).mono ?_; rintro e w' ⟨rfl, ht⟩; have hs := ht.size))
  go_ret2
  exact ⟨rfl, by go_grown⟩

end Go.Proofs.Ytlpajjhkiaobbaa
