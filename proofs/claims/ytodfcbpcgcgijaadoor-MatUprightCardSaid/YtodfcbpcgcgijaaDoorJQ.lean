import Derived.Test.YtodfcbpcgcgijaaDoorJF
import Derived.Test.YtodfcbpcgcgijaaDoorJK
import Derived.Test.YtodfcbpcgcgijaaDoorJN
import Derived.Deep.RegionHeld3
/- Vectors, in the document's answers. -/
namespace Go.Proofs.YtodfcbpcgcgijaaDoor
set_option maxRecDepth 100000
open Go.RowKit
set_option linter.unusedVariables false
attribute [local go_sem] cell_re eqW_self eqV_self
attribute [local go_sem ↓] run_eqlW run_neqW run_eqlV

set_option maxRecDepth 100000 in
set_option maxHeartbeats 2000000 in
theorem ref6Product (a b : Int) (ha : Half a) (hb : Half b) (w : World) :
    Calls Tryd.prog 39 #[.int .i64 a, .int .i64 b] w fun e w' => e = .returned (W (prod a b)) ∧ Below w.heap.size w w' := by
  have d1 := Lib.hid (fun W1 : World => refMul a b ha hb W1)
  have d2 := Lib.hid (fun W1 : World => refNear (a * b) 32 (fits_mul ha hb) (by unfold Half; omega) W1)
  show Calls _ _ _ w fun e w' => e = .returned (W (near (a * b) 32)) ∧ Below w.heap.size w w'
  obtain ⟨p, hp⟩ : ∃ p, Hid (a * b = p) := ⟨_, rfl⟩
  rw [hp.out] at d1 d2 ⊢
  obtain ⟨q, hq⟩ : ∃ q, Hid (near p 32 = q) := ⟨_, rfl⟩
  rw [hq.out] at d2 ⊢
  have hR : Holds (w.alloc (.cells #[.int .i64 0, .int .u64 0] 58)) w.heap.size 0 := by
    have := Holds.new w 0 58
    rw [show hi 0 = 0 by decide, show lo 0 = 0 by decide] at this
    exact this
  have hB : Below w.heap.size w (w.alloc (.cells #[.int .i64 0, .int .u64 0] 58)) := by go_grown
  clear ha hb
  go_enter Tryd.func39, Tryd.ntmps39
  go_wp2_with fail
  refine (d1.out _).mono ?_
  rintro e w1 ⟨rfl, hb1⟩
  replace hR := hR.call hb1
  replace hB := below_then hB hb1
  clear hb1
  go_wp2_with fail
  refine (d2.out _).mono ?_
  rintro e w2 ⟨rfl, hb2⟩
  replace hR := hR.call hb2
  replace hB := below_then hB hb2
  clear hb2
  obtain ⟨yl, y0, y1, y2, y3⟩ := hR
  go_wp2
  refine bodyPost_ret (by simp [results, Tryd.results39, go_sem, y0, y1]; try rfl) rfl ?_
  exact ⟨rfl, below_put hB (Nat.le_refl _) _⟩

set_option maxRecDepth 100000 in
set_option maxHeartbeats 2000000 in
theorem ref6Clip (a : Int) (ha : Fits a) (w : World) :
    Calls Tryd.prog 37 #[W a] w fun e w' => e = .returned (sat a) ∧ Below w.heap.size w w' := by
  go_enter Tryd.func37, Tryd.ntmps37
  go_wp2_with (first | (go_at_call 61; refine (chain (w0 := w) (by go_grown) (by first | with_reducible exact refClip a ha _)).mono ?_; rintro e w' ⟨rfl, ht⟩; have hs := ht.size))
  go_ret2
  exact ⟨rfl, by go_grown⟩

set_option maxRecDepth 100000 in
set_option maxHeartbeats 2000000 in
theorem ref6Dot (a b c x y z : Int) (ha : Half a) (hb : Half b) (hc : Half c) (hx : Half x) (hy : Half y) (hz : Half z) (w : World) :
    Calls Tryd.prog 25 #[V a b c, V x y z] w fun e w' => e = .returned (sat (dot a b c x y z)) ∧ Below w.heap.size w w' := by
  have d1 := Lib.hid (fun W1 : World => ref6Product a x ha hx W1)
  have d2 := Lib.hid (fun W1 : World => ref6Product b y hb hy W1)
  have d3 := Lib.hid (fun W1 : World => ref6Product c z hc hz W1)
  have d7 := Lib.hid (fun W1 : World => ref6Clip (dot a b c x y z) (dot_fits ha hb hc hx hy hz) W1)
  unfold dot at d7 ⊢
  obtain ⟨p, hp⟩ : ∃ p, Hid (prod a x = p) := ⟨_, rfl⟩
  obtain ⟨q, hq⟩ : ∃ q, Hid (prod b y = q) := ⟨_, rfl⟩
  obtain ⟨r, hr⟩ : ∃ r, Hid (prod c z = r) := ⟨_, rfl⟩
  rw [hp.out] at d1
  rw [hq.out] at d2
  rw [hr.out] at d3
  rw [hp.out, hq.out, hr.out] at d7 ⊢
  clear ha hb hc hx hy hz hp hq hr
  have d5 := Lib.hid (fun W1 : World => refAdd p q W1)
  have d6 := Lib.hid (fun W1 : World => refAdd (p + q) r W1)
  have hO : Below w.heap.size w ((w.alloc (.cells #[.int .i64 a, .int .i64 b, .int .i64 c] 24)).alloc (.cells #[.int .i64 x, .int .i64 y, .int .i64 z] 24)) := by go_grown
  go_enter Tryd.func25, Tryd.ntmps25
  go_wp2_with fail
  refine wp_region_quiet_below (by kernel_rfl) (by kernel_rfl) ?_
  repeat (go_big_quiet_step (first | (go_at_call 39; first | with_reducible exact Calls.regrown_of (d1.out _) | with_reducible exact Calls.regrown_of (d2.out _) | with_reducible exact Calls.regrown_of (d3.out _)) | (go_at_call 38; first | with_reducible exact Calls.regrown_of (d5.out _) | with_reducible exact Calls.regrown_of (d6.out _)) | (go_at_call 37; first | with_reducible exact Calls.regrown_of (d7.out _))))
  refine wpQuiet_nil ?_
  intro wq hwq
  have hbq := below_of_re hwq
  clear hwq
  go_wp2
  go_ret2
  exact ⟨rfl, below_then hO hbq⟩

end Go.Proofs.YtodfcbpcgcgijaaDoor

/- The length, the greatest axis, and the vector of length One, in the document's answers. -/
namespace Go.Proofs.YtodfcbpcgcgijaaDoor
set_option maxRecDepth 100000
open Go.RowKit
set_option linter.unusedVariables false
attribute [local go_sem] cell_re eqW_self eqV_self
attribute [local go_sem ↓] run_eqlW run_neqW run_eqlV


theorem hi_big {v : Int} (h0 : 170141183460469231731687303715884105728 ≤ v) (h1 : v < 340282366920938463463374607431768211456) : hi v < 0 := by unfold hi; omega
theorem hi_small {v : Int} (h0 : 0 ≤ v) (h1 : v < 170141183460469231731687303715884105728) : 0 ≤ hi v := by unfold hi; omega
end Go.Proofs.YtodfcbpcgcgijaaDoor

/- Sums, differences and scaled vectors, in the document's answers. -/
namespace Go.Proofs.YtodfcbpcgcgijaaDoor
set_option maxRecDepth 100000
open Go.RowKit
set_option linter.unusedVariables false
attribute [local go_sem] cell_re eqW_self eqV_self
attribute [local go_sem ↓] run_eqlW run_neqW run_eqlV

end Go.Proofs.YtodfcbpcgcgijaaDoor

/- The length, the greatest axis, and the vector of length One, in the document's answers. -/
namespace Go.Proofs.YtodfcbpcgcgijaaDoor
set_option maxRecDepth 100000
open Go.RowKit
set_option linter.unusedVariables false
attribute [local go_sem] cell_re eqW_self eqV_self
attribute [local go_sem ↓] run_eqlW run_neqW run_eqlV

end Go.Proofs.YtodfcbpcgcgijaaDoor
