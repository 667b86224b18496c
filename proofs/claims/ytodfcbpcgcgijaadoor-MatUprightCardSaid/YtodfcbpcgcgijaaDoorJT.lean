import Derived.Test.YtodfcbpcgcgijaaDoorJK
import Derived.Test.YtodfcbpcgcgijaaDoorJA
import Derived.Test.YtodfcbpcgcgijaaDoorJG
import Derived.Test.YtodfcbpcgcgijaaDoorJH
import Derived.Deep.RegionHeld3
import Derived.Deep.DeepCutAuto
/- Matrices, in the document's answers: what turns about an axis; the heading. -/
namespace Go.Proofs.YtodfcbpcgcgijaaDoor
set_option maxRecDepth 100000
open Go.RowKit
set_option linter.unusedVariables false
attribute [local go_sem] cell_re eqW_self eqV_self eqM_self
attribute [local go_sem ↓] run_eqlW run_neqW run_eqlV run_eqlM

/-- What About answers, and whether it does. -/
def aboutOf (k c s : Int) : Value := if k = 0 then .tuple #[M9 4294967296 0 0 0 c (-s) 0 s c, .int .i64 0] else if k = 1 then .tuple #[M9 c 0 s 0 4294967296 0 (-s) 0 c, .int .i64 0] else if k = 2 then .tuple #[M9 c (-s) 0 s c 0 0 0 4294967296, .int .i64 0] else .tuple #[M9 0 0 0 0 0 0 0 0 0, .int .i64 2]
set_option maxRecDepth 100000 in
set_option maxHeartbeats 2000000 in
theorem ref7About (k a : Int) (hk : Half k) (ha : Word32 a) (w : World) :
    Calls Tryd.prog 19 #[.int .i64 k, .int .u32 a] w fun e' w' => e' = .returned (aboutOf k (cosA a) (sinA a)) ∧ Below w.heap.size w w' := by
  have d1 := Lib.hid (fun W1 : World => ref5Both a ha W1)
  obtain ⟨⟨c0, c1⟩, ⟨s0, s1⟩⟩ := cosA_bd a ha
  obtain ⟨c, hc⟩ : ∃ c, Hid (cosA a = c) := ⟨_, rfl⟩
  obtain ⟨s, hs⟩ : ∃ c, Hid (sinA a = c) := ⟨_, rfl⟩
  rw [hc.out] at d1 c0 c1 ⊢
  rw [hs.out] at d1 s0 s1 ⊢
  clear hc hs
  obtain ⟨a0, a1⟩ := ha
  obtain ⟨k0, k1⟩ := hk
  have gO : w.heap.size ≤ w.heap.size := Nat.le_refl _
  unfold aboutOf
  by_cases h0 : k = 0
  · subst h0
    rw [if_pos rfl]
    have hR := Nine.new w 0 0 0 0 0 0 0 0 0 26
    have hO : Below w.heap.size w (w.alloc (.cells #[.int .i64 0, .int .i64 0, .int .i64 0, .int .i64 0, .int .i64 0, .int .i64 0, .int .i64 0, .int .i64 0, .int .i64 0] 26)) := by go_grown
    go_enter Tryd.func19, Tryd.ntmps19
    go_wp2_with fail
    refine (d1.out _).mono ?_
    rintro e' w1 ⟨rfl, hb1⟩
    replace hR := hR.call hb1
    replace hO := below_then hO hb1
    clear hb1
    obtain ⟨rl, r0, r1, r2, r3, r4, r5, r6, r7, r8, r9, r10, r11, r12, r13, r14, r15, r16, r17⟩ := hR
    go_wp2
    refine bodyPost_ret (by simp [results, Tryd.results19, go_sem, r0, r1, r2, r3, r4, r5, r6, r7, r8]; try rfl) rfl ?_
    exact ⟨rfl, below_putM hO gO _ _ _ _ _ _ _ _ _⟩
  by_cases h1 : k = 1
  · subst h1
    rw [if_neg (by decide), if_pos rfl]
    clear h0
    have hR := Nine.new w 0 0 0 0 0 0 0 0 0 26
    have hO : Below w.heap.size w (w.alloc (.cells #[.int .i64 0, .int .i64 0, .int .i64 0, .int .i64 0, .int .i64 0, .int .i64 0, .int .i64 0, .int .i64 0, .int .i64 0] 26)) := by go_grown
    go_enter Tryd.func19, Tryd.ntmps19
    go_wp2_with fail
    refine (d1.out _).mono ?_
    rintro e' w1 ⟨rfl, hb1⟩
    replace hR := hR.call hb1
    replace hO := below_then hO hb1
    clear hb1
    obtain ⟨rl, r0, r1, r2, r3, r4, r5, r6, r7, r8, r9, r10, r11, r12, r13, r14, r15, r16, r17⟩ := hR
    go_wp2
    refine bodyPost_ret (by simp [results, Tryd.results19, go_sem, r0, r1, r2, r3, r4, r5, r6, r7, r8]; try rfl) rfl ?_
    exact ⟨rfl, below_putM hO gO _ _ _ _ _ _ _ _ _⟩
  by_cases h2 : k = 2
  · subst h2
    rw [if_neg (by decide), if_neg (by decide), if_pos rfl]
    clear h0 h1
    have hR := Nine.new w 0 0 0 0 0 0 0 0 0 26
    have hO : Below w.heap.size w (w.alloc (.cells #[.int .i64 0, .int .i64 0, .int .i64 0, .int .i64 0, .int .i64 0, .int .i64 0, .int .i64 0, .int .i64 0, .int .i64 0] 26)) := by go_grown
    go_enter Tryd.func19, Tryd.ntmps19
    go_wp2_with fail
    refine (d1.out _).mono ?_
    rintro e' w1 ⟨rfl, hb1⟩
    replace hR := hR.call hb1
    replace hO := below_then hO hb1
    clear hb1
    obtain ⟨rl, r0, r1, r2, r3, r4, r5, r6, r7, r8, r9, r10, r11, r12, r13, r14, r15, r16, r17⟩ := hR
    go_wp2
    refine bodyPost_ret (by simp [results, Tryd.results19, go_sem, r0, r1, r2, r3, r4, r5, r6, r7, r8]; try rfl) rfl ?_
    exact ⟨rfl, below_putM hO gO _ _ _ _ _ _ _ _ _⟩
  · rw [if_neg h0, if_neg h1, if_neg h2]
    have hR := Nine.new w 0 0 0 0 0 0 0 0 0 26
    have hO : Below w.heap.size w (w.alloc (.cells #[.int .i64 0, .int .i64 0, .int .i64 0, .int .i64 0, .int .i64 0, .int .i64 0, .int .i64 0, .int .i64 0, .int .i64 0] 26)) := by go_grown
    go_enter Tryd.func19, Tryd.ntmps19
    go_wp2_with fail
    refine (d1.out _).mono ?_
    rintro e' w1 ⟨rfl, hb1⟩
    replace hR := hR.call hb1
    replace hO := below_then hO hb1
    clear hb1
    obtain ⟨rl, r0, r1, r2, r3, r4, r5, r6, r7, r8, r9, r10, r11, r12, r13, r14, r15, r16, r17⟩ := hR
    go_wp2
    refine bodyPost_ret (by simp [results, Tryd.results19, go_sem, r0, r1, r2, r3, r4, r5, r6, r7, r8]; try rfl) rfl ?_
    exact ⟨rfl, below_putM hO gO _ _ _ _ _ _ _ _ _⟩

end Go.Proofs.YtodfcbpcgcgijaaDoor
