/- The chapter's examples. -/
import Derived.Test.YtlpajjhkiaobbaaRefO
import Derived.Test.YtlpajjhkiaobbaaRefN
namespace Go.Proofs.Ytlpajjhkiaobbaa
open Go.RowKit
attribute [local go_sem] cell_re eqW_self
attribute [local go_sem ↓] run_eqlW run_neqW
/-- A block that was just made, as a slice. -/
theorem At.new {k : IntKind} (w : World) (zs : List Int) (cs : Array Value) (t : TypeId) (h : cs = (zs.map (Value.int k)).toArray) : At k (w.alloc (.cells cs t)) (some ⟨w.heap.size, 0, none⟩) zs := by
  subst h
  refine Or.inr ⟨w.heap.size, 0, rfl, by simp, fun j hj => ?_⟩
  rw [cell_of_row _ _ _ _ t (0, 0) (heap_alloc_new w _), Nat.zero_add]
  simp [hj]

theorem At.new_at {k : IntKind} (w : World) (zs : List Int) (cs : Array Value) (t : TypeId) (g : Nat) (hg : g = w.heap.size) (h : cs = (zs.map (Value.int k)).toArray) : At k (w.alloc (.cells cs t)) (some ⟨g, 0, none⟩) zs := by
  subst hg
  exact At.new w zs cs t h

set_option maxRecDepth 100000 in
set_option maxHeartbeats 2000000 in
theorem works (w : World) : Calls Try.prog 18 #[] w fun e w' => e = .returned (.bool true) ∧ Below w.heap.size w w' := by
  have e1 : sat32 ((4294967296 + 32768) / 65536) = .tuple #[.int .i32 65536, .bool false] := sat32_eq (by decide) (by decide)
  have d1 := Lib.hid (fun W1 : World => smallNarrow 4294967296 (by unfold Half; omega) W1)
  rw [e1] at d1
  have d2 : Hid (∀ W1 : World, Calls Try.prog 19 #[.int .i32 (-2)] W1 fun e w' => e = .returned (.agg #[.int .u8 255, .int .u8 255, .int .u8 255, .int .u8 254]) ∧ Below W1.heap.size W1 w') := fun W1 => by
    have := smallPut (-2) (by unfold Short; omega) W1
    rw [show digs 4 (IntKind.u64.wrap (-2)) = [255, 255, 255, 254] by rw [IntKind.wrap_u64]; decide] at this
    exact this
  have d3 : Hid (∀ W1 : World, Calls Try.prog 29 #[.int .i32 65536, .int .i64 50] W1 fun e w' => e = .returned (.int .u32 2147483648) ∧ Below W1.heap.size W1 w') := fun W1 => by
    have := smallTurn 65536 50 (by unfold Short; omega) (by unfold Half; omega) W1
    rw [show 65536 * within_ 50 * 65536 / 100 % 4294967296 = 2147483648 by decide] at this
    exact this
  have d4 : Hid (∀ (W1 : World) (p q : Option Addr) (c d : Nat), At .u8 W1 p [255, 255, 255, 254] → At .u8 W1 q [255, 255, 255, 254] → Calls Try.prog 26 #[.slice p 4 c, .slice q 4 d] W1 fun e w' => e = .returned (.bool true) ∧ W1 = w') := fun W1 p q c d hp hq => by
    have by_ : Byted [255, 255, 255, 254] := fun x hx => by simp at hx; omega
    have := sameBytes _ _ by_ by_ 4 4 p q c d rfl rfl W1 hp hq
    simpa using this
  clear e1
  have hB : Below w.heap.size w w := Below.refl _ _
  go_enter Try.func18, Try.ntmps18
  go_wp2_with fail
  refine (d1.out _).mono ?_
  rintro e w1 ⟨rfl, hb1⟩
  replace hB := below_then hB hb1
  clear hb1
  go_wp2_with fail
  refine (d2.out _).mono ?_
  rintro e w2 ⟨rfl, hb2⟩
  replace hB := below_then hB hb2
  clear hb2
  go_wp2_with fail
  refine (d3.out _).mono ?_
  rintro e w3 ⟨rfl, hb3⟩
  have at1 := Lib.hid ((At.new (k := .u8) w2 [255, 255, 255, 254] #[.int .u8 255, .int .u8 255, .int .u8 255, .int .u8 254] 33 rfl).call hb3)
  replace hB := below_then (hB.alloc hB.size _) hb3
  clear hb3
  go_wp2_with fail
  refine (d4.out _ _ _ _ _ (at1.out.alloc _) (At.new (k := .u8) w3 [255, 255, 255, 254] #[.int .u8 255, .int .u8 255, .int .u8 255, .int .u8 254] 5 rfl)).mono ?_
  rintro e w4 ⟨rfl, rfl⟩
  go_wp2
  go_ret
  exact ⟨rfl, hB.alloc hB.size _⟩

end Go.Proofs.Ytlpajjhkiaobbaa
