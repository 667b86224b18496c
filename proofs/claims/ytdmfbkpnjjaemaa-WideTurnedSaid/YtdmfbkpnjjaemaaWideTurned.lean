/- To the left and to the right by the same is the same, if it does not go round, and the nearest number is no further from the number over 2^n than a half: of any number and any n. -/
import Derived.Test.YtdmfbkpnjjaemaaRows
import Derived.Test.YtdmfbkpnjjaemaaWideE
import Derived.Test.YtdmfbkpnjjaemaaHeld
import Derived.Test.YtdmfbkpnjjaemaaLaw
import Derived.WalkKit
import Derived.ProofKit
import Derived.OpenShut
namespace Go.Proofs.Ytdmfbkpnjjaemaa.wideTurned
open Go.ChangeShapes Go.WideShapes Go.ChangeAt Go.RowKit
set_option linter.unusedVariables false

attribute [local go_sem] cell_re eqW_self run_fieldW
attribute [local go_sem ↓] run_eqlW run_neqW

theorem left_v (a : Int) (k : Nat) (v : Int) (hk : k ≤ 127) (h : a * 2 ^ k = v) (w : World) : Calls Try.prog 23 #[W a, .int .i64 (k : Int)] w fun e w' => e = .returned (W v) ∧ Below w.heap.size w w' := by
  have := wideLeft a k (by unfold Half; omega) w
  rw [Int.toNat_natCast, h] at this
  exact this
theorem left_1 (a v : Int) (h : a * 2 = v) (w : World) : Calls Try.prog 23 #[W a, .int .i64 1] w fun e w' => e = .returned (W v) ∧ Below w.heap.size w w' := by
  have := wideLeft a 1 (by unfold Half; omega) w
  rw [show (1 : Int).toNat = 1 from rfl, Int.pow_succ, Int.pow_zero, Int.one_mul, h] at this
  exact this
theorem right_v (a : Int) (ha : Fits a) (k : Nat) (v : Int) (hk : k ≤ 127) (h : a / 2 ^ k = v) (w : World) : Calls Try.prog 25 #[W a, .int .i64 (k : Int)] w fun e w' => e = .returned (W v) ∧ Below w.heap.size w w' := by
  have := wideRight a ha k (by unfold Half; omega) k (by unfold places; omega) w
  rw [h] at this
  exact this
theorem near_v (a : Int) (ha : Fits a) (k : Nat) (v : Int) (hk : k ≤ 127) (h : near a k = v) (w : World) : Calls Try.prog 27 #[W a, .int .i64 (k : Int)] w fun e w' => e = .returned (W v) ∧ Below w.heap.size w w' := by
  have := wideNear a k ha (by unfold Half; omega) w
  rw [h] at this
  exact this
theorem less_v (a b : Int) (ha : Fits a) (hb : Fits b) (c : Bool) (h : decide (a < b) = c) (w : World) : Calls Try.prog 16 #[W a, W b] w fun e w' => e = .returned (.bool c) ∧ Below w.heap.size w w' := by
  subst h
  exact wideLess a b ha hb w
/-- Twice the distance, times 2^k, is from -2^k (not itself) to 2^k. -/
theorem distance (a : Int) (k : Nat) (hk : k ≤ 62) : -(2 ^ k) < (near a k * 2 ^ k + -a) * 2 ∧ (near a k * 2 ^ k + -a) * 2 ≤ 2 ^ k := by
  have hp := pow_pos' k
  rcases Nat.eq_zero_or_pos k with rfl | h
  · unfold near
    rw [if_pos (by omega), show (2 : Int) ^ 0 = 1 from rfl]
    omega
  · unfold near
    have e1 : (places (k : Int)).toNat = k := by unfold places; omega
    rw [if_neg (by omega), e1]
    have e2 : (2 : Int) ^ k = 2 ^ (k - 1) * 2 := by rw [← Int.pow_succ, show (k - 1).succ = k by omega]
    have h1 := Int.mul_ediv_add_emod (a + 2 ^ (k - 1)) (2 ^ k)
    have h2 := Int.emod_nonneg (a + 2 ^ (k - 1)) (Int.ne_of_gt hp)
    have h3 := Int.emod_lt_of_pos (a + 2 ^ (k - 1)) hp
    rw [Int.mul_comm] at h1
    generalize (a + 2 ^ (k - 1)) / 2 ^ k * 2 ^ k = q at *
    omega
theorem pow_le_62 (k : Nat) (hk : k ≤ 62) : (2 : Int) ^ k ≤ 4611686018427387904 := by
  have h := pow_pos' (62 - k)
  have h2 := pow_pos' k
  have e := pow_split hk
  rw [show (2 : Int) ^ 62 = 4611686018427387904 from rfl] at e
  have := Int.mul_le_mul_of_nonneg_left (show (1 : Int) ≤ 2 ^ (62 - k) by omega) (Int.le_of_lt h2)
  omega

set_option maxRecDepth 100000 in
set_option maxHeartbeats 1000000 in
theorem walk_k (a : Int) (n : Int) (ha : Half a) (hn : 0 ≤ n ∧ n ≤ 255) (k : Nat) (hk : k ≤ 62) (hnk : n % 63 = (k : Int)) (w : World) :
    Calls Try.prog 9 #[.int .i64 a, .int .u8 n] w fun e w' => e = .returned (.bool true) ∧ Below w.heap.size w w' := by
  obtain ⟨hn0, hn1⟩ := hn
  have fa := half_fits ha
  obtain ⟨P, hP, P0, P1⟩ : ∃ P, Hid ((2 : Int) ^ k = P) ∧ 1 ≤ P ∧ P ≤ 4611686018427387904 := ⟨_, rfl, by have := pow_pos' k; omega, pow_le_62 k hk⟩
  obtain ⟨N, hN⟩ : ∃ N, Hid (near a k = N) := ⟨_, rfl⟩
  obtain ⟨L, hL⟩ : ∃ L, Hid (N * 2 ^ k = L) := ⟨_, rfl⟩
  obtain ⟨D, hD⟩ : ∃ D, Hid ((L + -a) * 2 = D) := ⟨_, rfl⟩
  obtain ⟨A, hA, hA2, fA⟩ : ∃ A, Hid (a * 2 ^ k = A) ∧ Hid (A / 2 ^ k = a) ∧ Fits A := by
    refine ⟨_, rfl, Int.mul_ediv_cancel _ (Int.ne_of_gt (pow_pos' k)), ?_⟩
    obtain ⟨a0, a1⟩ := ha
    rw [hP.out]
    have h1 := Int.mul_le_mul_of_nonneg_right a0 (show 0 ≤ P by omega)
    have h2 := Int.mul_le_mul_of_nonneg_right a1 (show 0 ≤ P by omega)
    unfold Fits
    omega
  have d1 : -P < D ∧ D ≤ P := by
    have := distance a k hk
    rw [hN.out, hL.out, hD.out, hP.out] at this
    exact this
  obtain ⟨D0, D1⟩ := d1
  have fP : Fits P := by unfold Fits; omega
  have fP' : Fits (-P) := by unfold Fits; omega
  have fD : Fits D := by unfold Fits; omega
  have l1 : Hid (decide (P < D) = false) := decide_eq_false (by omega)
  have l2 : Hid (decide (-P < D) = true) := decide_eq_true (by omega)
  have k0 : (0 : Int) ≤ (k : Int) := by omega
  have k1 : (k : Int) ≤ 62 := by omega
  have hP2 : Hid (1 * (2 : Int) ^ k = P) := by show 1 * (2 : Int) ^ k = P; rw [Int.one_mul]; exact hP.out
  go_enter Try.func9, Try.ntmps9
  go_wp2_with fail
  refine (works _).mono ?_
  rintro e w1 ⟨rfl, ht1⟩
  go_wp2_with fail
  refine (chain ht1 (wideOf a ha _)).mono ?_
  rintro e w2 ⟨rfl, ht2⟩
  have hs2 := ht2.size
  go_wp2_with fail
  refine wp_region_quiet_below (by kernel_rfl) (by kernel_rfl) ?_
  repeat (go_big_quiet_step ((first | (go_at_call 23; first | (with_reducible exact Calls.regrown_of (left_v a k A (by omega) hA.out _))) | (go_at_call 25; first | (with_reducible exact Calls.regrown_of (right_v A fA k a (by omega) hA2.out _))))))
  refine wpQuiet_nil ?_
  intro w3 hw3
  have hb3 := below_of_re hw3
  clear hw3
  obtain ⟨hc3, hf3⟩ := bcell hb3
  have hz3 := hb3.size
  have ht3 : Below w.heap.size w w3 := Below.trans (by go_grown) (hb3.mono (by simp <;> omega))
  have c30 : w3.cell? ⟨w2.heap.size, 0, none⟩ = some (.int .i64 (hi a)) := by rw [hc3 _ _ (by simp)]; simp [go_sem]
  have c31 : w3.cell? ⟨w2.heap.size, 1, none⟩ = some (.int .u64 (lo a)) := by rw [hc3 _ _ (by simp)]; simp [go_sem]
  have s30 : w2.heap.size < w3.heap.size := by have := hb3.size; simp at this; omega
  clear hc3 hf3 hz3 hb3
  go_upto_region 7 with fail
  go_cut [7] (fun s7 wx => ∃ g : Nat, s7 = .pointer (some ⟨g, 0, none⟩) ∧ Below w.heap.size w wx ∧ g < wx.heap.size ∧ wx.cell? ⟨g, 0, none⟩ = some (.int .i64 (hi D)) ∧ wx.cell? ⟨g, 1, none⟩ = some (.int .u64 (lo D)))
  case first =>
    go_region_held3 (fun w' => Below w.heap.size w w' ∧ w2.heap.size < w'.heap.size ∧ w'.cell? ⟨w2.heap.size, 0, none⟩ = some (.int .i64 (hi a)) ∧ w'.cell? ⟨w2.heap.size, 1, none⟩ = some (.int .u64 (lo a)))
      (first | assumption | exact ⟨ht3.drew, s30, c30, c31⟩ | exact kp_alloc ⟨ht3.drew, s30, c30, c31⟩ | exact kp_call (by assumption) (by assumption) | exact kp_alloc (by assumption) | exact kp_drew (by assumption) | exact kp_set (by constructor <;> (simp; omega)) (kp_set (by constructor <;> (simp; omega)) (by assumption)))
      (first
        | (go_at_call 27; (first | (with_reducible refine (near_v a fa k N (by omega) hN.out _).mono ?_)); rintro ex wx' ⟨rfl, hbx⟩; obtain ⟨hcx, hfx, hlx⟩ := bcell3 hbx; have hkx := kp_call (w := w) (X := w2.heap.size) hbx (by assumption); have hqx := hkx.1.size; have hrx := hkx.2.1; (first | have hnx := fresh_drew hbx | have hnx := fresh_first hbx | have hnx := fresh_call hbx (by assumption) | skip))
        | (go_at_call 23; (first | (with_reducible refine (left_v N k L (by omega) hL.out _).mono ?_) | (with_reducible refine (left_1 (L + -a) D hD.out _).mono ?_)); rintro ex wx' ⟨rfl, hbx⟩; obtain ⟨hcx, hfx, hlx⟩ := bcell3 hbx; have hkx := kp_call (w := w) (X := w2.heap.size) hbx (by assumption); have hqx := hkx.1.size; have hrx := hkx.2.1; (first | have hnx := fresh_drew hbx | have hnx := fresh_first hbx | have hnx := fresh_call hbx (by assumption) | skip))
        | (go_at_call 12; (first | (with_reducible refine (wideNeg a _).mono ?_)); rintro ex wx' ⟨rfl, hbx⟩; obtain ⟨hcx, hfx, hlx⟩ := bcell3 hbx; have hkx := kp_call (w := w) (X := w2.heap.size) hbx (by assumption); have hqx := hkx.1.size; have hrx := hkx.2.1; (first | have hnx := fresh_drew hbx | have hnx := fresh_first hbx | have hnx := fresh_call hbx (by assumption) | skip))
        | (go_at_call 10; (first | (with_reducible refine (wideAdd L (-a) _).mono ?_)); rintro ex wx' ⟨rfl, hbx⟩; obtain ⟨hcx, hfx, hlx⟩ := bcell3 hbx; have hkx := kp_call (w := w) (X := w2.heap.size) hbx (by assumption); have hqx := hkx.1.size; have hrx := hkx.2.1; (first | have hnx := fresh_drew hbx | have hnx := fresh_first hbx | have hnx := fresh_call hbx (by assumption) | skip)))
    all_goals
      rename_i hS
      go_wp2_with fail
      go_meet
      refine ⟨_, rfl, hS.1, ?_, ?_, ?_⟩ <;> simp [go_sem, *]
  case rest =>
    obtain ⟨g, rfl, ht4, s40, c40, c41⟩ := hcut
    go_wp2_with fail
    refine (wideOf 1 (by unfold Half; omega) _).mono ?_
    rintro e w5 ⟨rfl, hb5⟩
    have ht5 := below_then ht4 hb5
    have s5 := hb5.size
    go_wp2_with fail
    refine (left_v 1 k P (by omega) hP2.out _).mono ?_
    rintro e w6 ⟨rfl, hb6⟩
    have ht6 := below_then ht5 hb6
    have s6 := hb6.size
    have c60 : (w6.alloc (.cells #[.int .i64 (hi P), .int .u64 (lo P)] 24)).cell? ⟨g, 0, none⟩ = some (.int .i64 (hi D)) := by
      rw [World.cell?_alloc_lt _ _ _ (by show g < w6.heap.size; omega), hb6.cell (p := ⟨g, 0, none⟩) (by show g < w5.heap.size; omega), hb5.cell (p := ⟨g, 0, none⟩) s40, c40]
    have c61 : (w6.alloc (.cells #[.int .i64 (hi P), .int .u64 (lo P)] 24)).cell? ⟨g, 1, none⟩ = some (.int .u64 (lo D)) := by
      rw [World.cell?_alloc_lt _ _ _ (by show g < w6.heap.size; omega), hb6.cell (p := ⟨g, 1, none⟩) (by show g < w5.heap.size; omega), hb5.cell (p := ⟨g, 1, none⟩) s40, c41]
    have d60 := cell_regrown c60
    have d61 := cell_regrown c61
    clear c40 c41 c60 c61
    go_wp2_with fail
    refine wp_region_quiet_below (by kernel_rfl) (by kernel_rfl) ?_
    repeat (go_big_quiet_step ((first | (go_at_call 16; first | (with_reducible exact Calls.regrown_of (less_v P D fP fD false l1.out _)) | (with_reducible exact Calls.regrown_of (less_v (-P) D fP' fD true l2.out _))) | (go_at_call 12; first | (with_reducible exact Calls.regrown_of (wideNeg P _))))))
    refine wpQuiet_nil ?_
    intro w7 hw7
    have hb7 := below_of_re hw7
    clear hw7
    obtain ⟨hc7, hf7⟩ := bcell hb7
    have hz7 := hb7.size
    have ht7 : Below w.heap.size w w7 := Below.trans (Below.alloc ht6 ht6.size _) (hb7.mono (by have := ht6.size; simp; omega))

    go_wp2
    go_ret
    exact ⟨rfl, ht7⟩

theorem walk (a n : Int) (ha : Half a) (hn : 0 ≤ n ∧ n ≤ 255) (w : World) :
    Calls Try.prog 9 #[.int .i64 a, .int .u8 n] w fun e w' => e = .returned (.bool true) ∧ Below w.heap.size w w' :=
  walk_k a n ha hn (n % 63).toNat (by omega) (by omega) w


set_option maxRecDepth 100000 in
theorem lifted (os : Os) (started : os.Started) (H : Type) (enc : TypeId × Value → H) :
    ReturnsInHanded {} Try.checked os 9 .any (Rows.wideTurnedSpec.pre6 enc Try.prog Try.f9 Rows.wideTurnedRow.domain false) (Rows.wideTurnedSpec.post enc Try.prog Try.f9 false true false false) := by
  refine returnsInHanded_of_change (C := Try.checked) own started (by kernel_rfl) Try.func9
    (ChangeSpec.witness6 (enc := enc) (C := Try.checked) false ⟨#[], #[.int .i64 0, .int .u8 0], []⟩ 8 (by kernel_rfl) (by kernel_rfl) (by kernel_rfl) (by kernel_rfl)) ?_
  intro W1 base args ds gs before hval0 hW hcnd _
  have hval : ∀ (j : Nat) t v, Try.f9.params[j]? = some t → args[j]? = some v → Value.okWide Try.prog W1 .any base t v := hval0
  have hW' := hW
  obtain ⟨p, q, hA0, hV, rfl, hfz, hnd⟩ := hW
  have hA : DataW.TrodAll enc Try.prog W1 0 (fun _ => true) true Try.f9.params.toList args.toList ds p := hA0
  rw [Try.params9] at hA hval
  obtain ⟨v0, vs0, d0, ds0, p0, q0, hargs, rfl, rfl, h0, r0⟩ := trodAll_cons hA
  obtain ⟨v1, vs1, d1, ds1, p1, q1, rfl, rfl, rfl, h1, r1⟩ := trodAll_cons r0
  obtain ⟨rfl, rfl, rfl⟩ := trodAll_nil r1
  obtain rfl : args = #[v0, v1] := by cases args; simp_all
  obtain ⟨rfl, rfl⟩ := trodVars_none hV
  obtain ⟨a, rfl, rfl, rfl, w0⟩ := open_int Try.underlying2 (hval 0 2 v0 rfl rfl) h0
  obtain ⟨n, rfl, rfl, rfl, w1⟩ := open_int Try.underlying5 (hval 1 5 v1 rfl rfl) h1
  clear hA0 hval0
  simp only [List.append_nil] at hW'
  refine (walk a n (half_of_wf w0) (byte_of_wf w1) W1).mono fun e W' ⟨he, hg⟩ => ?_
  subst he
  exact ⟨_, rfl, post_of_below (pa := []) (pv := []) hW' (fun _ _ _ => (trodAll_cons_mk (shut_bool Try.underlying4 _) trodAll_mk0)) (fun sp _ => (trodAll_cons_mk (shut_int Try.underlying2 w0) (trodAll_cons_mk (shut_int Try.underlying5 w1) trodAll_mk0))) (fun _ _ => rfl) rfl hg (ok_one (by kernel_rfl) rfl (okWide_bool_mk Try.underlying4 _))⟩

theorem over : Rows.wideTurnedRow.holds Try.pinned (OpenSpec.ofChange Rows.wideTurnedSpec) :=
  OpenClaim.holds_of_wide 9 Try.f9 rfl rfl rfl rfl rfl rfl rfl ⟨rfl, rfl, rfl, rfl, rfl⟩ rfl rfl rfl rfl rfl (by kernel_rfl) Try.func9 (by kernel_rfl)
    (of_decide_eq_true (by kernel_rfl)) (by unfold Func.isWrapper; first | (rw [if_pos (by decide +kernel)]; kernel_rfl) | (rw [if_neg (by decide +kernel)]; exact ⟨rfl, rfl⟩))
    (fun os started H enc _ => lifted os started H enc)

theorem proved : Rows.WideTurnedSaid :=
  over
end Go.Proofs.Ytdmfbkpnjjaemaa.wideTurned
