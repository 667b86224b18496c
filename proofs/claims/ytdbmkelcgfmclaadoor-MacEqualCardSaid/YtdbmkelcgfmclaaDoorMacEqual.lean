/- Any bytes are told to be the same, and in how many places they differ, as the document says. -/
import Derived.Test.YtdbmkelcgfmclaaDoorRows
import Derived.Test.YtdbmkelcgfmclaaDoorCards
import Derived.Test.YtdbmkelcgfmclaaDoorTie
import Derived.Test.YtdbmkelcgfmclaaDoorMacA
import Derived.Test.YtdbmkelcgfmclaaDoorLawM
import Derived.Test.YtdbmkelcgfmclaaDoorMacV
import Derived.WalkKit
import Derived.ProofKit
import Derived.OpenShut
import Derived.SevenTiedAt
import Derived.LaidMore
import Derived.Stop.Joined
import Derived.Deep.RegionHeld3
namespace Go.Proofs.YtdbmkelcgfmclaaDoor.macEqual
set_option maxRecDepth 100000
open Go.ChangeShapes Go.WideShapes Go.ChangeAt Go.RowKit
set_option linter.unusedVariables false

set_option linter.unusedSimpArgs false
attribute [local go_sem] cell_re
set_option maxRecDepth 200000 in
set_option maxHeartbeats 8000000 in
theorem walk (v : Value) (xs0 : List Int) (v2 : Value) (ys0 : List Int) (w : World) (hx : IntsAt .u8 w v xs0) (hy : IntsAt .u8 w v2 ys0) (hS : Steps w) : Calls Tryd.prog 4 #[v, v2] w fun e w' => e = .returned (.bool true) ∧ Below w.heap.size w w' := by
  obtain ⟨p, cap, rfl, hc0a, hc1a, hwfa, hata⟩ := hx
  unfold maxLen at hc1a
  have hxba := wf_byted hwfa
  have hx0a : At .u8 w p xs0 := hata
  obtain ⟨n0, hn0a⟩ : ∃ n, Hid (xs0.length = n) := ⟨_, rfl⟩
  obtain ⟨m, hma⟩ : ∃ m, Hid (min n0 300 = m) := ⟨_, rfl⟩
  have hm1a : m ≤ 300 := by rw [← hma.out]; omega
  obtain ⟨xs, hxs⟩ : ∃ xs, Hid (xs0.take 300 = xs) := ⟨_, rfl⟩
  have hla : Hid (xs.length = m) := by show _ = _; rw [← hxs.out, List.length_take, hn0a.out, ← hma.out]; omega
  have hBa : Hid (Byted xs) := by rw [← hxs.out]; exact hxba.take _
  have hAa : Hid (At .u8 w p xs) := by rw [← hxs.out]; exact hx0a.take _
  have hmca : m ≤ cap := by have := hn0a.out; have := hma.out; omega
  have j0a : (m : Int) ≤ (cap : Int) := by omega
  have jca : (cap : Int) ≤ 9223372036854775807 := by omega
  have hnca : Hid (n0 ≤ cap) := by have := hn0a.out; show _ ≤ _; omega
  rw [hn0a.out]
  clear hwfa hata hxba hx0a hc0a hc1a
  obtain ⟨p2, cap2, rfl, hc0b, hc1b, hwfb, hatb⟩ := hy
  unfold maxLen at hc1b
  have hxbb := wf_byted hwfb
  have hx0b : At .u8 w p2 ys0 := hatb
  obtain ⟨n2, hn0b⟩ : ∃ n, Hid (ys0.length = n) := ⟨_, rfl⟩
  obtain ⟨m2, hmb⟩ : ∃ m, Hid (min n2 300 = m) := ⟨_, rfl⟩
  have hm1b : m2 ≤ 300 := by rw [← hmb.out]; omega
  obtain ⟨ys, hys⟩ : ∃ xs, Hid (ys0.take 300 = xs) := ⟨_, rfl⟩
  have hlb : Hid (ys.length = m2) := by show _ = _; rw [← hys.out, List.length_take, hn0b.out, ← hmb.out]; omega
  have hBb : Hid (Byted ys) := by rw [← hys.out]; exact hxbb.take _
  have hAb : Hid (At .u8 w p2 ys) := by rw [← hys.out]; exact hx0b.take _
  have hmcb : m2 ≤ cap2 := by have := hn0b.out; have := hmb.out; omega
  have j0b : (m2 : Int) ≤ (cap2 : Int) := by omega
  have jcb : (cap2 : Int) ≤ 9223372036854775807 := by omega
  have hncb : Hid (n2 ≤ cap2) := by have := hn0b.out; show _ ≤ _; omega
  rw [hn0b.out]
  clear hwfb hatb hxbb hx0b hc0b hc1b
  have hT0 := Lib.hid hS
  have dW := Lib.hid (fun (W : World) (h : Below w.heap.size w W) => works W (hT0.out.call h))
  have dX := Lib.hid (fun (W : World) (h : Below w.heap.size w W) => baseBytes xs (by rw [hla.out]; omega) m hla.out.symm p cap W (hAa.out.call h))
  have dY := Lib.hid (fun (W : World) (h : Below w.heap.size w W) => baseBytes ys (by rw [hlb.out]; omega) m2 hlb.out.symm p2 cap2 W (hAb.out.call h))
  have dE := Lib.hid (fun (W : World) (q q' : Option Addr) (n n' c c' : Nat) (hn : n = xs.length) (hn' : n' = ys.length) (h : At .u8 W q xs) (h' : At .u8 W q' ys) => macEqual xs ys hBa.out hBb.out (by rw [hla.out]; omega) (by rw [hlb.out]; omega) n n' q q' c c' hn hn' W h h')
  have dD := Lib.hid (fun (W : World) (q q' : Option Addr) (n n' c c' : Nat) (hn : n = xs.length) (hn' : n' = ys.length) (h : At .u8 W q xs) (h' : At .u8 W q' ys) => macDiff xs ys hBa.out hBb.out (by rw [hla.out]; omega) (by rw [hlb.out]; omega) n n' q q' c c' hn hn' W h h')
  have dS := Lib.hid (fun (W : World) (h : Below w.heap.size w W) => sameBytes xs ys hBa.out hBb.out m m2 p p2 cap cap2 hla.out.symm hlb.out.symm W (hAa.out.call h) (hAb.out.call h))
  have dR := Lib.hid (fun (W : World) (h : Below w.heap.size w W) => ref9Diff xs ys hBa.out hBb.out (by rw [hla.out]; omega) (by rw [hlb.out]; omega) m m2 p p2 cap cap2 hla.out.symm hlb.out.symm W (hAa.out.call h) (hAb.out.call h))
  obtain ⟨B, hB⟩ : ∃ B, Hid (decide (xs = ys) = B) := ⟨_, rfl⟩
  obtain ⟨D, hD⟩ : ∃ D, Hid (diffL xs ys = D) := ⟨_, rfl⟩
  rw [hB.out] at dE dS
  rw [hD.out] at dD dR
  have hB0 : Below w.heap.size w w := Below.refl _ _
  clear hS
  go_enter Tryd.func4, Tryd.ntmps4
  go_upto_region 1 with fail
  go_cut [0, 1] (fun s0 s1 wx => s0 = .slice p m cap ∧ s1 = .slice p2 m2 cap2 ∧ Below w.heap.size w wx)
  case first =>
    by_cases hlea : n0 ≤ 300
    · have hmma : Hid (n0 = m) := by have := hma.out; show _ = _; omega
      have k1a : (n0 : Int) ≤ 300 := by omega
      have k9a : ¬ (300 : Int) < (n0 : Int) := by omega
      have k2a : (n0 : Int) ≤ (cap : Int) := by have := hnca.out; omega
      have k3a : n0 ≤ cap := hnca.out
      have k6a : (0 : Int) ≤ (n0 : Int) := by omega
      by_cases hleb : n2 ≤ 300
      · have hmmb : Hid (n2 = m2) := by have := hmb.out; show _ = _; omega
        have k1b : (n2 : Int) ≤ 300 := by omega
        have k9b : ¬ (300 : Int) < (n2 : Int) := by omega
        have k2b : (n2 : Int) ≤ (cap2 : Int) := by have := hncb.out; omega
        have k3b : n2 ≤ cap2 := hncb.out
        have k6b : (0 : Int) ≤ (n2 : Int) := by omega
        go_quiet (fail)
        go_wp2
        go_meet
        exact ⟨by rw [hmma.out], by rw [hmmb.out], below_drewN _ _⟩
      · have hmmb : Hid (300 = m2) := by have := hmb.out; show _ = _; omega
        have k1b : ¬ (n2 : Int) ≤ 300 := by omega
        have k4b : (300 : Int) < (n2 : Int) := by omega
        have k2b : (300 : Int) ≤ (cap2 : Int) := by have := hncb.out; omega
        have k3b : 300 ≤ cap2 := by have := hncb.out; omega
        go_quiet (fail)
        go_wp2
        go_meet
        exact ⟨by rw [hmma.out], by rw [hmmb.out], below_drewN _ _⟩
    · have hmma : Hid (300 = m) := by have := hma.out; show _ = _; omega
      have k1a : ¬ (n0 : Int) ≤ 300 := by omega
      have k4a : (300 : Int) < (n0 : Int) := by omega
      have k2a : (300 : Int) ≤ (cap : Int) := by have := hnca.out; omega
      have k3a : 300 ≤ cap := by have := hnca.out; omega
      by_cases hleb : n2 ≤ 300
      · have hmmb : Hid (n2 = m2) := by have := hmb.out; show _ = _; omega
        have k1b : (n2 : Int) ≤ 300 := by omega
        have k9b : ¬ (300 : Int) < (n2 : Int) := by omega
        have k2b : (n2 : Int) ≤ (cap2 : Int) := by have := hncb.out; omega
        have k3b : n2 ≤ cap2 := hncb.out
        have k6b : (0 : Int) ≤ (n2 : Int) := by omega
        go_quiet (fail)
        go_wp2
        go_meet
        exact ⟨by rw [hmma.out], by rw [hmmb.out], below_drewN _ _⟩
      · have hmmb : Hid (300 = m2) := by have := hmb.out; show _ = _; omega
        have k1b : ¬ (n2 : Int) ≤ 300 := by omega
        have k4b : (300 : Int) < (n2 : Int) := by omega
        have k2b : (300 : Int) ≤ (cap2 : Int) := by have := hncb.out; omega
        have k3b : 300 ≤ cap2 := by have := hncb.out; omega
        go_quiet (fail)
        go_wp2
        go_meet
        exact ⟨by rw [hmma.out], by rw [hmmb.out], below_drewN _ _⟩
  case rest =>
    obtain ⟨rfl, rfl, hB1⟩ := hcut
    clear hB0 hma hmb hn0a hn0b hxs hys hnca hncb
    go_wp2_with (first
      | (go_at_call 10; first
          | (with_reducible refine (dX.out wc hB1).mono ?_; intro e' w1 hr; obtain ⟨q1, n1, c1, rfl, m1, b1⟩ := hr.mine; have hB2 := below_then hB1 b1)
          | (with_reducible refine (dY.out w1 hB2).mono ?_; intro e' w2 hr; obtain ⟨q2, n2', c2, rfl, m2', b2⟩ := hr.mine; have hB3 := below_then hB2 b2; have m1a := m1.call b2)
          | (with_reducible refine (dX.out w3 hB5).mono ?_; intro e' w5 hr; obtain ⟨q5, n5, c5, rfl, m5, b5⟩ := hr.mine; have hB6 := below_then hB5 b5)
          | (with_reducible refine (dY.out w5 hB6).mono ?_; intro e' w6 hr; obtain ⟨q6, n6, c6, rfl, m6, b6⟩ := hr.mine; have hB7 := below_then hB6 b6; have m5a := m5.call b6))
      | (go_at_call 15; refine (dE.out w2 q1 q2 n1 n2' c1 c2 m1a.len m2'.len m1a.at_ m2'.at_).mono ?_; rintro e' w3 ⟨rfl, b3⟩; have hB4 := below_then hB3 b3)
      | (go_at_call 16; refine (dS.out w3 hB4).mono ?_; rintro e' w4 ⟨rfl, rfl⟩; have hB5 := hB4)
      | (go_at_call 17; refine (dD.out w6 q5 q6 n5 n6 c5 c6 m5a.len m6.len m5a.at_ m6.at_).mono ?_; rintro e' w7 ⟨rfl, b7⟩; have hB8 := below_then hB7 b7)
      | (go_at_call 18; refine (dR.out w7 hB8).mono ?_; rintro e' w8 ⟨rfl, b8⟩; have hB9 := below_then hB8 b8)
      | (go_at_call 14; refine (dW.out w8 hB9).mono ?_; rintro e' w9 ⟨rfl, b9⟩; have hB10 := below_then hB9 b9))
    go_ret
    exact ⟨rfl, hB10⟩


set_option maxRecDepth 100000 in
theorem lifted (os : Os) (started : os.Started) (H : Type) (enc : TypeId × Value → H) :
    ReturnsInHanded {} Tryd.checked os 4 .any (fun w args => (Rows.macEqualSpec.pre enc Tryd.prog Tryd.f4 [] false w args ∧ laidMetH Tryd.prog laidT w) ∧ sizedMet enc Tryd.prog Tryd.f4 (OpenSpec.ofChange Rows.macEqualSpec) false w args)
      (Rows.macEqualSpec.post enc Tryd.prog Tryd.f4 false true false false) := by
  refine returnsInHanded_of_change_and (C := Tryd.checked) (X := fun w _ => laidMetH Tryd.prog laidT w) (fun _ _ _ hh h => h.of_heap hh) own started (by kernel_rfl) Tryd.func4
    (ChangeSpec.witness_shaped (enc := enc) (C := Tryd.checked) (os := os) (X := fun w _ => laidMetH Tryd.prog laidT w) false (World.doorLaid Tryd.prog 400 os) #[.slice none 0 0, .slice none 0 0] 8 rfl (World.shaped_of_RefB (by kernel_rfl) (by kernel_rfl)) (by kernel_rfl) (by kernel_rfl) (by kernel_rfl) (door_met os _)) ?_
  intro W1 base args ds gs before hval0 hW _ _ hL _
  have hval : ∀ (j : Nat) t v, Tryd.f4.params[j]? = some t → args[j]? = some v → Value.okWide Tryd.prog W1 .any base t v := hval0
  have hW' := hW
  obtain ⟨p, q, hA0, hV, rfl, hfz, hnd⟩ := hW
  have hA : DataW.TrodAll enc Tryd.prog W1 0 (fun _ => true) true Tryd.f4.params.toList args.toList ds p := hA0
  rw [Tryd.params4] at hA hval
  obtain ⟨v0, vs0, d0, ds0, p0, q0, hargs, rfl, rfl, h0, r0⟩ := trodAll_cons hA
  obtain ⟨v1, vs1, d1, ds1, p1, q1, rfl, rfl, rfl, h1, r1⟩ := trodAll_cons r0
  obtain ⟨rfl, rfl, rfl⟩ := trodAll_nil r1
  obtain rfl : args = #[v0, v1] := by cases args; simp_all
  obtain ⟨rfl, rfl⟩ := trodVars_none hV
  obtain ⟨xs, w0⟩ := open_list (k := .u8) Tryd.underlying22 Tryd.underlying5 (by kernel_rfl) (hval 0 22 v0 rfl rfl) h0
  obtain ⟨ys, w1⟩ := open_list (k := .u8) Tryd.underlying22 Tryd.underlying5 (by kernel_rfl) (hval 1 22 v1 rfl rfl) h1
  have hS := steps_of_laid hL
  clear hA0 hval0 hval hA hL
  refine (walk v0 xs v1 ys W1 w0 w1 hS).mono fun e W' ⟨he, hg⟩ => ?_
  subst he
  exact ⟨_, rfl, law_post laidOut (by kernel_rfl) rfl (by kernel_rfl) Tryd.underlying4 hW' rfl hg⟩

theorem over : Rows.MacEqualSaid :=
  OpenClaim.holds_of_wide 4 Tryd.f4 rfl rfl rfl rfl rfl rfl rfl ⟨rfl, rfl, rfl, rfl, rfl⟩ rfl rfl rfl rfl rfl (by kernel_rfl) Tryd.func4 (by kernel_rfl)
    (of_decide_eq_true (by kernel_rfl)) (by unfold Func.isWrapper; first | (rw [if_pos (by decide +kernel)]; kernel_rfl) | (rw [if_neg (by decide +kernel)]; exact ⟨rfl, rfl⟩))
    (fun os started H enc _ => lifted os started H enc)

theorem proved : Rows.MacEqualCardSaid :=
  Claim7.holds_tied_plain_at .later [] [.data] true (true, "69e4521ff2fdce1f051ee1d69ed6419597ed824af55348f8ef85668a2928a1fb") false
    over (fun _ h => by cases h) (by kernel_rfl) (fun _ h => by cases h) macEqual_row_tie rfl ⟨rfl, rfl⟩ (by kernel_rfl) rfl
    (fun f fn hf hfn => by
      obtain rfl : f = 4 := Option.some.inj ((show Tryd.prog.funcNamed "pelorus/peloruslaw09.MacEqual" = some 4 by kernel_rfl).symm.trans hf) |>.symm
      obtain rfl : fn = Tryd.f4 := (Option.some.inj (Tryd.func4.symm.trans hfn)).symm
      exact ⟨by kernel_rfl, fun j t ht => by
        rw [Tryd.params4] at ht
        have hm : t ∈ [22, 22] := by simpa using Array.mem_of_getElem? ht
        have hall : ([22, 22].all fun u => !Tryd.prog.wantsStandIn u) = true := by kernel_rfl
        exact (show Tryd.prog.wantsStandIn t = false by simpa using List.all_eq_true.1 hall t hm)⟩)
    (by kernel_rfl)
end Go.Proofs.YtdbmkelcgfmclaaDoor.macEqual
