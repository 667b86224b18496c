/- The digest of any parts is the document's of all of them, one behind the other. -/
import Derived.Test.YtjgmmocadkcghaaDoorRows
import Derived.Test.YtjgmmocadkcghaaDoorCards
import Derived.Test.YtjgmmocadkcghaaDoorTie
import Derived.Test.YtjgmmocadkcghaaDoorHasEq
import Derived.Test.YtjgmmocadkcghaaDoorHashG
import Derived.Test.YtjgmmocadkcghaaDoorLawAll
import Derived.Test.YtjgmmocadkcghaaDoorHasRows
import Derived.Test.YtjgmmocadkcghaaDoorLawH
import Derived.WalkKit
import Derived.ProofKit
import Derived.OpenShut
import Derived.SevenTiedAt
import Derived.LaidMore
import Derived.Stop.Joined
import Derived.Deep.RegionHeld3
namespace Go.Proofs.YtjgmmocadkcghaaDoor.hashOf
set_option maxRecDepth 100000
open Go.ChangeShapes Go.WideShapes Go.ChangeAt Go.RowKit
set_option linter.unusedVariables false

attribute [local go_sem] cell_re
theorem joined_byted {w : World} {p : Option Addr} {l : List (List Int)} (h : Parts w p l) (k : Nat) : Byted (joinTo (cutL l) k) := fun x hx => by
  unfold joinTo at hx
  rw [List.mem_flatten] at hx
  obtain ⟨y, hy, hxy⟩ := hx
  obtain ⟨j, hj, e⟩ := List.mem_iff_getElem.mp (List.mem_of_mem_take hy)
  have := cutL_byted h j hj
  rw [List.getD_eq_getElem?_getD, List.getElem?_eq_getElem hj] at this
  exact this x (by rw [← e] at hxy; exact hxy)
set_option maxRecDepth 200000 in
set_option maxHeartbeats 8000000 in
theorem walk (v : Value) (l : List (List Int)) (w : World) (hx : RowsAt w v l) (hS : Steps w) : Calls Tryd.prog 3 #[v] w fun e w' => e = .returned (.bool true) ∧ Below w.heap.size w w' := by
  obtain ⟨p, cap, rfl, hc0, hc1, hP⟩ := hx
  unfold maxLen at hc1
  have hiE' : (Tryd.prog.info? 5).isSome = true := by kernel_rfl
  obtain ⟨iE, hiE⟩ := Option.isSome_iff_exists.mp hiE'
  obtain ⟨n, hn⟩ : ∃ n, Hid (n = l.length) := ⟨_, rfl⟩
  have dA := Lib.hid (law8All l n cap hn.out (by rw [hn.out]; omega) p w hP)
  have hbj := Lib.hid (fun k => joined_byted hP k)
  have hfl := Lib.hid (cutL_flat l)
  have hcl := Lib.hid (show (cutL l).length ≤ 12 by rw [cutL_length]; omega)
  have hja := Lib.hid (joinTo_all (cutL l))
  have hjl := Lib.hid (joinTo_le (cutL l) (cutL l).length)
  have hS0 := Lib.hid hS
  rw [← hn.out]
  obtain ⟨K, hK⟩ : ∃ K, Hid (cutL l = K) := ⟨_, rfl⟩
  unfold AllPost at dA
  rw [hK.out] at dA hbj hfl hcl hja hjl
  obtain ⟨Y, hY⟩ : ∃ Y, Hid ((ints .u8 (sha K.flatten)).toArray = Y) := ⟨_, rfl⟩
  have hq := fun W1 : World => equal_ints (P := Tryd.prog) (t := 27) (e := 5) (k := .u8) Tryd.underlying27 hiE (by kernel_rfl) (by kernel_rfl) Tryd.underlying5 (sha K.flatten) rfl W1
  rw [hY.out] at hq
  have dO : Hid (∀ (W1 : World) (q : Option Addr) (m d : Nat), Below w.heap.size w W1 → m = K.length → Parts W1 q K → Calls Tryd.prog 8 #[.slice q m d] W1 fun e w' => e = .returned (.agg Y) ∧ Below W1.heap.size W1 w') := fun W1 q m d h hm hp => by
    have := hashOf K hbj.out (by have := hfl.out; omega) m d hm (by have := hcl.out; omega) q W1 (hS0.out.call h) hp
    rw [hY.out] at this
    exact this
  have dR : Hid (∀ (W1 : World) (q : Option Addr) (m d : Nat), m = (joinTo K K.length).length → At .u8 W1 q (joinTo K K.length) → Calls Tryd.prog 9 #[.slice q m d] W1 fun e w' => e = .returned (.agg Y) ∧ Below W1.heap.size W1 w') := fun W1 q m d hm ha => by
    have := ref8Of (joinTo K K.length) (hbj.out _) (by have := hjl.out; have := hfl.out; omega) m hm q d W1 ha
    rw [hja.out, hY.out] at this
    exact this
  clear hc0 hc1 hP hS hiE hiE'
  go_enter Tryd.func3, Tryd.ntmps3
  go_wp2_with (first
    | (go_at_call 7; refine dA.out.mono ?_; rintro e' w1 ⟨q1, m1, c1, q2, m2, c2, rfl, hm1, -, hPa, hm2, -, hA2, hB1⟩; replace hm1 := Lib.hid hm1; replace hm2 := Lib.hid hm2; replace hPa := Lib.hid hPa; replace hA2 := Lib.hid hA2)
    | (go_at_call 8; refine (dO.out w1 q1 m1 c1 hB1 hm1.out hPa.out).mono ?_; rintro e' w2 ⟨rfl, hB2⟩; have hBw2 := below_then hB1 hB2)
    | (go_at_call 9; refine (dR.out w2 q2 m2 c2 hm2.out (hA2.out.call hB2)).mono ?_; rintro e' w3 ⟨rfl, hB3⟩; have hBw3 := below_then hBw2 hB3; have hT3 := hS0.out.call hBw3)
    | (go_at_call 10; refine (works w3 hT3).mono ?_; rintro e' w4 ⟨rfl, hB4⟩; have hBw4 := below_then hBw3 hB4))
  go_ret
  exact ⟨rfl, hBw4⟩


set_option maxRecDepth 100000 in
theorem lifted (os : Os) (started : os.Started) (H : Type) (enc : TypeId × Value → H) :
    ReturnsInHanded {} Tryd.checked os 3 .any (fun w args => (Rows.hashOfSpec.pre enc Tryd.prog Tryd.f3 [] false w args ∧ laidMetH Tryd.prog laidT w) ∧ sizedMet enc Tryd.prog Tryd.f3 (OpenSpec.ofChange Rows.hashOfSpec) false w args)
      (Rows.hashOfSpec.post enc Tryd.prog Tryd.f3 false true false false) := by
  refine returnsInHanded_of_change_and (C := Tryd.checked) (X := fun w _ => laidMetH Tryd.prog laidT w) (fun _ _ _ hh h => h.of_heap hh) own started (by kernel_rfl) Tryd.func3
    (ChangeSpec.witness_shaped (enc := enc) (C := Tryd.checked) (os := os) (X := fun w _ => laidMetH Tryd.prog laidT w) false (World.doorLaid Tryd.prog 400 os) #[.slice none 0 0] 8 rfl (World.shaped_of_RefB (by kernel_rfl) (by kernel_rfl)) (by kernel_rfl) (by kernel_rfl) (by kernel_rfl) (door_met os _)) ?_
  intro W1 base args ds gs before hval0 hW _ _ hL _
  have hval : ∀ (j : Nat) t v, Tryd.f3.params[j]? = some t → args[j]? = some v → Value.okWide Tryd.prog W1 .any base t v := hval0
  have hW' := hW
  obtain ⟨p, q, hA0, hV, rfl, hfz, hnd⟩ := hW
  have hA : DataW.TrodAll enc Tryd.prog W1 0 (fun _ => true) true Tryd.f3.params.toList args.toList ds p := hA0
  rw [Tryd.params3] at hA hval
  obtain ⟨v0, vs0, d0, ds0, p0, q0, hargs, rfl, rfl, h0, r0⟩ := trodAll_cons hA
  obtain ⟨rfl, rfl, rfl⟩ := trodAll_nil r0
  obtain rfl : args = #[v0] := by cases args; simp_all
  obtain ⟨rfl, rfl⟩ := trodVars_none hV
  obtain ⟨l, w0⟩ := open_rows Tryd.underlying22 Tryd.underlying23 Tryd.underlying5 (by kernel_rfl) (by kernel_rfl) (hval 0 22 v0 rfl rfl) h0
  have hS := steps_of_laid hL
  clear hA0 hval0 hval hA hL
  refine (walk v0 l W1 w0 hS).mono fun e W' ⟨he, hg⟩ => ?_
  subst he
  exact ⟨_, rfl, law_post laidOut (by kernel_rfl) rfl (by kernel_rfl) Tryd.underlying4 hW' rfl hg⟩

theorem over : Rows.HashOfSaid :=
  OpenClaim.holds_of_wide 3 Tryd.f3 rfl rfl rfl rfl rfl rfl rfl ⟨rfl, rfl, rfl, rfl, rfl⟩ rfl rfl rfl rfl rfl (by kernel_rfl) Tryd.func3 (by kernel_rfl)
    (of_decide_eq_true (by kernel_rfl)) (by unfold Func.isWrapper; first | (rw [if_pos (by decide +kernel)]; kernel_rfl) | (rw [if_neg (by decide +kernel)]; exact ⟨rfl, rfl⟩))
    (fun os started H enc _ => lifted os started H enc)

theorem proved : Rows.HashOfCardSaid :=
  Claim7.holds_tied_plain_at .later [] [.data] true (true, "808dd09b969e894a5e111d73f5f435a29610888f0f5953703ea7ec9454c4ac23") false
    over (fun _ h => by cases h) (by kernel_rfl) (fun _ h => by cases h) hashOf_row_tie rfl ⟨rfl, rfl⟩ (by kernel_rfl) rfl
    (fun f fn hf hfn => by
      obtain rfl : f = 3 := Option.some.inj ((show Tryd.prog.funcNamed "pelorus/peloruslaw08.HashOf" = some 3 by kernel_rfl).symm.trans hf) |>.symm
      obtain rfl : fn = Tryd.f3 := (Option.some.inj (Tryd.func3.symm.trans hfn)).symm
      exact ⟨by kernel_rfl, fun j t ht => by
        rw [Tryd.params3] at ht
        have hm : t ∈ [22] := by simpa using Array.mem_of_getElem? ht
        have hall : ([22].all fun u => !Tryd.prog.wantsStandIn u) = true := by kernel_rfl
        exact (show Tryd.prog.wantsStandIn t = false by simpa using List.all_eq_true.1 hall t hm)⟩)
    (by kernel_rfl)
end Go.Proofs.YtjgmmocadkcghaaDoor.hashOf
