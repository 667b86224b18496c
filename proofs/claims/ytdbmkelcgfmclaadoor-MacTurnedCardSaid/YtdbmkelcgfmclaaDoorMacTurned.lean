/- A tag of which one byte is turned is not right. -/
import Derived.Test.YtdbmkelcgfmclaaDoorRows
import Derived.Test.YtdbmkelcgfmclaaDoorCards
import Derived.Test.YtdbmkelcgfmclaaDoorTie
import Derived.Test.YtdbmkelcgfmclaaDoorLawM
import Derived.Test.YtdbmkelcgfmclaaDoorMacV
import Derived.WalkKit
import Derived.ProofKit
import Derived.OpenShut
import Derived.SevenTiedAt
import Derived.LaidMore
import Derived.Stop.Joined
import Derived.Deep.RegionHeld3
namespace Go.Proofs.YtdbmkelcgfmclaaDoor.macTurned
set_option maxRecDepth 100000
open Go.ChangeShapes Go.WideShapes Go.ChangeAt Go.RowKit
set_option linter.unusedVariables false

set_option linter.unusedSimpArgs false
attribute [local go_sem] cell_re
theorem one_part {W : World} {p : Option Addr} {m cap : Nat} {xs : List Int} (h : At .u8 W p xs) (hm : m = xs.length) (hc : m ≤ cap) (hb : Byted xs) : Parts (W.alloc (.cells #[.slice p m cap] 22)) (some ⟨W.heap.size, 0, none⟩) [xs] :=
  Parts.lit [.slice p m cap] _ _ rfl [xs] (fun j hj => by obtain rfl : j = 0 := (by simpa using hj); exact ⟨_, rfl, h.part hm hc hb⟩)
theorem one_byted {xs : List Int} (hb : Byted xs) : ∀ x ∈ ([xs] : List (List Int)), Byted x := fun x hx => by obtain rfl := List.mem_singleton.mp hx; exact hb
theorem one_flat (xs : List Int) : ([xs] : List (List Int)).flatten = xs := by simp
theorem row_below (W : World) (p : Option Addr) (m cap : Nat) : Below W.heap.size W (W.alloc (.cells #[.slice p m cap] 22)) := (Below.refl _ _).alloc (Nat.le_refl _) _
set_option maxRecDepth 200000 in
set_option maxHeartbeats 8000000 in
theorem walk (k : List Int) (v : Value) (xs0 : List Int) (at_ by_ : Int) (w : World) (hkl : k.length = 32) (hkb : Byted k) (hx : IntsAt .u8 w v xs0) (ha : 0 ≤ at_ ∧ at_ ≤ 255) (hy : 0 ≤ by_ ∧ by_ ≤ 255) (hS : Steps w) : Calls Tryd.prog 6 #[.agg (ints .u8 k).toArray, v, .int .u8 at_, .int .u8 by_] w fun e w' => e = .returned (.bool true) ∧ Below w.heap.size w w' := by
  obtain ⟨p, cap, rfl, hc0a, hc1a, hwfa, hata⟩ := hx
  unfold maxLen at hc1a
  have hxba := wf_byted hwfa
  have hx0a : At .u8 w p xs0 := hata
  obtain ⟨n0, hn0a⟩ : ∃ n, Hid (xs0.length = n) := ⟨_, rfl⟩
  obtain ⟨m, hma⟩ : ∃ m, Hid (min n0 300 = m) := ⟨_, rfl⟩
  have hm1a : m ≤ 300 := by rw [← hma.out]; omega
  obtain ⟨xs, hxs⟩ : ∃ xs, Hid (xs0.take 300 = xs) := ⟨_, rfl⟩
  have hla : Hid (xs.length = m) := by show _ = _; rw [← hxs.out, List.length_take, hn0a.out, ← hma.out]; omega
  have hBa : Hid (Byted xs) := by rw [← hxs.out]; exact hxba.take _
  have hAa : Hid (At .u8 w p xs) := by rw [← hxs.out]; exact hx0a.take _
  have hmca : m ≤ cap := by have := hn0a.out; have := hma.out; omega
  have j0a : (m : Int) ≤ (cap : Int) := by omega
  have jca : (cap : Int) ≤ 9223372036854775807 := by omega
  have hnca : Hid (n0 ≤ cap) := by have := hn0a.out; show _ ≤ _; omega
  rw [hn0a.out]
  clear hwfa hata hxba hx0a hc0a hc1a
  have hT0 := Lib.hid hS
  obtain ⟨K, hK⟩ : ∃ K, Hid ((ints .u8 k).toArray = K) := ⟨_, rfl⟩
  rw [hK.out]
  have dW := Lib.hid (works w hS)
  have dT := Lib.hid (fun (W : World) (h : Below w.heap.size w W) => macTag k hkb hkl K hK [xs] (one_byted hBa.out) (by rw [one_flat, hla.out]; omega) (some ⟨W.heap.size, 0, none⟩) 1 1 rfl (by decide) (fun e => by cases e) (W.alloc (.cells #[.slice p m cap] 22)) (hT0.out.call (below_then h (row_below W p m cap))) (one_part (hAa.out.call h) hla.out.symm hmca hBa.out))
  have dR := Lib.hid (fun (t : List Int) (htb : Byted t) (htl : t.length = 16) (T : Array Value) (hTa : Hid ((ints .u8 t).toArray = T)) (W : World) (h : Below w.heap.size w W) => macRight k hkb hkl K hK t htb htl T hTa [xs] (one_byted hBa.out) (by rw [one_flat, hla.out]; omega) (some ⟨W.heap.size, 0, none⟩) 1 1 rfl (by decide) (fun e => by cases e) (W.alloc (.cells #[.slice p m cap] 22)) (hT0.out.call (below_then h (row_below W p m cap))) (one_part (hAa.out.call h) hla.out.symm hmca hBa.out))
  rw [one_flat] at dT dR
  have hDb := Lib.hid (tagL_byted k xs)
  have hDl : Hid ((tagL k xs).length = 16) := Lib.hid (tagL_length k xs)
  obtain ⟨D, hD⟩ : ∃ D, Hid (tagL k xs = D) := ⟨_, Lib.hid rfl⟩
  rw [hD.out] at dT dR hDb hDl
  obtain ⟨Y, hY⟩ : ∃ Y, Hid ((ints .u8 D).toArray = Y) := ⟨_, rfl⟩
  rw [hY.out] at dT
  obtain ⟨i, hi⟩ : ∃ i : Nat, at_ % 16 = (i : Int) := ⟨(at_ % 16).toNat, by omega⟩
  have hi16 : i < 16 := by omega
  have hi16' : (i : Int) < 16 := by omega
  have htm : at_.tmod 16 = (i : Int) := by rw [Int.tmod_eq_emod_of_nonneg ha.1, hi]
  have hts := turned_same D hDb.out i (by rw [hDl.out]; exact hi16) by_ hy
  obtain ⟨V, hV⟩ : ∃ V, Hid (bits .xor .u8 (D.getD i 0) by_ = V) := ⟨_, rfl⟩
  have hVb : 0 ≤ V ∧ V ≤ 255 := by rw [← hV.out]; exact u8_bits _ _ _
  rw [hV.out] at hts
  have hts' := Lib.hid hts
  have hDget := hDb.out.at_ i
  have hEb : Hid (Byted (D.set i V)) := fun x hx => (List.mem_or_eq_of_mem_set hx).elim (hDb.out x) (fun e => e ▸ hVb)
  have hEl : Hid ((D.set i V).length = 16) := by show _ = _; rw [List.length_set, hDl.out]
  obtain ⟨E, hE⟩ : ∃ E, Hid (D.set i V = E) := ⟨_, rfl⟩
  have hE' := hE
  rw [hE.out] at hEb hEl hts'
  obtain ⟨YE, hYE⟩ : ∃ Y, Hid ((ints .u8 E).toArray = Y) := ⟨_, rfl⟩
  have dR1 := Lib.hid (fun W h => dR.out E hEb.out hEl.out YE hYE W h)
  obtain ⟨b0, b1⟩ := hy
  obtain ⟨a0, a1⟩ := ha
  have hkl' := Lib.hid hkl
  have hB0 : Below w.heap.size w w := Below.refl _ _
  clear hkl hkb hS dR hts
  go_enter Tryd.func6, Tryd.ntmps6
  go_upto_region 3 with (first
    | (refine walk_boxed rfl 24 _ rfl .u8 k K hK rfl ?_; intro w1 k1 bb1 s1; clear s1)
    | (go_at_call 14; refine (works w1 (hT0.out.call bb1)).mono ?_; rintro e' w2 ⟨rfl, bb2⟩; have k2 := k1.call bb2; have hB2 := below_then bb1 bb2))
  clear k1 bb1 bb2
  go_cut [1] (fun s1 wx => s1 = .slice p m cap ∧ Arr .u8 wx w.heap.size k ∧ Below w.heap.size w wx)
  case first =>
    by_cases hlea : n0 ≤ 300
    · have hmma : Hid (n0 = m) := by have := hma.out; show _ = _; omega
      have k1a : (n0 : Int) ≤ 300 := by omega
      have k9a : ¬ (300 : Int) < (n0 : Int) := by omega
      have k2a : (n0 : Int) ≤ (cap : Int) := by have := hnca.out; omega
      have k3a : n0 ≤ cap := hnca.out
      have k6a : (0 : Int) ≤ (n0 : Int) := by omega
      go_wp2
      go_meet
      exact ⟨by rw [hmma.out], k2, hB2⟩
    · have hmma : Hid (300 = m) := by have := hma.out; show _ = _; omega
      have k1a : ¬ (n0 : Int) ≤ 300 := by omega
      have k4a : (300 : Int) < (n0 : Int) := by omega
      have k2a : (300 : Int) ≤ (cap : Int) := by have := hnca.out; omega
      have k3a : 300 ≤ cap := by have := hnca.out; omega
      go_wp2
      go_meet
      exact ⟨by rw [hmma.out], k2, hB2⟩
  case rest =>
    clear k2 hB2 hma hn0a hxs hnca hB0
    obtain ⟨rfl, k2, hB2⟩ := hcut
    go_upto_region 5 with (first
      | (refine walk_read rfl 24 _ rfl k2 rfl 32 _ Tryd.underlying24 (by kernel_rfl) hkl'.out K hK ?_)
      | (go_at_call 12; refine (dT.out wc hB2).mono ?_; rintro e' w3 ⟨rfl, b3⟩; have b3' := below_then (row_below wc p m cap) b3; have k3 := k2.call b3'; have hB3 := below_then hB2 b3')
      | (refine walk_arr rfl 26 rfl .u8 (List.replicate 16 0) (by kernel_rfl) ?_; intro w4 t4 b4 s4; clear s4; have k4 := k3.call b4; have hB4 := below_then hB3 b4)
      | (refine walk_store rfl 26 _ _ rfl t4 rfl Y hY rfl (by rw [hDl.out]; kernel_rfl) (by rw [hDl.out]; rfl) ?_; intro w5 t5 s5 o5; have k5 := k4.only o5 (Nat.ne_of_lt k3.lt) s5; have hB5 := below_only hB4 o5 hB3.size s5; clear s5))
    have q3 : w.heap.size ≠ w3.heap.size := Nat.ne_of_lt k3.lt
    have q3w : w.heap.size ≤ w3.heap.size := hB3.size
    clear b3 b3' k3 hB3 t4 b4 k4 hB4 o5 k2 hB2
    generalize w3.heap.size = g at *
    have hc := t5.c i (by rw [hDl.out]; exact hi16)
    have hf := t5.f i (by rw [hDl.out]; exact hi16)
    have hgl := t5.lt
    have t6 := t5.set i V (by rw [hDl.out]; exact hi16)
    have k6 := k5.apart q3 i (.int .u8 V)
    have hB6 := hB5.setCell (p := ⟨g, i, none⟩) q3w (.int .u8 V)
    rw [hE.out] at t6
    have hV' := hV.out
    generalize D.getD i 0 = x at hc hV' hDget
    obtain ⟨x0, x1⟩ := hDget
    clear hV hE hE'
    try simp only [Act.put, List.setIfInBounds_toArray, List.set_cons_zero, List.set_cons_succ]
    go_upto_region 6 with fail
    generalize hw6 : w5.setCell ⟨g, i, none⟩ (.int .u8 V) = w6 at t6 k6 hB6 ⊢
    clear hw6 hc hf hgl t5 k5 hB5 hV'
    by_cases hz : by_ = 0
    · have hd : decide (E = D) = true := decide_eq_true (hts'.out.mpr hz)
      rw [hd] at dR1
      subst hz
      go_wp2_with (first
        | (refine walk_read (zs := k) rfl 24 _ rfl k6 rfl 32 _ Tryd.underlying24 (by kernel_rfl) hkl'.out K hK ?_)
        | (refine walk_read (zs := E) rfl 26 _ rfl t6 rfl 16 _ Tryd.underlying26 (by kernel_rfl) hEl.out YE hYE ?_)
        | (go_at_call 13; refine (dR1.out w6 hB6).mono ?_; rintro e' w7 ⟨rfl, b7⟩; have hB7 := below_then hB6 (below_then (row_below w6 p m cap) b7)))
      go_ret
      exact ⟨rfl, hB7⟩
    · have hd : decide (E = D) = false := decide_eq_false (fun h => hz (hts'.out.mp h))
      rw [hd] at dR1
      go_wp2_with (first
        | (refine walk_read (zs := k) rfl 24 _ rfl k6 rfl 32 _ Tryd.underlying24 (by kernel_rfl) hkl'.out K hK ?_)
        | (refine walk_read (zs := E) rfl 26 _ rfl t6 rfl 16 _ Tryd.underlying26 (by kernel_rfl) hEl.out YE hYE ?_)
        | (go_at_call 13; refine (dR1.out w6 hB6).mono ?_; rintro e' w7 ⟨rfl, b7⟩; have hB7 := below_then hB6 (below_then (row_below w6 p m cap) b7)))
      go_ret
      exact ⟨by rw [← show (!by_ == 0) = true by simp [hz]]; rfl, hB7⟩


set_option maxRecDepth 100000 in
theorem lifted (os : Os) (started : os.Started) (H : Type) (enc : TypeId × Value → H) :
    ReturnsInHanded {} Tryd.checked os 6 .any (fun w args => (Rows.macTurnedSpec.pre enc Tryd.prog Tryd.f6 [] false w args ∧ laidMetH Tryd.prog laidT w) ∧ sizedMet enc Tryd.prog Tryd.f6 (OpenSpec.ofChange Rows.macTurnedSpec) false w args)
      (Rows.macTurnedSpec.post enc Tryd.prog Tryd.f6 false true false false) := by
  refine returnsInHanded_of_change_and (C := Tryd.checked) (X := fun w _ => laidMetH Tryd.prog laidT w) (fun _ _ _ hh h => h.of_heap hh) own started (by kernel_rfl) Tryd.func6
    (ChangeSpec.witness_shaped (enc := enc) (C := Tryd.checked) (os := os) (X := fun w _ => laidMetH Tryd.prog laidT w) false (World.doorLaid Tryd.prog 400 os) #[.agg #[.int .u8 0, .int .u8 0, .int .u8 0, .int .u8 0, .int .u8 0, .int .u8 0, .int .u8 0, .int .u8 0, .int .u8 0, .int .u8 0, .int .u8 0, .int .u8 0, .int .u8 0, .int .u8 0, .int .u8 0, .int .u8 0, .int .u8 0, .int .u8 0, .int .u8 0, .int .u8 0, .int .u8 0, .int .u8 0, .int .u8 0, .int .u8 0, .int .u8 0, .int .u8 0, .int .u8 0, .int .u8 0, .int .u8 0, .int .u8 0, .int .u8 0, .int .u8 0], .slice none 0 0, .int .u8 0, .int .u8 0] 8 rfl (World.shaped_of_RefB (by kernel_rfl) (by kernel_rfl)) (by kernel_rfl) (by kernel_rfl) (by kernel_rfl) (door_met os _)) ?_
  intro W1 base args ds gs before hval0 hW _ _ hL _
  have hval : ∀ (j : Nat) t v, Tryd.f6.params[j]? = some t → args[j]? = some v → Value.okWide Tryd.prog W1 .any base t v := hval0
  have hW' := hW
  obtain ⟨p, q, hA0, hV, rfl, hfz, hnd⟩ := hW
  have hA : DataW.TrodAll enc Tryd.prog W1 0 (fun _ => true) true Tryd.f6.params.toList args.toList ds p := hA0
  rw [Tryd.params6] at hA hval
  obtain ⟨v0, vs0, d0, ds0, p0, q0, hargs, rfl, rfl, h0, r0⟩ := trodAll_cons hA
  obtain ⟨v1, vs1, d1, ds1, p1, q1, rfl, rfl, rfl, h1, r1⟩ := trodAll_cons r0
  obtain ⟨v2, vs2, d2, ds2, p2, q2, rfl, rfl, rfl, h2, r2⟩ := trodAll_cons r1
  obtain ⟨v3, vs3, d3, ds3, p3, q3, rfl, rfl, rfl, h3, r3⟩ := trodAll_cons r2
  obtain ⟨rfl, rfl, rfl⟩ := trodAll_nil r3
  obtain rfl : args = #[v0, v1, v2, v3] := by cases args; simp_all
  obtain ⟨rfl, rfl⟩ := trodVars_none hV
  obtain ⟨k, w0, u0, rfl⟩ := open_bytes Tryd.underlying24 Tryd.underlying5 (by kernel_rfl) (by kernel_rfl) (hval 0 24 v0 rfl rfl) h0
  obtain ⟨xs, w1⟩ := open_list (k := .u8) Tryd.underlying22 Tryd.underlying5 (by kernel_rfl) (hval 1 22 v1 rfl rfl) h1
  obtain ⟨at_, rfl, e2, -, w2⟩ := open_int Tryd.underlying5 (hval 2 5 v2 rfl rfl) h2
  obtain ⟨by_, rfl, e3, -, w3⟩ := open_int Tryd.underlying5 (hval 3 5 v3 rfl rfl) h3
  have hS := steps_of_laid hL
  clear hA0 hval0 hval hA hL
  refine (walk k v1 xs at_ by_ W1 w0 u0 w1 (byte_of_wf w2) (byte_of_wf w3) hS).mono fun e W' ⟨he, hg⟩ => ?_
  subst he
  exact ⟨_, rfl, law_post laidOut (by kernel_rfl) rfl (by kernel_rfl) Tryd.underlying4 hW' rfl hg⟩

theorem over : Rows.MacTurnedSaid :=
  OpenClaim.holds_of_wide 6 Tryd.f6 rfl rfl rfl rfl rfl rfl rfl ⟨rfl, rfl, rfl, rfl, rfl⟩ rfl rfl rfl rfl rfl (by kernel_rfl) Tryd.func6 (by kernel_rfl)
    (of_decide_eq_true (by kernel_rfl)) (by unfold Func.isWrapper; first | (rw [if_pos (by decide +kernel)]; kernel_rfl) | (rw [if_neg (by decide +kernel)]; exact ⟨rfl, rfl⟩))
    (fun os started H enc _ => lifted os started H enc)

theorem proved : Rows.MacTurnedCardSaid :=
  Claim7.holds_tied_plain_at .later [] [.data] true (true, "69e4521ff2fdce1f051ee1d69ed6419597ed824af55348f8ef85668a2928a1fb") false
    over (fun _ h => by cases h) (by kernel_rfl) (fun _ h => by cases h) macTurned_row_tie rfl ⟨rfl, rfl⟩ (by kernel_rfl) rfl
    (fun f fn hf hfn => by
      obtain rfl : f = 6 := Option.some.inj ((show Tryd.prog.funcNamed "pelorus/peloruslaw09.MacTurned" = some 6 by kernel_rfl).symm.trans hf) |>.symm
      obtain rfl : fn = Tryd.f6 := (Option.some.inj (Tryd.func6.symm.trans hfn)).symm
      exact ⟨by kernel_rfl, fun j t ht => by
        rw [Tryd.params6] at ht
        have hm : t ∈ [24, 22, 5, 5] := by simpa using Array.mem_of_getElem? ht
        have hall : ([24, 22, 5, 5].all fun u => !Tryd.prog.wantsStandIn u) = true := by kernel_rfl
        exact (show Tryd.prog.wantsStandIn t = false by simpa using List.all_eq_true.1 hall t hm)⟩)
    (by kernel_rfl)
end Go.Proofs.YtdbmkelcgfmclaaDoor.macTurned
