/- Bytes compared, and copied. -/
import Derived.Test.YtdbmkelcgfmclaaDoorApp
import Derived.Lib.Hide
import Derived.WalkKit
import Derived.Handy
namespace Go.Proofs.YtdbmkelcgfmclaaDoor
set_option maxRecDepth 100000
open Go.RowKit

theorem text_eq (s t : ByteArray) : (s.toList == t.toList) = decide (s = t) := by
  by_cases h : s = t
  · subst h; simp
  · rw [decide_eq_false h, beq_eq_false_iff_ne]
    intro e
    apply h
    rw [ByteArray.toList_eq, ByteArray.toList_eq] at e
    exact ByteArray.ext (Array.toList_inj.mp e)

theorem sameBytes (xs ys : List Int) (bx : Byted xs) (by_ : Byted ys) (n m : Nat) (p q : Option Addr) (c d : Nat) (hn : n = xs.length) (hm : m = ys.length) (w : World) (hx : At .u8 w p xs) (hy : At .u8 w q ys) :
    Calls Tryd.prog 16 #[.slice p n c, .slice q m d] w fun e w' => e = .returned (.bool (decide (xs = ys))) ∧ w = w' := by
  have t1 := hx.text (P := Tryd.prog) Tryd.underlying22 Tryd.underlying5 Tryd.underlying9 n c hn
  have t2 := hy.text (P := Tryd.prog) Tryd.underlying22 Tryd.underlying5 Tryd.underlying9 m d hm
  have f1 := Lib.hid hn
  have f2 := Lib.hid hm
  clear hn hm hx hy
  obtain ⟨s, hs⟩ : ∃ s, Hid (strOfNums xs = s) := ⟨_, rfl⟩
  obtain ⟨t, ht⟩ : ∃ t, Hid (strOfNums ys = t) := ⟨_, rfl⟩
  rw [hs.out] at t1
  rw [ht.out] at t2
  go_enter Tryd.func16, Tryd.ntmps16
  go_wp2
  go_ret
  refine ⟨?_, rfl⟩
  show Ending.returned (.bool (s.toList == t.toList)) = _
  rw [text_eq s t, ← hs.out, ← ht.out]
  congr 2
  exact decide_eq_decide.mpr ⟨fun h => text_inj bx by_ h, fun h => by rw [h]⟩

theorem infoByte : (Tryd.prog.info? 5).map (fun i => (i.zero, i.size, i.bytes)) = some (some (.int .u8 0), 1, 1) := by kernel_rfl

set_option maxHeartbeats 400000 in
theorem baseBytes (xs : List Int) (hl : xs.length ≤ 1000000) (n : Nat) (hn : n = xs.length) (p : Option Addr) (c : Nat) (w : World) (hx : At .u8 w p xs) :
    Calls Tryd.prog 10 #[.slice p n c] w (NewRow .u8 5 w xs) := by
  obtain ⟨i0, hi0, hz0, hz1, hz2⟩ := info_parts infoByte
  subst hn
  have own := World.ownsRow_made (base := w.heap.size) (e := 5) (size := 1) w #[] 0 (Nat.le_refl _) (by unfold maxLen; omega) (by simp)
  have hy := hx.alloc (.cells #[] 5)
  have hB : Below w.heap.size w (w.alloc (.cells #[] 5)) := (Below.refl _ _).alloc (Nat.le_refl _) _
  have hy' := Lib.hid hy
  have hl' := Lib.hid (show (0 + xs.length) * (1 + 1) ≤ 1000000000000 by omega)
  have hb' := Lib.hid (show w.heap.size ≤ (w.alloc (.cells #[] 5)).heap.size by simp)
  clear hl hx hy
  go_enter Tryd.func10, Tryd.ntmps10
  go_wp2_with (at_builtin; refine walk_append (k := .u8) rfl _ _ 22 rfl w.heap.size 5 i0 (.int .u8 0) 1 Tryd.underlying22 hi0 hz0 hz1 hz2 rfl _ 0 [] rfl own p xs.length c xs rfl hy'.out rfl hl'.out hb'.out ?_; intro v' w' own' grow)
  go_ret
  rw [Nat.zero_add, List.nil_append] at own'
  obtain ⟨q, cap, rfl, h1, h2⟩ := own_form own'
  exact ⟨q, cap, rfl, own', h1, h2, hB.grown grow (by simp) (fun _ hg => Nat.le_of_eq (Option.some.inj hg))⟩

end Go.Proofs.YtdbmkelcgfmclaaDoor
