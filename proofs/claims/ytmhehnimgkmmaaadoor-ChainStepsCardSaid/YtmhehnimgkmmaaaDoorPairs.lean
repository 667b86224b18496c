/- A region that draws its order: two reads that may come in either order, and a forced rest. No function of the program is named here. -/
import Derived.OrdersHeld
import Derived.StillTail
import Derived.Tactics
namespace Go.Proofs.YtmhehnimgkmmaaaDoor
set_option maxRecDepth 100000
variable {P : Program} {md : Region.Mode} {Q : Exit → Act → World → Prop}
theorem wpAny_pair {ops : Array Oper} {i j : Nat} {oi oj : Oper} {vi vj : Value} {fuel : Nat} {listed : Array Bool} {a : Act} {w : World}
    (hr : Region.ready md ops listed = [i, j]) (hri : Region.ready md ops (listed.setIfInBounds i true) = [j]) (hrj : Region.ready md ops (listed.setIfInBounds j true) = [i])
    (hi : ops[i]? = some oi) (hj : ops[j]? = some oj) (hne : i ≠ j) (hd : ∀ d, oi.dst = some d → oj.dst ≠ some d)
    (hyi : YieldsIf P ops (· = w) oi vi a) (hyi' : YieldsIf P ops (· = w) oi vi (a.put oj.dst vj)) (hyj : YieldsIf P ops (· = w) oj vj a) (hyj' : YieldsIf P ops (· = w) oj vj (a.put oi.dst vi))
    (h : wpAny P md ops Q fuel ((listed.setIfInBounds i true).setIfInBounds j true) ((a.put oi.dst vi).put oj.dst vj) w) : wpAny P md ops Q (fuel + 2) listed a w := by
  refine wpAny_all hr (by simp) fun k hk => ?_
  rcases List.mem_cons.mp hk with rfl | hk
  · exact hyi.wpOp hi rfl (wpAny_all hri (by simp) fun k' hk' => by
      obtain rfl := List.mem_singleton.mp hk'
      exact hyj'.wpOp hj rfl h)
  · obtain rfl := List.mem_singleton.mp hk
    exact hyj.wpOp hj rfl (wpAny_all hrj (by simp) fun k' hk' => by
      obtain rfl := List.mem_singleton.mp hk'
      refine hyi'.wpOp hi rfl ?_
      rw [Array.setIfInBounds_comm _ _ hne, Act.put_comm a vi vj hd] at h
      exact h)
/-- From number k on the order is forced. -/
theorem wpAny_rest {l : List Oper} {n : Nat} (k : Nat) {listed : Array Bool} {a : Act} {w : World} (hn : n = (l.drop k).length) (hB : Region.seqB md l.toArray (l.drop k).length k listed = true)
    (h : wpList P l.toArray Q (l.drop k) a w) : wpAny P md l.toArray Q n listed a w := by
  subst hn
  exact wpAny_of_seq (l.drop k) k listed a w (fun j => by simp) hB h

end Go.Proofs.YtmhehnimgkmmaaaDoor
