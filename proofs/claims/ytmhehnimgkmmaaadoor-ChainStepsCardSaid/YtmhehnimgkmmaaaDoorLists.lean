/- Slices that read as a list of integers: kept over calls and new blocks; parts of them; bytes as a text. No function of the program is named here. -/
import Derived.Test.YtmhehnimgkmmaaaDoorHeld
import Derived.Laws.BytesArg
import Derived.Laws.OwnMore
namespace Go.Proofs.YtmhehnimgkmmaaaDoor
set_option maxRecDepth 100000
open Go.RowKit

/-- p leads to these integers, or there are none. -/
def At (k : IntKind) (w : World) (p : Option Addr) (zs : List Int) : Prop :=
  zs = [] ∨ ∃ b off, p = some ⟨b, off, none⟩ ∧ b < w.heap.size ∧ ∀ j, j < zs.length → w.cell? ⟨b, off + j, none⟩ = some (.int k (zs.getD j 0))

section
variable {k : IntKind} {w w' : World} {p : Option Addr} {zs : List Int}
theorem At.nil : At k w p [] := Or.inl rfl
theorem At.call (h : At k w p zs) (hb : Below w.heap.size w w') : At k w' p zs := by
  rcases h with h | ⟨b, off, e, hl, hc⟩
  · exact Or.inl h
  · exact Or.inr ⟨b, off, e, Nat.lt_of_lt_of_le hl hb.size, fun j hj => (hb.cell (p := ⟨b, off + j, none⟩) hl).trans (hc j hj)⟩
theorem At.alloc (h : At k w p zs) (o : Obj) : At k (w.alloc o) p zs := h.call ((Below.refl _ _).alloc (Nat.le_refl _) o)
theorem At.drew (h : At k w p zs) : At k w.drew p zs := h
theorem At.take (h : At k w p zs) (m : Nat) : At k w p (zs.take m) := by
  rcases h with rfl | ⟨b, off, e, hl, hc⟩
  · exact Or.inl (List.take_nil)
  · refine Or.inr ⟨b, off, e, hl, fun j hj => ?_⟩
    rw [List.length_take] at hj
    rw [hc j (by omega), List.getD_eq_getElem?_getD, List.getD_eq_getElem?_getD, List.getElem?_take, if_pos (by omega)]
theorem At.drop (h : At k w p zs) (m : Nat) : At k w (p.map fun a => ⟨a.block, a.off + m, none⟩) (zs.drop m) := by
  rcases h with rfl | ⟨b, off, rfl, hl, hc⟩
  · exact Or.inl (List.drop_nil)
  · refine Or.inr ⟨b, off + m, rfl, hl, fun j hj => ?_⟩
    rw [List.length_drop] at hj
    rw [Nat.add_assoc, hc (m + j) (by omega), List.getD_eq_getElem?_getD, List.getD_eq_getElem?_getD, List.getElem?_drop]
theorem At.of_own {base : Nat} {e : TypeId} {n cap : Nat} (h : w.ownsRow base e 1 (.slice p n cap) n (zs.map (Value.int k))) : At k w p zs := by
  have hl := h.1
  rw [List.length_map, Nat.mul_one] at hl
  rcases h.2 with ⟨_, rfl⟩ | ⟨g, cap', cur, hv, _⟩
  · exact Or.inl (List.eq_nil_of_length_eq_zero hl)
  · injection hv with hp _ hcap
    subst hp hcap
    refine Or.inr ⟨g, 0, rfl, (h.lt g rfl).2, fun j hj => ?_⟩
    rw [Nat.zero_add, h.cellAt j (by omega), List.getElem?_map, List.getD_eq_getElem?_getD, List.getElem?_eq_getElem hj]
    rfl
theorem At.cell (h : At k w p zs) {j : Nat} (hj : j < zs.length) : ∃ b off, p = some ⟨b, off, none⟩ ∧ b < w.heap.size ∧ w.cell? ⟨b, off + j, none⟩ = some (.int k (zs.getD j 0)) := by
  rcases h with rfl | ⟨b, off, e, hl, hc⟩
  · simp at hj
  · exact ⟨b, off, e, hl, hc j hj⟩
end

/-- Bytes, as numbers. -/
def Byted (xs : List Int) : Prop := ∀ x ∈ xs, 0 ≤ x ∧ x ≤ 255
theorem Byted.take {xs : List Int} (h : Byted xs) (n : Nat) : Byted (xs.take n) := fun x hx => h x (List.mem_of_mem_take hx)
theorem Byted.drop {xs : List Int} (h : Byted xs) (n : Nat) : Byted (xs.drop n) := fun x hx => h x (List.mem_of_mem_drop hx)
theorem Byted.append {xs ys : List Int} (h : Byted xs) (g : Byted ys) : Byted (xs ++ ys) := fun x hx => (List.mem_append.mp hx).elim (h x) (g x)
theorem Byted.at_ {xs : List Int} (h : Byted xs) (j : Nat) : 0 ≤ xs.getD j 0 ∧ xs.getD j 0 ≤ 255 := by
  by_cases hj : j < xs.length
  · rw [List.getD_eq_getElem?_getD, List.getElem?_eq_getElem hj]
    exact h _ (List.getElem_mem hj)
  · rw [List.getD_eq_getElem?_getD, List.getElem?_eq_none (by omega)]
    exact ⟨by decide, by decide⟩
theorem byte_inj {x y : Int} (hx : 0 ≤ x ∧ x ≤ 255) (hy : 0 ≤ y ∧ y ≤ 255) (h : UInt8.ofNat x.toNat = UInt8.ofNat y.toNat) : x = y := by
  have h2 := congrArg UInt8.toNat h
  rw [UInt8.toNat_ofNat', UInt8.toNat_ofNat'] at h2
  omega
theorem bytes_inj : ∀ {xs ys : List Int}, Byted xs → Byted ys → (xs.map fun n => UInt8.ofNat n.toNat) = (ys.map fun n => UInt8.ofNat n.toNat) → xs = ys
  | [], [], _, _, _ => rfl
  | [], _ :: _, _, _, h => by cases h
  | _ :: _, [], _, _, h => by cases h
  | x :: xs, y :: ys, hx, hy, h => by
    rw [List.map_cons, List.map_cons] at h
    injection h with h1 h2
    rw [byte_inj (hx x (by simp)) (hy y (by simp)) h1, bytes_inj (fun z hz => hx z (by simp [hz])) (fun z hz => hy z (by simp [hz])) h2]
theorem text_inj {xs ys : List Int} (hx : Byted xs) (hy : Byted ys) (h : strOfNums xs = strOfNums ys) : xs = ys :=
  bytes_inj hx hy (by rw [← strOfNums_data, ← strOfNums_data, h])
/-- Bytes as a text. -/
theorem At.text {P : Program} {w : World} {p : Option Addr} {xs : List Int} (h : At .u8 w p xs) {src e dst : TypeId} (hs : P.underlying src = some (.slice e)) (he : P.underlying e = some (.int .u8))
    (hd : P.underlying dst = some .string) (n cap : Nat) (hn : n = xs.length) : (convert src dst (.slice p n cap)).run P w = .ok (.string (strOfNums xs)) w := by
  subst hn
  rcases h with rfl | ⟨b, off, rfl, _, hc⟩
  · cases p with
    | none => exact run_convert_bytes_nil w src e hs he 0 cap dst hd
    | some a =>
      have hl : (loadCells a 0).run P w = .ok (([] : List Int).map (Value.int .u8)).toArray w := by simpa using run_loadCells_list (P := P) w a [] (by simp)
      exact (run_convert_bytes_string w src dst e (some a) 0 cap hs he hd).trans (run_bytesToString w a 0 cap [] hl)
  · exact run_convert_bytes_arg w src e hs he b off xs.length cap xs rfl hc dst hd

end Go.Proofs.YtmhehnimgkmmaaaDoor
