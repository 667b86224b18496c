/- Variables that hold a wide number, and a slice of 128 bits, over calls and stores. -/
import Derived.Test.YtmedemniopgpeaaRefD
namespace Go.Proofs.Ytmedemniopgpeaa
open Go.RowKit

/-- Block g is a variable that holds v. -/
structure Holds (w : World) (g : Nat) (v : Int) : Prop where
  lt : g < w.heap.size
  c0 : w.cell? ⟨g, 0, none⟩ = some (.int .i64 (hi v))
  c1 : w.cell? ⟨g, 1, none⟩ = some (.int .u64 (lo v))
  f0 : w.frozen? ⟨g, 0, none⟩ = false
  f1 : w.frozen? ⟨g, 1, none⟩ = false
theorem Holds.below {w w' : World} {g B : Nat} {v : Int} (h : Holds w g v) (hb : Below B w w') (hg : g < B) : Holds w' g v :=
  ⟨Nat.lt_of_lt_of_le h.lt hb.size, (hb.cell (p := ⟨g, 0, none⟩) hg).trans h.c0, (hb.cell (p := ⟨g, 1, none⟩) hg).trans h.c1, (hb.frozen (p := ⟨g, 0, none⟩) hg).trans h.f0, (hb.frozen (p := ⟨g, 1, none⟩) hg).trans h.f1⟩
theorem Holds.call {w w' : World} {g : Nat} {v : Int} (h : Holds w g v) (hb : Below w.heap.size w w') : Holds w' g v := h.below hb h.lt
theorem Holds.new (w : World) (v : Int) (t : TypeId) : Holds (w.alloc (.cells #[.int .i64 (hi v), .int .u64 (lo v)] t)) w.heap.size v :=
  ⟨by simp, by simp [go_sem], by simp [go_sem], by simp [go_sem], by simp [go_sem]⟩
theorem Holds.alloc {w : World} {g : Nat} {v : Int} (h : Holds w g v) (o : Obj) : Holds (w.alloc o) g v := h.call ((Below.refl _ _).alloc (Nat.le_refl _) o)
theorem Holds.drew {w : World} {g : Nat} {v : Int} (h : Holds w g v) : Holds w.drew g v := ⟨h.lt, h.c0, h.c1, h.f0, h.f1⟩
/-- w with v stored in block g. -/
abbrev put (w : World) (g : Nat) (v : Int) : World := (w.setCell ⟨g, 0, none⟩ (.int .i64 (hi v))).setCell ⟨g, 1, none⟩ (.int .u64 (lo v))
theorem put_size (w : World) (g : Nat) (v : Int) : (put w g v).heap.size = w.heap.size := by simp [World.setCell]
theorem put_other (w : World) (g : Nat) (v : Int) (k : Nat) (hk : k ≠ g) : (put w g v).heap[k]? = w.heap[k]? :=
  (Below.heap_setCell _ _ _ k (by simpa using hk)).trans (Below.heap_setCell _ _ _ k (by simpa using hk))
theorem below_put {B : Nat} {a w : World} (h : Below B a w) {g : Nat} (hg : B ≤ g) (v : Int) : Below B a (put w g v) := (h.setCell (p := ⟨g, 0, none⟩) hg _).setCell (p := ⟨g, 1, none⟩) hg _
theorem put_cell (w : World) (g : Nat) (v : Int) (k j : Nat) (hk : k ≠ g) : (put w g v).cell? ⟨k, j, none⟩ = w.cell? ⟨k, j, none⟩ :=
  World.cell?_of_block (w := w) (a := ⟨k, j, none⟩) (put_other w g v k hk)
theorem put_frozen (w : World) (g : Nat) (v : Int) (k j : Nat) (hk : k ≠ g) : (put w g v).frozen? ⟨k, j, none⟩ = w.frozen? ⟨k, j, none⟩ :=
  World.frozen?_of_block (w := w) (a := ⟨k, j, none⟩) (put_other w g v k hk)
theorem Holds.other {w : World} {g k : Nat} {u : Int} (h : Holds w k u) (hk : k ≠ g) (v : Int) : Holds (put w g v) k u :=
  ⟨by rw [put_size]; exact h.lt, by rw [put_cell _ _ _ _ _ hk]; exact h.c0, by rw [put_cell _ _ _ _ _ hk]; exact h.c1, by rw [put_frozen _ _ _ _ _ hk]; exact h.f0, by rw [put_frozen _ _ _ _ _ hk]; exact h.f1⟩
theorem Holds.same {w : World} {g : Nat} {u : Int} (h : Holds w g u) (v : Int) : Holds (put w g v) g v := by
  obtain ⟨h1, h2, h3, h4, h5⟩ := h
  exact ⟨by rw [put_size]; exact h1, by simp [go_sem, h2], by simp [go_sem, h3], by simp [go_sem, h4], by simp [go_sem, h5]⟩

/-- Block g holds 128 integers, from off on. -/
structure Ints (w : World) (g off : Nat) (f : Nat → Int) : Prop where
  lt : g < w.heap.size
  at_ : ∀ j, j < 128 → w.cell? ⟨g, off + j, none⟩ = some (.int .i64 (f j))
theorem Ints.below {w w' : World} {g off B : Nat} {f : Nat → Int} (h : Ints w g off f) (hb : Below B w w') (hg : g < B) : Ints w' g off f :=
  ⟨Nat.lt_of_lt_of_le h.lt hb.size, fun j hj => (hb.cell (p := ⟨g, off + j, none⟩) hg).trans (h.at_ j hj)⟩
theorem Ints.call {w w' : World} {g off : Nat} {f : Nat → Int} (h : Ints w g off f) (hb : Below w.heap.size w w') : Ints w' g off f := h.below hb h.lt
theorem Ints.alloc {w : World} {g off : Nat} {f : Nat → Int} (h : Ints w g off f) (o : Obj) : Ints (w.alloc o) g off f := h.call ((Below.refl _ _).alloc (Nat.le_refl _) o)
theorem Ints.other {w : World} {g k off : Nat} {f : Nat → Int} (h : Ints w k off f) (hk : k ≠ g) (v : Int) : Ints (put w g v) k off f :=
  ⟨by rw [put_size]; exact h.lt, fun j hj => by rw [put_cell _ _ _ _ _ hk]; exact h.at_ j hj⟩
theorem Ints.of_row {w : World} {base : Nat} {e : TypeId} {g cap : Nat} {a : Int} (h : w.ownsRow base e 1 (.slice (some ⟨g, 0, none⟩) 128 cap) 128 (bits_ a 128)) : Ints w g 0 (bit a) :=
  ⟨(h.lt g rfl).2, fun j hj => by rw [Nat.zero_add]; exact (row_cell h (Below.refl _ _)).2 j hj⟩
theorem number_ints (a : Int) {w : World} {g off cap : Nat} (h : Ints w g off (bit a)) :
    Calls Try.prog 47 #[.slice (some ⟨g, off, none⟩) 128 cap] w fun e w' => e = .returned (W a) ∧ Below w.heap.size w w' :=
  refNumber (bit a) (fun i => ⟨bit_lo a i, bit_hi a i⟩) a (sumBits_bit a 128) g off cap w h.at_

end Go.Proofs.Ytmedemniopgpeaa
