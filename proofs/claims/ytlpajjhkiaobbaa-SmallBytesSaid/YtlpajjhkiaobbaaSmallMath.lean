/- Plain facts on short numbers; no function of the program is named here. -/
import Derived.Test.YtlpajjhkiaobbaaFixMath
namespace Go.Proofs.Ytlpajjhkiaobbaa

/-- A number of 32 bits. -/
def Short (n : Int) : Prop := -2147483648 ≤ n ∧ n ≤ 2147483647
theorem Short.half {n : Int} (h : Short n) : Half n := by unfold Short at h; unfold Half; omega
/-- The nearest one of 32 bits, and whether that is another. -/
def clip32 (n : Int) : Int := max (-2147483648) (min 2147483647 n)
def cut32 (n : Int) : Bool := decide (n < -2147483648) || decide (2147483647 < n)
abbrev sat32 (x : Int) : Value := .tuple #[.int .i32 (clip32 x), .bool (cut32 x)]
theorem sat32_eq {x n : Int} {c : Bool} (h : clip32 x = n) (h2 : cut32 x = c) : sat32 x = .tuple #[.int .i32 n, .bool c] := by unfold sat32; rw [h, h2]
theorem near16 (x : Int) : near x 16 = (x + 32768) / 65536 := by
  unfold near
  rw [if_neg (by decide), show (places 16).toNat = 16 by decide]
  rfl
theorem half_near16 {a : Int} (h : Half a) : Half ((a + 32768) / 65536) := by unfold Half at h ⊢; omega
theorem half_product {a b : Int} (ha : Short a) (hb : Short b) : -4611686018427387904 ≤ a * b ∧ a * b ≤ 4611686018427387904 := by
  unfold Short at ha hb
  rcases Int.lt_or_le a 0 with h0 | h0 <;> rcases Int.lt_or_le b 0 with h1 | h1
  · have e : a * b = -a * -b := by rw [Int.neg_mul_neg]
    have := Int.mul_le_mul (show -a ≤ 2147483648 by omega) (show -b ≤ 2147483648 by omega) (by omega) (by decide)
    have := Int.mul_nonneg (show 0 ≤ -a by omega) (show 0 ≤ -b by omega)
    omega
  · have e : a * b = -(-a * b) := by rw [Int.neg_mul, Int.neg_neg]
    have := Int.mul_le_mul (show -a ≤ 2147483648 by omega) (show b ≤ 2147483648 by omega) h1 (by decide)
    have := Int.mul_nonneg (show 0 ≤ -a by omega) h1
    omega
  · have e : a * b = -(a * -b) := by rw [Int.mul_neg, Int.neg_neg]
    have := Int.mul_le_mul (show a ≤ 2147483648 by omega) (show -b ≤ 2147483648 by omega) (by omega) (by decide)
    have := Int.mul_nonneg h0 (show 0 ≤ -b by omega)
    omega
  · have := Int.mul_le_mul (show a ≤ 2147483648 by omega) (show b ≤ 2147483648 by omega) h1 (by decide)
    have := Int.mul_nonneg h0 h1
    omega
theorem clipped_of_half {x : Int} (h : Half x) : clipped x = x := clipped_in x (by unfold Half at h; unfold cut; exact decide_eq_false (by omega))

end Go.Proofs.Ytlpajjhkiaobbaa
