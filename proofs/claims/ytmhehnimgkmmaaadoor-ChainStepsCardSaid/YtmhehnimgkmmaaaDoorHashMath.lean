/- Digests: words turned to the right, mixed; a block's words; rounds; bytes padded. Plain mathematics: no function of the program is named here. -/
import Derived.WalkKit
import Derived.Laws.BitsAllLaws
import Derived.OpenShut
namespace Go.Proofs.YtmhehnimgkmmaaaDoor
set_option maxRecDepth 100000

/-- A word of 32 bits, a byte. -/
def U32 (x : Int) : Prop := 0 ≤ x ∧ x ≤ 4294967295
def U8 (x : Int) : Prop := 0 ≤ x ∧ x ≤ 255
instance : DecidablePred U32 := fun x => by unfold U32; infer_instance
theorem u32_bits (op : BinOp) (x y : Int) : U32 (bits op .u32 x y) := by
  have h := wf_bits op .u32 x y
  simp [Lit.wf, IntKind.min, IntKind.max, IntKind.signed, IntKind.bits] at h
  unfold U32
  omega
theorem u32_mod (x : Int) : U32 (x % 4294967296) := by unfold U32; omega

/-- Turned to the right by one; by n. -/
def turn1 (x : Int) : Int := x / 2 + x % 2 * 2147483648
def rot : Nat → Int → Int
  | 0, x => x
  | n + 1, x => rot n (turn1 x)
theorem turn1_u32 {x : Int} (h : U32 x) : U32 (turn1 x) := by unfold U32 turn1 at *; omega
theorem rot_succ (n : Nat) : ∀ x : Int, rot (n + 1) x = turn1 (rot n x) := by
  induction n with
  | zero => intro x; rfl
  | succ n ih => intro x; rw [rot, ih, rot]
theorem rot_u32 (n : Nat) : ∀ {x : Int}, U32 x → U32 (rot n x) := by
  induction n with
  | zero => intro x h; exact h
  | succ n ih => intro x h; exact ih (turn1_u32 h)
/-- Turned to the right by n, at once. -/
theorem rot_is (n : Nat) : n ≤ 32 → ∀ {x : Int}, rot n x = x / 2 ^ n + x % 2 ^ n * 2 ^ (32 - n) := by
  induction n with
  | zero => intro _ x; simp [rot, Int.emod_one]
  | succ n ih =>
    intro hn x
    have hp : (0 : Int) < 2 ^ n := Int.pow_pos (by decide)
    have e31 : (2147483648 : Int) = 2 ^ n * 2 ^ (31 - n) := by rw [← Int.pow_add, show n + (31 - n) = 31 by omega]; rfl
    have e32 : (2 : Int) ^ (32 - n) = 2 * 2 ^ (31 - n) := by rw [show 32 - n = (31 - n) + 1 by omega, Int.pow_succ, Int.mul_comm]
    have es : (2 : Int) ^ (n + 1) = 2 * 2 ^ n := by rw [Int.pow_succ, Int.mul_comm]
    rw [rot, ih (by omega), turn1, show 32 - (n + 1) = 31 - n by omega, e32, es]
    have a1 : (x / 2 + x % 2 * 2147483648) / 2 ^ n = x / 2 / 2 ^ n + x % 2 * 2 ^ (31 - n) := by
      rw [e31, show x % 2 * (2 ^ n * 2 ^ (31 - n)) = x % 2 * 2 ^ (31 - n) * 2 ^ n by rw [Int.mul_comm (2 ^ n), Int.mul_assoc], Int.add_mul_ediv_right _ _ (Int.ne_of_gt hp)]
    have a2 : (x / 2 + x % 2 * 2147483648) % 2 ^ n = x / 2 % 2 ^ n := by
      rw [e31, show x % 2 * (2 ^ n * 2 ^ (31 - n)) = x % 2 * 2 ^ (31 - n) * 2 ^ n by rw [Int.mul_comm (2 ^ n), Int.mul_assoc], Int.add_mul_emod_self_right]
    have a3 : x / 2 / 2 ^ n = x / (2 * 2 ^ n) := by rw [Int.ediv_ediv_of_nonneg (by decide)]
    have a4 : x % (2 * 2 ^ n) = x % 2 + 2 * (x / 2 % 2 ^ n) := by
      have h1 := Int.mul_ediv_add_emod x (2 * 2 ^ n)
      have h2 := Int.mul_ediv_add_emod x 2
      have h3 := Int.mul_ediv_add_emod (x / 2) (2 ^ n)
      rw [a3] at h3
      have h4 : 2 * 2 ^ n * (x / (2 * 2 ^ n)) = 2 * (2 ^ n * (x / (2 * 2 ^ n))) := by rw [Int.mul_assoc]
      omega
    rw [a1, a2, a3, a4]
    generalize (2 : Int) ^ (31 - n) = p
    generalize x / (2 * 2 ^ n) = q
    generalize x / 2 % 2 ^ n = r
    generalize x % 2 = b
    rw [Int.add_mul, Int.mul_assoc 2 r p, show r * (2 * p) = 2 * (r * p) by rw [← Int.mul_assoc, Int.mul_comm r 2, Int.mul_assoc]]
    omega
/-- Shifted to the right by n. -/
def down : Nat → Int → Int
  | 0, x => x
  | n + 1, x => down n (x / 2)
theorem down_succ (n : Nat) : ∀ x : Int, down (n + 1) x = down n x / 2 := by
  induction n with
  | zero => intro x; rfl
  | succ n ih => intro x; rw [down, ih, down]
theorem down_is (n : Nat) : ∀ x : Int, down n x = x / 2 ^ n := by
  induction n with
  | zero => intro x; simp [down]
  | succ n ih => intro x; rw [down, ih, Int.ediv_ediv_of_nonneg (by decide), Int.pow_succ, Int.mul_comm]
/-- Two words without a bit in common: 'or' is the sum. -/
theorem or_u32 (k : Nat) {x y : Int} (hx : U32 x) (hy : U32 y) (h : x % 2 ^ k = 0) (hk : y < 2 ^ k) : bits .or .u32 x y = x + y ∧ bits .or .u32 y x = x + y := by
  obtain ⟨h0, h1⟩ := hx
  obtain ⟨h2, h3⟩ := hy
  have e1 : x.toNat % 2 ^ k = 0 := by
    have : ((x.toNat % 2 ^ k : Nat) : Int) = 0 := by
      rw [Int.natCast_emod, Int.toNat_of_nonneg h0, Int.natCast_pow]
      exact h
    omega
  have e2 : y.toNat < 2 ^ k := by
    have : ((y.toNat : Nat) : Int) < ((2 ^ k : Nat) : Int) := by rw [Int.toNat_of_nonneg h2, Int.natCast_pow]; exact hk
    omega
  have hj : x.toNat ||| y.toNat = x.toNat + y.toNat := by
    have := Nat.two_pow_add_eq_or_of_lt e2 (x.toNat / 2 ^ k)
    have h5 : 2 ^ k * (x.toNat / 2 ^ k) = x.toNat := by have := Nat.div_add_mod x.toNat (2 ^ k); omega
    rw [h5] at this
    exact this.symm
  refine ⟨?_, ?_⟩
  · rw [u32_or x y h0 (by omega) h2 (by omega), hj]; omega
  · rw [u32_or y x h2 (by omega) h0 (by omega), Nat.or_comm, hj]; omega
/-- As a program turns: what is shifted to the right, and what is shifted to the left, in one. -/
theorem rot_or {n : Nat} (h0 : 0 < n) (h1 : n < 32) {x : Int} (hx : U32 x) : bits .or .u32 (x / 2 ^ n) (x * 2 ^ (32 - n) % 4294967296) = rot n x ∧ bits .or .u32 (x * 2 ^ (32 - n) % 4294967296) (x / 2 ^ n) = rot n x := by
  have hp : (0 : Int) < 2 ^ n := Int.pow_pos (by decide)
  have hq : (0 : Int) < 2 ^ (32 - n) := Int.pow_pos (by decide)
  have e : (4294967296 : Int) = 2 ^ n * 2 ^ (32 - n) := by rw [← Int.pow_add, show n + (32 - n) = 32 by omega]; rfl
  have em : x * 2 ^ (32 - n) % 4294967296 = x % 2 ^ n * 2 ^ (32 - n) := by
    rw [e, Int.mul_comm x, Int.mul_comm (2 ^ n), Int.mul_emod_mul_of_pos _ _ hq, Int.mul_comm]
  have hd : U32 (x / 2 ^ n) := ⟨Int.ediv_nonneg hx.1 (Int.le_of_lt hp), Int.le_trans (Int.ediv_le_self _ hx.1) hx.2⟩
  have lt : x / 2 ^ n < 2 ^ (32 - n) := Int.ediv_lt_of_lt_mul hp (by rw [Int.mul_comm, ← e]; have := hx.2; omega)
  have z : x % 2 ^ n * 2 ^ (32 - n) % 2 ^ (32 - n) = 0 := Int.mul_emod_left _ _
  have key := or_u32 (32 - n) (u32_mod (x * 2 ^ (32 - n))) hd (by rw [em]; exact z) lt
  rw [rot_is n (by omega), em] at *
  constructor
  · rw [key.2]; omega
  · rw [key.1]; omega
theorem shr_u32 {x : Int} (n : Nat) (hx : U32 x) : U32 (x / 2 ^ n) := ⟨Int.ediv_nonneg hx.1 (Int.le_of_lt (Int.pow_pos (by decide))), Int.le_trans (Int.ediv_le_self _ hx.1) hx.2⟩

/-- Three words, added without carry; what the chapter mixes. -/
def xor3 (a b c : Int) : Int := bits .xor .u32 (bits .xor .u32 a b) c
def lowA (x : Int) : Int := xor3 (rot 7 x) (rot 18 x) (x / 8)
def lowB (x : Int) : Int := xor3 (rot 17 x) (rot 19 x) (x / 1024)
def bigE (x : Int) : Int := xor3 (rot 6 x) (rot 11 x) (rot 25 x)
def bigA (x : Int) : Int := xor3 (rot 2 x) (rot 13 x) (rot 22 x)
def chosen (e f g : Int) : Int := bits .xor .u32 (bits .and .u32 e f) (bits .and .u32 (4294967295 - e) g)
def mostOf (a b c : Int) : Int := xor3 (bits .and .u32 a b) (bits .and .u32 a c) (bits .and .u32 b c)
theorem u32_xor3 (a b c : Int) : U32 (xor3 a b c) := u32_bits _ _ _

/-- A block's words: one more behind those that are there; so many more. -/
def nextW (l : List Int) : Int := (lowB (l.getD (l.length - 2) 0) + l.getD (l.length - 7) 0 + lowA (l.getD (l.length - 15) 0) + l.getD (l.length - 16) 0) % 4294967296
def sched (m : List Int) : Nat → List Int
  | 0 => m
  | k + 1 => sched m k ++ [nextW (sched m k)]
theorem sched_length (m : List Int) (k : Nat) : (sched m k).length = m.length + k := by
  induction k with
  | zero => rfl
  | succ k ih => simp [sched, ih]; omega
theorem sched_get (m : List Int) (k j : Nat) (h : j < m.length + k) : ∀ i, k ≤ i → (sched m i).getD j 0 = (sched m k).getD j 0 := by
  intro i hi
  induction i with
  | zero => rw [show k = 0 by omega]
  | succ i ih =>
    rcases Nat.lt_or_eq_of_le hi with h1 | h1
    · rw [sched, List.getD_eq_getElem?_getD, List.getElem?_append_left (by rw [sched_length]; omega), ← List.getD_eq_getElem?_getD]
      exact ih (by omega)
    · rw [h1]
theorem sched_u32 {m : List Int} (hm : ∀ x ∈ m, U32 x) (k : Nat) : ∀ x ∈ sched m k, U32 x := by
  induction k with
  | zero => exact hm
  | succ k ih =>
    intro x hx
    rw [sched, List.mem_append] at hx
    rcases hx with h | h
    · exact ih x h
    · rw [List.mem_singleton.mp h]; exact u32_mod _

/-- A state: eight words. -/
structure S8 where
  a : Int
  b : Int
  c : Int
  d : Int
  e : Int
  f : Int
  g : Int
  h : Int
/-- A state's words are words. -/
structure S8.Ok (s : S8) : Prop where
  a : U32 s.a
  b : U32 s.b
  c : U32 s.c
  d : U32 s.d
  e : U32 s.e
  f : U32 s.f
  g : U32 s.g
  h : U32 s.h
/-- t and u of a round; a round; so many rounds; the state behind a block. -/
def tOf (s : S8) (k w : Int) : Int := (s.h + bigE s.e + chosen s.e s.f s.g + k + w) % 4294967296
def uOf (s : S8) : Int := (bigA s.a + mostOf s.a s.b s.c) % 4294967296
def round1 (s : S8) (k w : Int) : S8 := ⟨(tOf s k w + uOf s) % 4294967296, s.a, s.b, s.c, (s.d + tOf s k w) % 4294967296, s.e, s.f, s.g⟩
def rounds8 (K W : Nat → Int) (s : S8) : Nat → S8
  | 0 => s
  | i + 1 => round1 (rounds8 K W s i) (K i) (W i)
def add8 (s t : S8) : S8 := ⟨(s.a + t.a) % 4294967296, (s.b + t.b) % 4294967296, (s.c + t.c) % 4294967296, (s.d + t.d) % 4294967296, (s.e + t.e) % 4294967296, (s.f + t.f) % 4294967296, (s.g + t.g) % 4294967296, (s.h + t.h) % 4294967296⟩
theorem round1_ok {s : S8} (h : s.Ok) (k w : Int) : (round1 s k w).Ok := ⟨u32_mod _, h.a, h.b, h.c, u32_mod _, h.e, h.f, h.g⟩
theorem rounds8_ok {s : S8} (h : s.Ok) (K W : Nat → Int) (i : Nat) : (rounds8 K W s i).Ok := by
  induction i with
  | zero => exact h
  | succ i ih => exact round1_ok ih _ _
theorem add8_ok (s t : S8) : (add8 s t).Ok := ⟨u32_mod _, u32_mod _, u32_mod _, u32_mod _, u32_mod _, u32_mod _, u32_mod _, u32_mod _⟩

/-- The table; the state at first. -/
def tableL : List Int := [
  0x428a2f98, 0x71374491, 0xb5c0fbcf, 0xe9b5dba5, 0x3956c25b, 0x59f111f1, 0x923f82a4, 0xab1c5ed5,
  0xd807aa98, 0x12835b01, 0x243185be, 0x550c7dc3, 0x72be5d74, 0x80deb1fe, 0x9bdc06a7, 0xc19bf174,
  0xe49b69c1, 0xefbe4786, 0x0fc19dc6, 0x240ca1cc, 0x2de92c6f, 0x4a7484aa, 0x5cb0a9dc, 0x76f988da,
  0x983e5152, 0xa831c66d, 0xb00327c8, 0xbf597fc7, 0xc6e00bf3, 0xd5a79147, 0x06ca6351, 0x14292967,
  0x27b70a85, 0x2e1b2138, 0x4d2c6dfc, 0x53380d13, 0x650a7354, 0x766a0abb, 0x81c2c92e, 0x92722c85,
  0xa2bfe8a1, 0xa81a664b, 0xc24b8b70, 0xc76c51a3, 0xd192e819, 0xd6990624, 0xf40e3585, 0x106aa070,
  0x19a4c116, 0x1e376c08, 0x2748774c, 0x34b0bcb5, 0x391c0cb3, 0x4ed8aa4a, 0x5b9cca4f, 0x682e6ff3,
  0x748f82ee, 0x78a5636f, 0x84c87814, 0x8cc70208, 0x90befffa, 0xa4506ceb, 0xbef9a3f7, 0xc67178f2]
def tableW (i : Nat) : Int := tableL.getD i 0
def first8 : S8 := ⟨0x6a09e667, 0xbb67ae85, 0x3c6ef372, 0xa54ff53a, 0x510e527f, 0x9b05688c, 0x1f83d9ab, 0x5be0cd19⟩
theorem first8_ok : first8.Ok := ⟨by decide, by decide, by decide, by decide, by decide, by decide, by decide, by decide⟩
theorem tableL_ok : ∀ x ∈ tableL, U32 x := by decide +kernel
theorem tableW_ok (i : Nat) : U32 (tableW i) := by
  unfold tableW
  rw [List.getD_eq_getElem?_getD]
  cases h : tableL[i]? with
  | none => decide
  | some x => exact tableL_ok x (List.mem_of_getElem? h)

/-- Sixteen words of the bytes from o on. -/
def wordAt (l : List Int) (o : Nat) : Int := 16777216 * l.getD o 0 + 65536 * l.getD (o + 1) 0 + 256 * l.getD (o + 2) 0 + l.getD (o + 3) 0
def words16 (l : List Int) (o : Nat) : List Int := (List.range 16).map fun i => wordAt l (o + 4 * i)
/-- The state behind a block. -/
def block8 (s : S8) (m : List Int) : S8 := add8 s (rounds8 tableW (fun j => (sched m 48).getD j 0) s 64)
/-- The state behind the first n blocks of these bytes. -/
def blocks8 (l : List Int) (s : S8) : Nat → S8
  | 0 => s
  | n + 1 => block8 (blocks8 l s n) (words16 l (64 * n))
theorem blocks8_ok {s : S8} (h : s.Ok) (l : List Int) : ∀ n, (blocks8 l s n).Ok
  | 0 => h
  | _ + 1 => add8_ok _ _
/-- Bytes, padded. -/
def bytes8 (n : Int) : List Int := [n / 72057594037927936 % 256, n / 281474976710656 % 256, n / 1099511627776 % 256, n / 4294967296 % 256, n / 16777216 % 256, n / 65536 % 256, n / 256 % 256, n % 256]
def noughts (n : Nat) : Nat := (119 - n % 64) % 64
def padded (l : List Int) : List Int := l ++ 128 :: List.replicate (noughts l.length) 0 ++ bytes8 (8 * l.length)
theorem padded_length (l : List Int) : (padded l).length = 64 * ((l.length + 9 + noughts l.length) / 64) ∧ (l.length + 9 + noughts l.length) % 64 = 0 := by
  have h1 : (padded l).length = l.length + 9 + noughts l.length := by simp [padded, bytes8]; omega
  have h2 : (l.length + 9 + noughts l.length) % 64 = 0 := by unfold noughts; omega
  omega
/-- The digest. -/
def bytes4 (x : Int) : List Int := [x / 16777216, x / 65536 % 256, x / 256 % 256, x % 256]
def digestOf (s : S8) : List Int := bytes4 s.a ++ bytes4 s.b ++ bytes4 s.c ++ bytes4 s.d ++ bytes4 s.e ++ bytes4 s.f ++ bytes4 s.g ++ bytes4 s.h
def sha (l : List Int) : List Int := digestOf (blocks8 (padded l) first8 ((padded l).length / 64))

end Go.Proofs.YtmhehnimgkmmaaaDoor
