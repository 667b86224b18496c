// Package wide is layer 1: numbers of 128 bits. See shared/doc/01-wide.md.
package wide

import (
	"pelorus/api"
)

const (
	halfBits = 64
	wideBits = 128
)

// Of is n.
func Of(n int64) api.Wide { return api.Wide{Hi: n >> (halfBits - 1), Lo: uint64(n)} }

// Mul is the product of a and b; it never goes round.
func Mul(a, b int64) api.Wide {
	hi, lo := product(uint64(a), uint64(b))
	// Read without a sign, a number below 0 is 2^64 too great: the upper half has the other number once too often.
	if a < 0 {
		hi -= uint64(b)
	}
	if b < 0 {
		hi -= uint64(a)
	}
	return api.Wide{Hi: int64(hi), Lo: lo}
}

// Add is the sum; it goes round.
func Add(a, b api.Wide) api.Wide {
	sum := api.Wide{Hi: a.Hi + b.Hi, Lo: a.Lo + b.Lo}
	if sum.Lo < a.Lo { // only a lower half that went round is less than what it was made of
		sum.Hi++
	}
	return sum
}

// Neg is the opposite; it goes round.
func Neg(a api.Wide) api.Wide {
	return Add(api.Wide{Hi: ^a.Hi, Lo: ^a.Lo}, api.Wide{Lo: 1})
}

// Sign is -1, 0 or 1.
func Sign(a api.Wide) int {
	switch {
	case a.Hi < 0:
		return -1
	case a == api.Wide{}:
		return 0
	}
	return 1
}

// Less tells whether a is below b.
func Less(a, b api.Wide) bool {
	if a.Hi != b.Hi {
		return a.Hi < b.Hi
	}
	return a.Lo < b.Lo
}

// Left is a times 2^n; it goes round.
func Left(a api.Wide, n int) api.Wide {
	switch {
	case n <= 0:
		return a
	case n >= halfBits: // from 128 on the shift itself leaves nothing of the lower half
		return api.Wide{Hi: int64(a.Lo << (n - halfBits))}
	}
	return api.Wide{Hi: a.Hi<<n | int64(a.Lo>>(halfBits-n)), Lo: a.Lo << n}
}

// Right is a over 2^n, rounding down.
func Right(a api.Wide, n int) api.Wide {
	n = places(n)
	if n >= halfBits {
		return api.Wide{Hi: a.Hi >> (halfBits - 1), Lo: uint64(a.Hi >> (n - halfBits))}
	}
	return api.Wide{Hi: a.Hi >> n, Lo: a.Lo>>n | uint64(a.Hi)<<(halfBits-n)}
}

// Near is a over 2^n to the nearest number, of two that are as near the greater one.
func Near(a api.Wide, n int) api.Wide {
	n = places(n)
	if n == 0 {
		return a
	}
	// A half added ahead of the shift could go round. The last bit that falls out says the same: it is the half.
	half := Right(a, n-1).Lo & 1
	return Add(Right(a, n), api.Wide{Lo: half})
}

// Clip is the number of 64 bits that is nearest to a, and whether that is not a.
func Clip(a api.Wide) (int64, bool) {
	n := int64(a.Lo)
	if Of(n) == a {
		return n, false
	}
	if a.Hi < 0 {
		return -1 << (halfBits - 1), true
	}
	return 1<<(halfBits-1) - 1, true
}

// Div is the quotient, rounding towards 0 (it goes round), the rest, and true; or noughts, and false (b is 0).
func Div(a api.Wide, b int64) (api.Wide, int64, bool) {
	if b == 0 {
		return api.Wide{}, 0, false
	}
	by := uint64(b)
	if b < 0 {
		by = -by
	}
	if a.Hi >= 0 {
		q, rest := quotient(a, by)
		return signed(q, b < 0), int64(rest), true
	}
	q, rest := quotient(Neg(a), by)
	return signed(q, b > 0), -int64(rest), true
}

// places is n as Right and Near count it.
func places(n int) int { return min(max(n, 0), wideBits-1) }

// product is a times b without signs, as an upper and a lower half. It goes by quarters, since a product of two of them and two more quarters fit in a half.
func product(a, b uint64) (uint64, uint64) {
	const bits = halfBits / 2
	const low = 1<<bits - 1
	last := (a & low) * (b & low)
	mid := (a>>bits)*(b&low) + last>>bits
	cross := (a&low)*(b>>bits) + mid&low
	return (a>>bits)*(b>>bits) + mid>>bits + cross>>bits, cross<<bits | last&low
}

// quotient is a over by and the rest, all without signs: by is from 1 to 2^63, so that a rest taken twice fits in a half. The quotient's bits come in from below as those of a go out above.
func quotient(a api.Wide, by uint64) (api.Wide, uint64) {
	hi, lo, rest := uint64(a.Hi), a.Lo, uint64(0)
	for range wideBits {
		rest = rest<<1 | hi>>(halfBits-1)
		hi = hi<<1 | lo>>(halfBits-1)
		lo <<= 1
		if rest >= by {
			rest -= by
			lo++
		}
	}
	return api.Wide{Hi: int64(hi), Lo: lo}, rest
}

// signed is q, or its opposite.
func signed(q api.Wide, below bool) api.Wide {
	if below {
		return Neg(q)
	}
	return q
}
