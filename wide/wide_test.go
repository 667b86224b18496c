package wide_test

import (
	"math"
	"math/big"
	"testing"

	"pelorus/api"
	"pelorus/wide"
)

// The calls as the chapter lists them: another signature would not compile.
var (
	_ func(int64) api.Wide                          = wide.Of
	_ func(int64, int64) api.Wide                   = wide.Mul
	_ func(api.Wide, api.Wide) api.Wide             = wide.Add
	_ func(api.Wide) api.Wide                       = wide.Neg
	_ func(api.Wide) int                            = wide.Sign
	_ func(api.Wide, api.Wide) bool                 = wide.Less
	_ func(api.Wide, int) api.Wide                  = wide.Left
	_ func(api.Wide, int) api.Wide                  = wide.Right
	_ func(api.Wide, int) api.Wide                  = wide.Near
	_ func(api.Wide) (int64, bool)                  = wide.Clip
	_ func(api.Wide, int64) (api.Wide, int64, bool) = wide.Div
)

func w(hi int64, lo uint64) api.Wide { return api.Wide{Hi: hi, Lo: lo} }

// The bounds of wide numbers, and what of them is asked for often.
var (
	least    = w(math.MinInt64, 0)
	greatest = w(math.MaxInt64, math.MaxUint64)
	none     = w(0, 0)
	one      = w(0, 1)
	lessOne  = w(-1, math.MaxUint64)
)

// value is a as a number without bounds, against which all answers are held.
func value(a api.Wide) *big.Int {
	n := new(big.Int).Lsh(big.NewInt(a.Hi), 64)
	return n.Add(n, new(big.Int).SetUint64(a.Lo))
}

// round is the wide number that n comes to, modulo 2^128.
func round(n *big.Int) api.Wide {
	m := new(big.Int).And(n, new(big.Int).SetUint64(math.MaxUint64))
	hi := new(big.Int).And(new(big.Int).Rsh(n, 64), new(big.Int).SetUint64(math.MaxUint64))
	return w(int64(hi.Uint64()), m.Uint64())
}

// fits tells whether n is a wide number itself.
func fits(n *big.Int) bool { return value(round(n)).Cmp(n) == 0 }

func power(n int) *big.Int { return new(big.Int).Lsh(big.NewInt(1), uint(n)) }

// numbers are the edges of 64 bits, and some between them that are always the same.
func numbers() []int64 {
	l := []int64{0, 1, -1, 2, -2, 3, -3, 7, -7, 10, -10, 255, -256, math.MaxInt32, math.MinInt32, math.MaxUint32, -math.MaxUint32, 1 << 32, -1 << 32, 1<<32 + 1, 1 << 62, -1 << 62, 1<<62 - 1, math.MaxInt64, math.MaxInt64 - 1, math.MinInt64, math.MinInt64 + 1}
	s := stream(1)
	for i := range 24 {
		l = append(l, int64(s())>>(i*5%64))
	}
	return l
}

// wides are the edges of 128 bits, and some between them that are always the same.
func wides() []api.Wide {
	var l []api.Wide
	for _, hi := range []int64{0, 1, -1, 2, -2, 5, -8, 1 << 32, -1 << 32, 1 << 62, -1 << 62, math.MaxInt64, math.MaxInt64 - 1, math.MinInt64, math.MinInt64 + 1} {
		for _, lo := range []uint64{0, 1, 2, 5, 1 << 32, 1<<63 - 1, 1 << 63, 1<<63 + 1, math.MaxUint64 - 4, math.MaxUint64 - 1, math.MaxUint64} {
			l = append(l, w(hi, lo))
		}
	}
	s := stream(2)
	for i := range 40 {
		l = append(l, round(new(big.Int).Rsh(value(w(int64(s()), s())), uint(i*7%128))))
	}
	return l
}

// shifts are all that move a number by less than its bits, and those below and beyond.
func shifts() []int {
	l := []int{math.MinInt, math.MinInt32, -129, -128, -127, -65, -64, -63, -2, -1}
	for n := range 131 {
		l = append(l, n)
	}
	return append(l, 191, 192, 193, 255, 256, 257, math.MaxUint16, math.MaxInt32, math.MaxInt-1, math.MaxInt)
}

// stream gives numbers that are the same each time.
func stream(seed uint64) func() uint64 {
	x := seed * 0x9e3779b97f4a7c15
	return func() uint64 {
		x ^= x << 13
		x ^= x >> 7
		x ^= x << 17
		return x
	}
}

func same(t *testing.T, what string, got, want api.Wide, of ...any) {
	t.Helper()
	if got != want {
		t.Errorf("%s of %v: %v, want %v", what, of, got, want)
	}
}

// 1.1: numbers, sums, opposites, products, signs, order.

func TestOfIsTheNumber(t *testing.T) {
	same(t, "Of", wide.Of(5), w(0, 5), 5)
	same(t, "Of", wide.Of(-5), w(-1, math.MaxUint64-4), -5)
	same(t, "Of", wide.Of(math.MinInt64), w(-1, 1<<63), "least")
	same(t, "Of", wide.Of(math.MaxInt64), w(0, 1<<63-1), "greatest")
	for _, n := range numbers() {
		same(t, "Of", wide.Of(n), round(big.NewInt(n)), n)
	}
}

func TestMulIsTheProduct(t *testing.T) {
	same(t, "Mul", wide.Mul(1<<62, 4), w(1, 0), "the chapter's example")
	same(t, "Mul", wide.Mul(math.MinInt64, math.MinInt64), w(1<<62, 0), "least, least")
	same(t, "Mul", wide.Mul(math.MinInt64, math.MaxInt64), w(-1<<62, 1<<63), "least, greatest")
	same(t, "Mul", wide.Mul(math.MaxInt64, math.MaxInt64), w(1<<62-1, 1), "greatest, greatest")
	for _, a := range numbers() {
		for _, b := range numbers() {
			p := new(big.Int).Mul(big.NewInt(a), big.NewInt(b))
			if got := wide.Mul(a, b); value(got).Cmp(p) != 0 {
				t.Errorf("Mul of %d, %d: %v, want %v", a, b, got, p)
			}
		}
	}
}

func TestAddGoesRound(t *testing.T) {
	same(t, "Add", wide.Add(w(0, math.MaxUint64), one), w(1, 0), "a carry")
	same(t, "Add", wide.Add(w(-1, math.MaxUint64), one), none, "-1, 1")
	same(t, "Add", wide.Add(greatest, one), least, "greatest, 1")
	same(t, "Add", wide.Add(least, lessOne), greatest, "least, -1")
	same(t, "Add", wide.Add(least, least), none, "least, least")
	for _, a := range wides() {
		for _, b := range wides() {
			same(t, "Add", wide.Add(a, b), round(new(big.Int).Add(value(a), value(b))), a, b)
		}
	}
}

func TestNegGoesRound(t *testing.T) {
	same(t, "Neg", wide.Neg(none), none, "0")
	same(t, "Neg", wide.Neg(one), lessOne, "1")
	same(t, "Neg", wide.Neg(w(1, 0)), w(-1, 0), "2^64")
	same(t, "Neg", wide.Neg(least), least, "least")
	for _, a := range wides() {
		same(t, "Neg", wide.Neg(a), round(new(big.Int).Neg(value(a))), a)
	}
}

func TestSign(t *testing.T) {
	for _, a := range wides() {
		if got, want := wide.Sign(a), value(a).Sign(); got != want {
			t.Errorf("Sign of %v: %d, want %d", a, got, want)
		}
	}
}

func TestLess(t *testing.T) {
	if !wide.Less(w(0, 1), w(0, 1<<63)) || wide.Less(w(0, 1<<63), w(0, 1)) {
		t.Error("Less takes a lower half for a number with a sign")
	}
	for _, a := range wides() {
		for _, b := range wides() {
			if got, want := wide.Less(a, b), value(a).Cmp(value(b)) < 0; got != want {
				t.Errorf("Less of %v, %v: %v, want %v", a, b, got, want)
			}
		}
	}
}

// 1.2: shifts.

func TestLeftGoesRound(t *testing.T) {
	same(t, "Left", wide.Left(w(3, 9), 127), w(math.MinInt64, 0), "127")
	same(t, "Left", wide.Left(lessOne, 128), none, "128")
	same(t, "Left", wide.Left(lessOne, math.MaxInt), none, "far beyond")
	same(t, "Left", wide.Left(w(3, 9), -1), w(3, 9), "below 0")
	same(t, "Left", wide.Left(w(3, 9), math.MinInt), w(3, 9), "far below 0")
	for _, a := range wides() {
		for _, n := range shifts() {
			m := min(max(n, 0), 128)
			same(t, "Left", wide.Left(a, n), round(new(big.Int).Lsh(value(a), uint(m))), a, n)
		}
	}
}

func TestRightRoundsDown(t *testing.T) {
	same(t, "Right", wide.Right(w(-1, math.MaxUint64-2), 1), w(-1, math.MaxUint64-1), "-3 by 1")
	same(t, "Right", wide.Right(lessOne, 127), lessOne, "-1 by 127")
	same(t, "Right", wide.Right(least, 128), lessOne, "128 counts as 127")
	same(t, "Right", wide.Right(greatest, math.MaxInt), none, "far beyond")
	same(t, "Right", wide.Right(w(-3, 9), -1), w(-3, 9), "below 0")
	same(t, "Right", wide.Right(w(-3, 9), math.MinInt), w(-3, 9), "far below 0")
	for _, a := range wides() {
		for _, n := range shifts() {
			m := min(max(n, 0), 127)
			same(t, "Right", wide.Right(a, n), round(new(big.Int).Rsh(value(a), uint(m))), a, n)
		}
	}
}

func TestNearIsTheNearest(t *testing.T) {
	same(t, "Near", wide.Near(w(0, 3), 1), w(0, 2), "the chapter's example, 3 by 1")
	same(t, "Near", wide.Near(wide.Of(-3), 1), lessOne, "the chapter's example, -3 by 1")
	same(t, "Near", wide.Near(w(0, 5), 2), one, "5 by 2")
	same(t, "Near", wide.Near(w(0, 7), 2), w(0, 2), "7 by 2")
	same(t, "Near", wide.Near(greatest, 1), w(1<<62, 0), "greatest by 1")
	same(t, "Near", wide.Near(greatest, 127), one, "greatest by 127")
	same(t, "Near", wide.Near(greatest, 128), one, "128 counts as 127")
	same(t, "Near", wide.Near(least, math.MaxInt), lessOne, "far beyond")
	same(t, "Near", wide.Near(w(-1<<62, 0), 127), none, "as near to -1 as to 0")
	same(t, "Near", wide.Near(greatest, 0), greatest, "greatest by 0")
	same(t, "Near", wide.Near(greatest, -1), greatest, "below 0")
	same(t, "Near", wide.Near(least, math.MinInt), least, "far below 0")
	for _, a := range wides() {
		for _, n := range shifts() {
			m := uint(min(max(n, 0), 127))
			sum := value(a)
			if m > 0 {
				sum.Add(sum, power(int(m-1)))
			}
			same(t, "Near", wide.Near(a, n), round(sum.Rsh(sum, m)), a, n)
		}
	}
}

// 1.3: clipping and division.

func TestClipIsTheNearest(t *testing.T) {
	for _, c := range []struct {
		a    api.Wide
		want int64
		cut  bool
	}{
		{none, 0, false}, {lessOne, -1, false},
		{w(0, 1<<63-1), math.MaxInt64, false}, {w(0, 1<<63), math.MaxInt64, true},
		{w(-1, 1<<63), math.MinInt64, false}, {w(-1, 1<<63-1), math.MinInt64, true},
		{w(1, 5), math.MaxInt64, true}, {w(-1, 5), math.MinInt64, true},
		{greatest, math.MaxInt64, true}, {least, math.MinInt64, true},
	} {
		if got, cut := wide.Clip(c.a); got != c.want || cut != c.cut {
			t.Errorf("Clip of %v: %d, %v, want %d, %v", c.a, got, cut, c.want, c.cut)
		}
	}
	for _, n := range numbers() {
		if got, cut := wide.Clip(round(big.NewInt(n))); got != n || cut {
			t.Errorf("Clip of %d: %d, %v", n, got, cut)
		}
	}
	for _, a := range wides() {
		want, out := clipped(value(a))
		if got, cut := wide.Clip(a); got != want || cut != out {
			t.Errorf("Clip of %v: %d, %v, want %d, %v", a, got, cut, want, out)
		}
	}
}

func clipped(n *big.Int) (int64, bool) {
	switch {
	case n.IsInt64():
		return n.Int64(), false
	case n.Sign() < 0:
		return math.MinInt64, true
	}
	return math.MaxInt64, true
}

func TestDivRoundsTowardsNought(t *testing.T) {
	for _, c := range []struct {
		a    api.Wide
		b    int64
		q    api.Wide
		rest int64
	}{
		{w(0, 7), 2, w(0, 3), 1}, {wide.Of(-7), 2, wide.Of(-3), -1},
		{w(0, 7), -2, wide.Of(-3), 1}, {wide.Of(-7), -2, w(0, 3), -1},
		{w(0, 1), 2, none, 1}, {lessOne, 2, none, -1}, {none, -5, none, 0},
		{least, -1, least, 0}, {least, 1, least, 0}, {greatest, -1, w(math.MinInt64, 1), 0},
		{least, math.MinInt64, w(1, 0), 0}, {greatest, math.MinInt64, w(-1, 1), math.MaxInt64},
		{w(1<<62, 0), math.MinInt64, w(-1, 1<<63), 0},
	} {
		if q, rest, ok := wide.Div(c.a, c.b); q != c.q || rest != c.rest || !ok {
			t.Errorf("Div of %v, %d: %v, %d, %v, want %v, %d, true", c.a, c.b, q, rest, ok, c.q, c.rest)
		}
	}
	for _, a := range wides() {
		for _, b := range numbers() {
			if b == 0 {
				continue
			}
			q, rest := new(big.Int).QuoRem(value(a), big.NewInt(b), new(big.Int))
			if gq, gr, ok := wide.Div(a, b); gq != round(q) || gr != rest.Int64() || !ok {
				t.Errorf("Div of %v, %d: %v, %d, %v, want %v, %v, true", a, b, gq, gr, ok, q, rest)
			}
		}
	}
}

func TestDivByNoughtIsNone(t *testing.T) {
	for _, a := range wides() {
		if q, rest, ok := wide.Div(a, 0); q != none || rest != 0 || ok {
			t.Errorf("Div of %v, 0: %v, %d, %v, want noughts and false", a, q, rest, ok)
		}
	}
}

// 1.4 (one ring).

func TestSumsHangOnNoOrder(t *testing.T) {
	l := wides()
	for i, a := range l {
		same(t, "a number and its opposite", wide.Add(a, wide.Neg(a)), none, a)
		for j, b := range l {
			c := l[(i*31+j*17)%len(l)]
			same(t, "the sum the other way", wide.Add(a, b), wide.Add(b, a), a, b)
			same(t, "the sum of three", wide.Add(wide.Add(a, b), c), wide.Add(a, wide.Add(b, c)), a, b, c)
		}
	}
}

func TestProductsAreSharedOut(t *testing.T) {
	l, shared := numbers(), 0
	for _, a := range l {
		for _, b := range l {
			for _, c := range l {
				if !new(big.Int).Add(big.NewInt(b), big.NewInt(c)).IsInt64() {
					continue
				}
				shared++
				same(t, "a product shared out", wide.Mul(a, b+c), wide.Add(wide.Mul(a, b), wide.Mul(a, c)), a, b, c)
			}
		}
	}
	if shared == 0 {
		t.Error("no sum that does not go round was looked at")
	}
}

// 1.5 (back).

func TestQuotientsComeBack(t *testing.T) {
	for _, a := range wides() {
		for _, b := range numbers() {
			if b == 0 {
				continue
			}
			q, rest, _ := wide.Div(a, b)
			back := new(big.Int).Mul(value(q), big.NewInt(b))
			same(t, "quotient times divisor, and the rest", round(back.Add(back, big.NewInt(rest))), a, a, b)
			r := big.NewInt(rest)
			if r.CmpAbs(big.NewInt(b)) >= 0 {
				t.Errorf("Div of %v, %d: the rest is %d, not less than the divisor", a, b, rest)
			}
			if rest != 0 && r.Sign() != wide.Sign(a) {
				t.Errorf("Div of %v, %d: the rest %d has another sign", a, b, rest)
			}
		}
	}
}

// 1.6 (shifted).

func TestLeftAndRightIsTheSame(t *testing.T) {
	for _, a := range wides() {
		for _, n := range shifts() {
			m := min(max(n, 0), 128)
			if fits(new(big.Int).Lsh(value(a), uint(m))) {
				same(t, "Left and Right", wide.Right(wide.Left(a, n), n), a, a, n)
			}
		}
	}
}

func TestNearIsNoFurtherThanAHalf(t *testing.T) {
	for _, a := range wides() {
		for _, n := range shifts() {
			m := min(max(n, 0), 127)
			off := new(big.Int).Lsh(value(wide.Near(a, n)), uint(m))
			off.Sub(off, value(a))
			twice := new(big.Int).Lsh(off, 1)
			if c := twice.CmpAbs(power(m)); c > 0 || c == 0 && off.Sign() < 0 {
				t.Errorf("Near of %v by %d: %v, further than a half, or of two as near the lesser one", a, n, wide.Near(a, n))
			}
		}
	}
}

// P1: every call ends and none panics.

func TestEveryCallEnds(t *testing.T) {
	s := stream(3)
	for i := range 20000 {
		a, b, n, m := w(int64(s()), s()), w(int64(s()), s()), int64(s()), int(s())
		callAll(t, a, b, n, m)
		callAll(t, a, none, n>>(i%64), m>>(i%64))
	}
	for _, a := range wides() {
		for _, n := range shifts() {
			callAll(t, a, a, int64(n), n)
		}
	}
}

func callAll(t *testing.T, a, b api.Wide, n int64, m int) {
	t.Helper()
	defer func() {
		if r := recover(); r != nil {
			t.Errorf("a panic (%v) at %v, %v, %d, %d", r, a, b, n, m)
		}
	}()
	wide.Of(n)
	wide.Mul(n, int64(m))
	wide.Add(a, b)
	wide.Neg(a)
	wide.Sign(a)
	wide.Less(a, b)
	wide.Left(a, m)
	wide.Right(a, m)
	wide.Near(a, m)
	wide.Clip(a)
	wide.Div(a, n)
}

// P2: what is refused leaves nothing behind, and no call hangs on those ahead of it.

func TestARefusedCallChangesNothing(t *testing.T) {
	for _, a := range wides() {
		before := answers(a)
		wide.Div(a, 0)
		if after := answers(a); after != before {
			t.Errorf("behind Div of %v, 0: %v, ahead of it: %v", a, after, before)
		}
	}
}

// told is what some calls answer of one number.
type told struct {
	q, near, sum api.Wide
	rest, clip   int64
	ok, cut      bool
}

func answers(a api.Wide) told {
	var x told
	x.q, x.rest, x.ok = wide.Div(a, -10)
	x.near, x.sum = wide.Near(a, 5), wide.Add(a, a)
	x.clip, x.cut = wide.Clip(a)
	return x
}
