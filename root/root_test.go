package root_test

import (
	"math"
	"math/big"
	"slices"
	"testing"

	"pelorus/api"
	"pelorus/root"
)

// The calls as the chapter lists them: another signature would not compile.
var (
	_ func(uint64) uint32           = root.Of
	_ func(api.Wide) (uint64, bool) = root.Wide
	_ func(api.Fix) (api.Fix, bool) = root.Fix
	_ func(uint64) api.Wide         = root.Square
)

func w(hi int64, lo uint64) api.Wide { return api.Wide{Hi: hi, Lo: lo} }

// The bounds of wide numbers and of what roots are, and what of them is asked for often.
var (
	least    = w(math.MinInt64, 0)
	greatest = w(math.MaxInt64, math.MaxUint64)
	none     = w(0, 0)
)

const (
	mostOf   = uint64(math.MaxUint32)       // the greatest root of 64 bits
	mostWide = uint64(13043817825332782212) // the greatest one of a wide number: the square of the next one goes round
	mostFix  = api.Fix(199032864766430)     // the greatest one of a number
	half     = api.One / 2
	part     = api.Fix(1)
	rootPart = api.Fix(1 << 16) // the root of one part
)

// said is what a call tells: a root, and whether there is one.
type said[N any] struct {
	n  N
	ok bool
}

func tell[N any](n N, ok bool) said[N] { return said[N]{n, ok} }

func check[A comparable](t *testing.T, what string, got, want A, of ...any) {
	t.Helper()
	if got != want {
		t.Errorf("%s of %v: %v, want %v", what, of, got, want)
	}
}

// value is a as a number without bounds, against which all answers are held.
func value(a api.Wide) *big.Int {
	n := new(big.Int).Lsh(big.NewInt(a.Hi), 64)
	return n.Add(n, whole(a.Lo))
}

func whole(n uint64) *big.Int { return new(big.Int).SetUint64(n) }

func squared(n *big.Int) *big.Int { return new(big.Int).Mul(n, n) }

func next(n *big.Int) *big.Int { return new(big.Int).Add(n, big.NewInt(1)) }

func power(n int) *big.Int { return new(big.Int).Lsh(big.NewInt(1), uint(n)) }

// round is the wide number that n (not below 0) comes to, modulo 2^128.
func round(n *big.Int) api.Wide {
	mask := whole(math.MaxUint64)
	hi := new(big.Int).And(new(big.Int).Rsh(n, 64), mask)
	return w(int64(hi.Uint64()), new(big.Int).And(n, mask).Uint64())
}

// stream gives numbers that are the same each time.
func stream(seed uint64) func() uint64 {
	x := seed * 0x9e3779b97f4a7c15
	return func() uint64 {
		x ^= x << 13
		x ^= x >> 7
		x ^= x << 17
		return x
	}
}

// roots are the edges of numbers without a sign, and some between them that are always the same; the least ones first.
func roots() []uint64 {
	l := []uint64{0, 1, 2, 3, 4, 5, 10, 15, 16, 181, 182, 255, 65535, 65536, 3037000499, 3037000500, 6074000999, mostOf - 1, mostOf, 1 << 32, uint64(mostFix), uint64(mostFix) + 1, mostWide - 1, mostWide, mostWide + 1, math.MaxInt64 - 1, math.MaxUint64 - 1, math.MaxUint64}
	for n := range 64 {
		l = append(l, 1<<n-1, 1<<n, 1<<n+1)
	}
	s := stream(1)
	for i := range 200 {
		l = append(l, s()>>(i%64))
	}
	slices.Sort(l)
	return slices.Compact(l)
}

// wholes are squares, what is beside them, and some between; the least ones first.
func wholes() []uint64 {
	l := roots()
	for _, r := range l {
		if r <= mostOf {
			l = append(l, r*r, r*r+1, r*r+r, r*r+2*r)
		}
		if 0 < r && r <= mostOf {
			l = append(l, r*r-1)
		}
	}
	slices.Sort(l)
	return slices.Compact(l)
}

// wides are wide numbers that are not below 0, chosen alike; the least ones first.
func wides() []api.Wide {
	l := []api.Wide{none, greatest, w(math.MaxInt64, 0), w(math.MaxInt64, 1<<63), w(1, 0), w(0, math.MaxUint64), w(1<<62, 0)}
	for _, r := range roots() {
		if r > mostWide {
			continue
		}
		n := squared(whole(r))
		for _, by := range []*big.Int{big.NewInt(-1), new(big.Int), big.NewInt(1), whole(r), new(big.Int).Lsh(whole(r), 1)} {
			if m := new(big.Int).Add(n, by); m.Sign() >= 0 && m.BitLen() < 128 {
				l = append(l, round(m))
			}
		}
	}
	s := stream(2)
	for i := range 100 {
		l = append(l, w(int64(s()>>1)>>(i%64), s()))
	}
	slices.SortFunc(l, func(a, b api.Wide) int { return value(a).Cmp(value(b)) })
	return slices.Compact(l)
}

// below are wide numbers below 0.
func below() []api.Wide {
	l := []api.Wide{least, w(math.MinInt64, 1), w(math.MinInt64, math.MaxUint64), w(math.MinInt64+1, 0), w(-1<<62, 0), w(-2, 5), w(-1, 0), w(-1, 1), w(-1, 1<<63), w(-1, math.MaxUint64-1), w(-1, math.MaxUint64)}
	s := stream(3)
	for i := range 64 {
		l = append(l, w(-1-int64(s()>>1)>>i, s()))
	}
	return l
}

// numbers are the edges of numbers that are not below 0, squares and what is beside them, and some between; the least ones first.
func numbers() []api.Fix {
	l := []api.Fix{0, part, 2, 3, 4, half, half / 2, api.One - 1, api.One, api.One + 1, 2 * api.One, 3 * api.One, 4 * api.One, 1 << 62, api.MaxFix - 1, api.MaxFix}
	for _, n := range wholes() {
		if n <= math.MaxInt64 {
			l = append(l, api.Fix(n))
		}
	}
	slices.Sort(l)
	return slices.Compact(l)
}

// 4.1: roots of numbers of 64 bits, of wide ones, and squares.

func TestOfIsTheRoot(t *testing.T) {
	for _, c := range []struct {
		n    uint64
		want uint32
	}{
		{0, 0}, {1, 1}, {2, 1}, {3, 1}, {4, 2}, {8, 2}, {9, 3},
		{15, 3}, {16, 4}, {17, 4}, {24, 4}, {25, 5}, {26, 5}, {99, 9}, {100, 10},
		{1<<16 - 1, 255}, {1 << 16, 256}, {1<<32 - 1, 65535}, {1 << 32, 65536},
		{1<<62 - 1, 1<<31 - 1}, {1 << 62, 1 << 31}, {1<<63 - 1, 3037000499}, {1 << 63, 3037000499},
		{mostOf*mostOf - 1, math.MaxUint32 - 1}, {mostOf * mostOf, math.MaxUint32}, {mostOf*mostOf + 1, math.MaxUint32},
		{math.MaxUint64 - 1, math.MaxUint32}, {math.MaxUint64, math.MaxUint32},
	} {
		check(t, "Of", root.Of(c.n), c.want, c.n)
	}
	for _, n := range wholes() {
		check(t, "Of", uint64(root.Of(n)), new(big.Int).Sqrt(whole(n)).Uint64(), n)
	}
}

func TestOfOfAllSmallNumbers(t *testing.T) {
	want := uint32(0)
	for n := range uint64(1 << 16) {
		if uint64(want+1)*uint64(want+1) == n {
			want++
		}
		check(t, "Of", root.Of(n), want, n)
	}
}

func TestWideIsTheRoot(t *testing.T) {
	for _, c := range []struct {
		a    api.Wide
		want uint64
	}{
		{none, 0}, {w(0, 1), 1}, {w(0, 3), 1}, {w(0, 4), 2}, {w(0, 15), 3}, {w(0, 16), 4}, {w(0, 17), 4},
		{w(0, math.MaxUint64), mostOf}, {w(1, 0), 1 << 32}, {w(1, 1), 1 << 32}, {w(1, 1<<33), 1 << 32}, {w(1, 1<<33+1), 1<<32 + 1},
		{w(3, 1<<63), 8035148054}, {w(1<<62-1, math.MaxUint64), 1<<63 - 1}, {w(1<<62, 0), 1 << 63}, {w(1<<62, 1), 1 << 63},
		{w(1<<62+1, 0), 1 << 63}, {w(1<<62+1, 1), 1<<63 + 1}, {greatest, mostWide},
	} {
		check(t, "Wide", tell(root.Wide(c.a)), said[uint64]{c.want, true}, c.a)
	}
	for _, a := range wides() {
		check(t, "Wide", tell(root.Wide(a)), said[uint64]{new(big.Int).Sqrt(value(a)).Uint64(), true}, a)
	}
}

func TestWideBesideTheGreatestSquare(t *testing.T) {
	top := squared(whole(mostWide))
	check(t, "Wide", tell(root.Wide(round(top))), said[uint64]{mostWide, true}, "the greatest square")
	check(t, "Wide", tell(root.Wide(round(next(top)))), said[uint64]{mostWide, true}, "one above it")
	check(t, "Wide", tell(root.Wide(round(new(big.Int).Sub(top, big.NewInt(1))))), said[uint64]{mostWide - 1, true}, "one below it")
	if squared(whole(mostWide+1)).Cmp(value(greatest)) <= 0 {
		t.Error("a greater square is a wide number, too")
	}
}

func TestWideOfNumbersBelowNoughtIsRefused(t *testing.T) {
	for _, a := range below() {
		check(t, "Wide", tell(root.Wide(a)), said[uint64]{0, false}, a)
	}
}

func TestSquareIsTheProduct(t *testing.T) {
	for _, c := range []struct {
		n    uint64
		want api.Wide
	}{
		{0, none}, {1, w(0, 1)}, {2, w(0, 4)}, {3, w(0, 9)}, {10, w(0, 100)},
		{mostOf, w(0, math.MaxUint64-1<<33+2)}, {1 << 32, w(1, 0)}, {1<<32 + 1, w(1, 1<<33+1)},
		{1<<63 - 1, w(1<<62-1, 1)},
	} {
		check(t, "Square", root.Square(c.n), c.want, c.n)
	}
	for _, n := range roots() {
		check(t, "Square", root.Square(n), round(squared(whole(n))), n)
	}
}

func TestSquareOfNumbersFromTheLastBitOn(t *testing.T) {
	// Numbers have no sign: up to the greatest root of a wide number nothing is lost. From there on it goes round, below 0.
	for _, c := range []struct {
		n    uint64
		want api.Wide
	}{
		{1 << 63, w(1<<62, 0)}, {1<<63 + 1, w(1<<62+1, 1)}, {1<<63 + 3, w(1<<62+3, 9)}, {3 << 62, w(-7<<60, 0)},
		{math.MaxUint64, w(-2, 1)}, {math.MaxUint64 - 1, w(-4, 4)}, {math.MaxUint64 - 9, w(-20, 100)},
	} {
		check(t, "Square", root.Square(c.n), c.want, c.n)
	}
	for _, n := range roots() {
		got := root.Square(n)
		if (got.Hi < 0) != (n > mostWide) {
			t.Errorf("Square of %d: %v: does it go round?", n, got)
		}
		if got.Hi >= 0 && value(got).Cmp(squared(whole(n))) != 0 {
			t.Errorf("Square of %d: %v, want %v", n, got, squared(whole(n)))
		}
	}
}

// 4.2: roots of numbers with a point.

func TestFixIsTheRoot(t *testing.T) {
	for _, c := range []struct{ a, want api.Fix }{
		{0, 0}, {part, rootPart}, {2, 92681}, {3, 113511}, {4, 2 * rootPart}, {9, 3 * rootPart},
		{api.One, api.One}, {api.One - 1, api.One - 1}, {api.One + 1, api.One}, {api.One + 2, api.One}, {api.One + 3, api.One + 1},
		{2 * api.One, 6074000999}, {3 * api.One, 7439101573}, {4 * api.One, 2 * api.One}, {4*api.One - 1, 2*api.One - 1}, {4*api.One + 1, 2 * api.One},
		{api.One / 4, half}, {half, 3037000499}, {9 * api.One / 4, 3 * half}, {100 * api.One, 10 * api.One},
		{1 << 62, 1 << 47}, {1<<62 - 1, 1<<47 - 1}, {api.MaxFix, mostFix}, {api.MaxFix - 1, mostFix},
	} {
		check(t, "Fix", tell(root.Fix(c.a)), said[api.Fix]{c.want, true}, c.a)
	}
	for _, a := range numbers() {
		n := new(big.Int).Lsh(big.NewInt(int64(a)), 32)
		check(t, "Fix", tell(root.Fix(a)), said[api.Fix]{api.Fix(n.Sqrt(n).Int64()), true}, a)
	}
}

func TestFixOfNumbersBelowNoughtIsRefused(t *testing.T) {
	for _, a := range []api.Fix{-1, -2, -3, -4, -half, -api.One, -4 * api.One, -api.One - 1, -1 << 62, -api.MaxFix, api.MinFix + 1, api.MinFix} {
		check(t, "Fix", tell(root.Fix(a)), said[api.Fix]{0, false}, a)
	}
	for _, a := range numbers() {
		check(t, "Fix", tell(root.Fix(-a-1)), said[api.Fix]{0, false}, -a-1)
	}
}

// 4.3 (the greatest).

func TestNoGreaterRootWouldDo(t *testing.T) {
	for _, n := range wholes() {
		between(t, "Of", whole(uint64(root.Of(n))), whole(n))
	}
	for _, a := range wides() {
		n, _ := root.Wide(a)
		between(t, "Wide", whole(n), value(a))
	}
	for _, a := range numbers() {
		n, _ := root.Fix(a)
		between(t, "Fix", big.NewInt(int64(n)), new(big.Int).Lsh(big.NewInt(int64(a)), 32))
	}
}

// between looks whether r's square is not above n, and the next one's is.
func between(t *testing.T, what string, r, n *big.Int) {
	t.Helper()
	if squared(r).Cmp(n) > 0 {
		t.Errorf("%s of %v: %v, whose square is above it", what, n, r)
	}
	if squared(next(r)).Cmp(n) <= 0 {
		t.Errorf("%s of %v: %v, but the next one's square is not above it", what, n, r)
	}
}

// 4.4 (back).

func TestTheRootOfASquareIsTheNumber(t *testing.T) {
	for _, r := range roots() {
		if r <= mostOf {
			check(t, "Of", uint64(root.Of(r*r)), r, r, "squared")
		}
		// A square that went round is below 0, and has no root.
		want := said[uint64]{r, true}
		if r > mostWide {
			want = said[uint64]{0, false}
		}
		check(t, "Wide", tell(root.Wide(root.Square(r))), want, r, "squared")
		if r < 1<<31 {
			// So many parts of 2 to the 16, squared, are parts of 2 to the 32.
			check(t, "Fix", tell(root.Fix(api.Fix(r*r))), said[api.Fix]{api.Fix(r) * rootPart, true}, r, "squared")
		}
	}
}

func TestAGreaterNumbersRootIsNoLess(t *testing.T) {
	ahead := said[uint64]{}
	for _, n := range wholes() {
		ahead = noLess(t, "Of", ahead, uint64(root.Of(n)))
	}
	ahead = said[uint64]{}
	for _, a := range wides() {
		n, _ := root.Wide(a)
		ahead = noLess(t, "Wide", ahead, n)
	}
	ahead = said[uint64]{}
	for _, a := range numbers() {
		n, _ := root.Fix(a)
		ahead = noLess(t, "Fix", ahead, uint64(n))
	}
}

// noLess looks whether a root is no less than that of the number ahead, if there is one; and hands it on.
func noLess(t *testing.T, what string, ahead said[uint64], n uint64) said[uint64] {
	t.Helper()
	if ahead.ok && n < ahead.n {
		t.Errorf("%s: %d behind %d, the root of a lesser number", what, n, ahead.n)
	}
	return tell(n, true)
}

func TestTheRootIsTheSameInAllKinds(t *testing.T) {
	for _, n := range wholes() {
		check(t, "Wide", tell(root.Wide(w(0, n))), said[uint64]{uint64(root.Of(n)), true}, n)
		if n <= math.MaxInt64 {
			of := round(new(big.Int).Lsh(whole(n), 32))
			r, _ := root.Wide(of)
			check(t, "Fix", tell(root.Fix(api.Fix(n))), said[api.Fix]{api.Fix(r), true}, n)
		}
	}
}

// P1: every call ends and none panics.

func TestEveryCallEnds(t *testing.T) {
	s := stream(4)
	for i := range 5000 {
		n, hi, lo := s(), int64(s()), s()
		callAll(t, n, w(hi, lo), api.Fix(s()))
		callAll(t, n>>(i%64), w(hi>>(i%64), lo), api.Fix(s())>>(i%64))
	}
	for _, n := range roots() {
		for _, a := range []api.Wide{none, least, greatest, w(-1, n), w(int64(n), n), w(int64(n), 0)} {
			callAll(t, n, a, api.Fix(n))
		}
	}
}

func callAll(t *testing.T, n uint64, a api.Wide, f api.Fix) {
	t.Helper()
	defer func() {
		if r := recover(); r != nil {
			t.Errorf("a panic (%v) at %d, %v, %d", r, n, a, f)
		}
	}()
	root.Of(n)
	root.Wide(a)
	root.Fix(f)
	root.Square(n)
}

// P2: what is refused leaves nothing behind, and no call hangs on those ahead of it.

func TestARefusedCallChangesNothing(t *testing.T) {
	for _, n := range roots() {
		before := answers(n)
		root.Wide(least)
		root.Wide(w(-1, n))
		root.Fix(-1)
		root.Fix(api.MinFix)
		root.Square(math.MaxUint64)
		if after := answers(n); after != before {
			t.Errorf("of %d: %v, ahead of wrong inputs: %v", n, after, before)
		}
	}
}

// told is what all calls tell of one number.
type told struct {
	of     uint32
	wide   said[uint64]
	fix    said[api.Fix]
	square api.Wide
}

func answers(n uint64) told {
	return told{root.Of(n), tell(root.Wide(w(int64(n>>1), n))), tell(root.Fix(api.Fix(n >> 1))), root.Square(n)}
}

func TestTheGreatestRootsAreThoseNamed(t *testing.T) {
	check(t, "the greatest root", mostOf, new(big.Int).Sqrt(whole(math.MaxUint64)).Uint64(), "64 bits")
	check(t, "the greatest root", mostWide, new(big.Int).Sqrt(new(big.Int).Sub(power(127), big.NewInt(1))).Uint64(), "128 bits")
	check(t, "the greatest root", uint64(mostFix), new(big.Int).Sqrt(new(big.Int).Lsh(whole(math.MaxInt64), 32)).Uint64(), "MaxFix")
}
