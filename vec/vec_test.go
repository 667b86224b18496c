package vec_test

import (
	"math"
	"math/big"
	"slices"
	"testing"

	"pelorus/api"
	"pelorus/vec"
)

// The calls as the chapter lists them: another signature would not compile.
var (
	_ func(a, b api.Vec) (api.Vec, bool)            = vec.Add
	_ func(a, b api.Vec) (api.Vec, bool)            = vec.Sub
	_ func(a api.Vec, f api.Fix) (api.Vec, bool)    = vec.Scale
	_ func(a api.Vec, n int) (api.Vec, bool)        = vec.Shift
	_ func(a, b api.Vec) (api.Fix, bool)            = vec.Dot
	_ func(a, b api.Vec) (api.Vec, bool)            = vec.Cross
	_ func(a api.Vec) (api.Fix, bool)               = vec.Length
	_ func(a api.Vec) api.Fix                       = vec.Greatest
	_ func(a api.Vec, most api.Fix) (api.Vec, bool) = vec.Clamp
	_ func(a api.Vec) (api.Vec, bool)               = vec.Unit
)

const (
	one   = api.One
	half  = api.One / 2
	most  = api.MaxFix
	least = api.MinFix
)

type vector = api.Vec

// said is what a call tells: a vector or a number, and what is told of it.
type said[N any] struct {
	n    N
	told bool
}

func tell[N any](n N, told bool) said[N] { return said[N]{n, told} }

// exact and cut are answers that did not saturate, and that did.
func exact[N any](n N) said[N] { return said[N]{n, false} }
func cut[N any](n N) said[N]   { return said[N]{n, true} }

func check[A comparable](t *testing.T, what string, got, want A, of ...any) {
	t.Helper()
	if got != want {
		t.Errorf("%s of %v: %v, want %v", what, of, got, want)
	}
}

// parts is a's parts as a number without bounds, against which all answers are held.
func parts(a api.Fix) *big.Int { return big.NewInt(int64(a)) }

func plus(a, b *big.Int) *big.Int  { return new(big.Int).Add(a, b) }
func minus(a, b *big.Int) *big.Int { return new(big.Int).Sub(a, b) }
func times(a, b api.Fix) *big.Int  { return new(big.Int).Mul(parts(a), parts(b)) }

// near is the product to the nearest part, of two as near the greater one.
func near(a, b api.Fix) *big.Int {
	n := plus(times(a, b), parts(half))
	return n.Rsh(n, 32)
}

// bounded is what a call has to tell that comes to n parts.
func bounded(n *big.Int) said[api.Fix] {
	switch {
	case n.IsInt64():
		return exact(api.Fix(n.Int64()))
	case n.Sign() < 0:
		return cut(least)
	}
	return cut(most)
}

// byWords is what a call has to tell whose axes come to so many parts.
func byWords(axis func(i int) *big.Int) said[vector] {
	var want said[vector]
	for i := range want.n {
		n := bounded(axis(i))
		want.n[i] = n.n
		want.told = want.told || n.told
	}
	return want
}

func addByWords(a, b vector) said[vector] {
	return byWords(func(i int) *big.Int { return plus(parts(a[i]), parts(b[i])) })
}

func subByWords(a, b vector) said[vector] {
	return byWords(func(i int) *big.Int { return minus(parts(a[i]), parts(b[i])) })
}

func scaleByWords(a vector, f api.Fix) said[vector] {
	return byWords(func(i int) *big.Int { return near(a[i], f) })
}

func shiftByWords(a vector, n int) said[vector] {
	return byWords(func(i int) *big.Int {
		if n < 0 {
			return new(big.Int).Rsh(parts(a[i]), uint(-max(n, -200)))
		}
		return new(big.Int).Lsh(parts(a[i]), uint(min(n, 200)))
	})
}

func dotByWords(a, b vector) said[api.Fix] {
	return bounded(plus(plus(near(a[0], b[0]), near(a[1], b[1])), near(a[2], b[2])))
}

func crossByWords(a, b vector) said[vector] {
	l := [...]*big.Int{
		minus(near(a[1], b[2]), near(a[2], b[1])),
		minus(near(a[2], b[0]), near(a[0], b[2])),
		minus(near(a[0], b[1]), near(a[1], b[0])),
	}
	return byWords(func(i int) *big.Int { return l[i] })
}

func lengthByWords(a vector) said[api.Fix] {
	sum := plus(plus(times(a[0], a[0]), times(a[1], a[1])), times(a[2], a[2]))
	return bounded(sum.Sqrt(sum))
}

func greatestByWords(a vector) api.Fix {
	n := new(big.Int)
	for _, axis := range a {
		if parts(axis).CmpAbs(n) > 0 {
			n.Abs(parts(axis))
		}
	}
	return bounded(n).n
}

func clampByWords(a vector, bound api.Fix) said[vector] {
	bound = max(bound, 0)
	want := exact(a)
	for i, axis := range a {
		want.n[i] = max(min(axis, bound), -bound)
	}
	want.told = want.n != a
	return want
}

func unitByWords(a vector) said[vector] {
	length := lengthByWords(a)
	if length.told || length.n == 0 {
		return said[vector]{}
	}
	unit := byWords(func(i int) *big.Int {
		n := new(big.Int).Lsh(parts(a[i]), 32)
		return n.Quo(n, parts(length.n))
	})
	return said[vector]{unit.n, true}
}

// stream gives numbers that are the same each time.
func stream(seed uint64) func() uint64 {
	x := seed * 0x9e3779b97f4a7c15
	return func() uint64 {
		x ^= x << 13
		x ^= x >> 7
		x ^= x << 17
		return x
	}
}

// numbers are the edges, and some between that are always the same.
func numbers() []api.Fix {
	l := []api.Fix{0, 1, 2, 3, half - 1, half, half + 1, one - 1, one, one + 1, 3 * one, 1 << 47, 1<<47 + 1, 1 << 62, most - 1, most}
	s := stream(1)
	for i := range 8 {
		l = append(l, api.Fix(s()>>(1+i*6)))
	}
	for _, a := range l {
		l = append(l, -a)
	}
	l = append(l, least, least+half)
	slices.Sort(l)
	return slices.Compact(l)
}

// vectors have each edge on each axis, beside each other one; some are as long as is just told, and some are of any kind.
func vectors() []vector {
	var l []vector
	edges := []api.Fix{least, least + 1, -one, -1, 0, 1, half, one + 1, 1 << 62, most}
	for _, x := range edges {
		for _, y := range edges {
			for _, z := range edges {
				l = append(l, vector{x, y, z})
			}
		}
	}
	s := stream(2)
	for i := range 300 {
		l = append(l, vector{api.Fix(s()) >> (i % 64), api.Fix(s()) >> (i * 5 % 64), api.Fix(s()) >> (i * 11 % 64)})
	}
	return append(l, longest()...)
}

// longest are vectors whose length is about MaxFix, with it on either side.
func longest() []vector {
	var l []vector
	s := stream(3)
	for range 60 {
		x := float64(s() >> 1)
		y := math.Sqrt(math.Ldexp(1, 126)-x*x) * float64(s()>>11) / (1 << 53)
		left := minus(new(big.Int).Lsh(big.NewInt(1), 126), plus(times(api.Fix(x), api.Fix(x)), times(api.Fix(y), api.Fix(y))))
		if left.Sign() <= 0 {
			continue
		}
		z := api.Fix(left.Sqrt(left).Int64())
		l = append(l, vector{api.Fix(x), api.Fix(y), z - 1}, vector{-api.Fix(y), z, api.Fix(x)}, vector{-z - 1, api.Fix(x), api.Fix(-y)}, vector{api.Fix(y), -z - 2, -api.Fix(x)})
	}
	return l
}

// both are two vectors.
type both struct{ a, b vector }

// pairs are vectors with others, with themselves, and with their opposites.
func pairs() []both {
	var l []both
	all := vectors()
	for i, a := range all {
		l = append(l, both{a, a}, both{a, opposite(a)})
		for j := range 12 {
			l = append(l, both{a, all[(i*7+j*211+j*j)%len(all)]})
		}
	}
	return l
}

// opposite is a's opposite; that of MinFix is MaxFix.
func opposite(a vector) vector {
	for i, n := range a {
		a[i] = -max(n, -most)
	}
	return a
}

// round is a with its axes moved on by one.
func round(a vector) vector { return vector{a[1], a[2], a[0]} }

// shifts are by none, by few and by many places, and by fewer than none.
func shifts() []int {
	l := []int{math.MinInt, math.MinInt + 1, math.MinInt32, -1 << 16, -257, math.MaxInt, math.MaxInt - 1, math.MaxInt32, 1 << 16, 257}
	for n := range 141 {
		l = append(l, n-70)
	}
	return l
}

// 6.1: sums, differences, scaled and shifted ones, axis by axis.

func TestAddAndSubGoAxisByAxis(t *testing.T) {
	a, b := vector{one, 2 * one, 3 * one}, vector{4 * one, -5 * one, half}
	check(t, "Add", tell(vec.Add(a, b)), exact(vector{5 * one, -3 * one, 3*one + half}), a, b)
	check(t, "Sub", tell(vec.Sub(a, b)), exact(vector{-3 * one, 7 * one, 2*one + half}), a, b)
	check(t, "Sub", tell(vec.Sub(b, a)), exact(vector{3 * one, -7 * one, -2*one - half}), b, a)
	check(t, "Add", tell(vec.Add(vector{}, vector{})), exact(vector{}), "noughts")
	check(t, "Sub", tell(vec.Sub(a, a)), exact(vector{}), a, a)
	for _, p := range pairs() {
		check(t, "Add", tell(vec.Add(p.a, p.b)), addByWords(p.a, p.b), p)
		check(t, "Sub", tell(vec.Sub(p.a, p.b)), subByWords(p.a, p.b), p)
	}
}

func TestSumsSaturateOneByOneEachAloneAndAll(t *testing.T) {
	for i := range 3 {
		a, b, up, down := vector{7, 8, 9}, vector{1, 1, 1}, vector{8, 9, 10}, vector{6, 7, 8}
		a[i], up[i], down[i] = most, most, most-1
		check(t, "Add", tell(vec.Add(a, b)), cut(up), a, b)
		check(t, "Sub", tell(vec.Sub(a, b)), exact(down), a, b)
		a[i], up[i], down[i] = least, least+1, least
		check(t, "Add", tell(vec.Add(a, b)), exact(up), a, b)
		check(t, "Sub", tell(vec.Sub(a, b)), cut(down), a, b)
	}
	check(t, "Add", tell(vec.Add(vector{most, least, most}, vector{1, -1, most})), cut(vector{most, least, most}), "all beyond")
	check(t, "Add", tell(vec.Add(vector{most, least, most}, vector{least, most, least})), exact(vector{-1, -1, -1}), "the bounds")
	check(t, "Sub", tell(vec.Sub(vector{}, vector{least, least, least})), cut(vector{most, most, most}), "the opposite of MinFix")
	check(t, "Sub", tell(vec.Sub(vector{-1, -1, -1}, vector{least, least, least})), exact(vector{most, most, most}), "-1 less MinFix")
	check(t, "Sub", tell(vec.Sub(vector{least, most, 5}, vector{most, least, 3})), cut(vector{least, most, 2}), "two beyond")
}

func TestScaleIsEachAxisTimesTheNumber(t *testing.T) {
	for _, c := range []struct {
		a    vector
		f    api.Fix
		want said[vector]
	}{
		{vector{one, 2 * one, -3 * one}, half, exact(vector{half, one, -one - half})},
		{vector{one, 2 * one, -3 * one}, -2 * one, exact(vector{-2 * one, -4 * one, 6 * one})},
		{vector{1, -1, 3}, half, exact(vector{1, 0, 2})}, // of two as near the greater one
		{vector{1, -1, -3}, -half, exact(vector{0, 1, 2})},
		{vector{most, least, 5}, one, exact(vector{most, least, 5})},
		{vector{most, least, 5}, 0, exact(vector{})},
		{vector{}, least, exact(vector{})},
		{vector{most, 1, 1}, 2 * one, cut(vector{most, 2, 2})},
		{vector{1, least, 1}, 2 * one, cut(vector{2, least, 2})},
		{vector{1, 1, least}, -one, cut(vector{-1, -1, most})},
		{vector{most, least, most}, least, cut(vector{least, most, least})},
	} {
		check(t, "Scale", tell(vec.Scale(c.a, c.f)), c.want, c.a, c.f)
	}
	for _, a := range vectors() {
		for _, f := range numbers() {
			check(t, "Scale", tell(vec.Scale(a, f)), scaleByWords(a, f), a, f)
		}
	}
}

func TestShiftByNoneByManyAndByFewerThanNone(t *testing.T) {
	for _, c := range []struct {
		a    vector
		n    int
		want said[vector]
	}{
		{vector{1, -2, 3}, 0, exact(vector{1, -2, 3})},
		{vector{most, least, 0}, 0, exact(vector{most, least, 0})},
		{vector{1, -2, 3}, 1, exact(vector{2, -4, 6})},
		{vector{one, -one, 0}, 30, exact(vector{1 << 62, -1 << 62, 0})},
		{vector{one, -one, 0}, 31, cut(vector{most, least, 0})}, // but one of both is beyond
		{vector{0, -one, 0}, 31, exact(vector{0, least, 0})},
		{vector{1, 0, 0}, 63, cut(vector{most, 0, 0})},
		{vector{0, 1, 0}, 64, cut(vector{0, most, 0})},
		{vector{0, 0, -1}, 65, cut(vector{0, 0, least})},
		{vector{1, -1, 2}, math.MaxInt, cut(vector{most, least, most})},
		{vector{}, math.MaxInt, exact(vector{})},
		{vector{3, -3, 1}, -1, exact(vector{1, -2, 0})},
		{vector{one, -one, -1}, -33, exact(vector{0, -1, -1})},
		{vector{most, least, 1}, -62, exact(vector{1, -2, 0})},
		{vector{most, least, 1}, -63, exact(vector{0, -1, 0})},
		{vector{most, least, -1}, math.MinInt, exact(vector{0, -1, -1})},
	} {
		check(t, "Shift", tell(vec.Shift(c.a, c.n)), c.want, c.a, c.n)
	}
	for i, a := range vectors() {
		l := shifts()
		for j := range 30 {
			n := l[(i*3+j*5)%len(l)]
			check(t, "Shift", tell(vec.Shift(a, n)), shiftByWords(a, n), a, n)
		}
	}
}

// 6.1: dot and cross products: each product to the nearest part, all saturated but once.

func TestDotIsTheSumOfTheProducts(t *testing.T) {
	for _, c := range []struct {
		a, b vector
		want said[api.Fix]
	}{
		{vector{one, 2 * one, 3 * one}, vector{4 * one, 5 * one, 6 * one}, exact(32 * one)},
		{vector{one, 2 * one, 3 * one}, vector{4 * one, -5 * one, half}, exact(-4*one - half)},
		{vector{}, vector{most, least, most}, exact(api.Fix(0))},
		{vector{one, 0, 0}, vector{0, one, one}, exact(api.Fix(0))},
		{vector{3 * one, 4 * one, 0}, vector{3 * one, 4 * one, 0}, exact(25 * one)},
	} {
		check(t, "Dot", tell(vec.Dot(c.a, c.b)), c.want, c.a, c.b)
	}
	for _, p := range pairs() {
		check(t, "Dot", tell(vec.Dot(p.a, p.b)), dotByWords(p.a, p.b), p)
	}
}

func TestDotRoundsEachProduct(t *testing.T) {
	halves := vector{half, half, half}
	check(t, "Dot", tell(vec.Dot(vector{1, 1, 1}, halves)), exact(api.Fix(3)), "three halves, each going up")
	check(t, "Dot", tell(vec.Dot(vector{-1, -1, -1}, halves)), exact(api.Fix(0)), "three halves below 0, each going up")
	check(t, "Dot", tell(vec.Dot(vector{1, -1, 0}, halves)), exact(api.Fix(1)), "a half, and its opposite")
	check(t, "Dot", tell(vec.Dot(vector{1, 1, 1}, vector{half - 1, half - 1, half - 1})), exact(api.Fix(0)), "less than halves")
	check(t, "Dot", tell(vec.Dot(vector{-1, -1, -1}, vector{half + 1, half + 1, half + 1})), exact(api.Fix(-3)), "more than halves below 0")
}

func TestDotSaturatesButOnce(t *testing.T) {
	for _, c := range []struct {
		a, b vector
		want said[api.Fix]
	}{
		// The parts saturate, their sum does not.
		{vector{most, most, 0}, vector{2 * one, -2 * one, 0}, exact(api.Fix(0))},
		{vector{most, most, 7}, vector{3 * one, -3 * one, one}, exact(api.Fix(7))},
		{vector{least, 5, least}, vector{least, one, most}, exact(api.Fix(5 + 1<<31))},
		{vector{least, least, -1}, vector{-one, 0, one}, exact(most)},
		{vector{most, 1, 1}, vector{-one, -one, 0}, exact(least)},
		{vector{most, 1, 1}, vector{-one, -one, -one}, cut(least)},
		// The sum saturates, the parts do not.
		{vector{most, 1, 0}, vector{one, one, 0}, cut(most)},
		{vector{0, most, 1}, vector{0, one, one}, cut(most)},
		{vector{1, 0, most}, vector{one, 0, one}, cut(most)},
		{vector{least, 0, -1}, vector{one, one, one}, cut(least)},
		{vector{1 << 62, 1 << 62, 0}, vector{one, one, one}, cut(most)},
		{vector{1 << 62, 1 << 62, -1}, vector{one, one, one}, exact(most)},
		// All do.
		{vector{most, most, most}, vector{most, most, most}, cut(most)},
		{vector{least, least, least}, vector{least, least, least}, cut(most)},
		{vector{least, least, least}, vector{most, most, most}, cut(least)},
	} {
		check(t, "Dot", tell(vec.Dot(c.a, c.b)), c.want, c.a, c.b)
	}
}

func TestCrossIsUprightOnBoth(t *testing.T) {
	x, y, z := vector{one, 0, 0}, vector{0, one, 0}, vector{0, 0, one}
	check(t, "Cross", tell(vec.Cross(x, y)), exact(z), x, y)
	check(t, "Cross", tell(vec.Cross(y, z)), exact(x), y, z)
	check(t, "Cross", tell(vec.Cross(z, x)), exact(y), z, x)
	a, b := vector{one, 2 * one, 3 * one}, vector{4 * one, 5 * one, 6 * one}
	check(t, "Cross", tell(vec.Cross(a, b)), exact(vector{-3 * one, 6 * one, -3 * one}), a, b)
	check(t, "Cross", tell(vec.Cross(vector{2 * one, 3 * one, 5 * one}, vector{7 * one, 11 * one, 13 * one})), exact(vector{-16 * one, 9 * one, one}), "primes")
	check(t, "Cross", tell(vec.Cross(vector{}, vector{most, least, most})), exact(vector{}), "noughts")
	for _, p := range pairs() {
		check(t, "Cross", tell(vec.Cross(p.a, p.b)), crossByWords(p.a, p.b), p)
	}
}

func TestCrossRoundsEachProduct(t *testing.T) {
	// A half goes up ahead of the difference: what is taken off is 1, not 0.
	check(t, "Cross", tell(vec.Cross(vector{1, 0, 0}, vector{0, half, half})), exact(vector{0, -1, 1}), "a half")
	check(t, "Cross", tell(vec.Cross(vector{-1, 0, 0}, vector{0, half, half})), exact(vector{}), "a half below 0")
	check(t, "Cross", tell(vec.Cross(vector{0, 1, 1}, vector{0, half, half})), exact(vector{}), "a half less a half")
	check(t, "Cross", tell(vec.Cross(vector{0, 1, -1}, vector{0, half, half})), exact(vector{1, 0, 0}), "a half, and a half more")
	check(t, "Cross", tell(vec.Cross(vector{0, 1, 0}, vector{half - 1, 0, half + 1})), exact(vector{1, 0, 0}), "beside a half")
}

func TestCrossSaturatesButOnce(t *testing.T) {
	for _, c := range []struct {
		a, b vector
		want said[vector]
	}{
		// The products saturate, their difference does not.
		{vector{0, most, most}, vector{0, 2 * one, 2 * one}, exact(vector{})},
		{vector{0, least, least}, vector{0, least, least}, exact(vector{})},
		{vector{0, most, most}, vector{0, 2*one + 1, 2 * one}, exact(vector{-1 << 31, 0, 0})},
		{vector{0, least, least}, vector{0, -one, 1 - one}, exact(vector{-1 << 31, 0, 0})},
		{vector{0, least, 1}, vector{0, one, -one}, exact(vector{most, 0, 0})},
		{vector{0, least, 1}, vector{0, 0, -one}, cut(vector{most, 0, 0})},
		// The difference saturates, the products do not.
		{vector{0, most, 1}, vector{0, -one, one}, cut(vector{most, 0, 0})},
		{vector{0, 1, most}, vector{0, one, -one}, exact(vector{least, 0, 0})},
		{vector{0, 1, most}, vector{0, one, -2 * one}, cut(vector{least, 0, 0})},
		{vector{0, 1 << 62, 1 << 62}, vector{0, -one, one}, cut(vector{most, 0, 0})},
		{vector{0, 1 << 62, 1 << 62}, vector{0, one, -one}, exact(vector{least, 0, 0})},
		// More than one axis does.
		{vector{most, 0, 0}, vector{0, 2 * one, 3 * one}, cut(vector{0, least, most})},
		{vector{most, most, most}, vector{0, 2 * one, 4 * one}, cut(vector{most, least, most})},
		{vector{most, most, most}, vector{one, one, one}, exact(vector{})},
	} {
		// Each axis has its turn.
		for range 3 {
			check(t, "Cross", tell(vec.Cross(c.a, c.b)), c.want, c.a, c.b)
			c.a, c.b, c.want.n = round(c.a), round(c.b), round(c.want.n)
		}
	}
}

// 6.2: lengths, greatest axes, bounds, and units.

func TestLengthIsTheRootOfTheSquares(t *testing.T) {
	for _, c := range []struct {
		a    vector
		want api.Fix
	}{
		{vector{3 * one, 4 * one, 0}, 5 * one}, // the chapter's example
		{vector{2 * one, -3 * one, 6 * one}, 7 * one},
		{vector{one, one, 0}, 6074000999},
		{vector{one, one, one}, 7439101573},
		{vector{}, 0},
		{vector{most, 0, 0}, most},
		{vector{-most, 0, 0}, most},
		// Parts whose squares would be nothing, if they were rounded.
		{vector{1, 0, 0}, 1}, {vector{-1, 0, 0}, 1}, {vector{1, -1, 0}, 1}, {vector{1, 1, 1}, 1}, {vector{1, 1, -2}, 2}, {vector{2, 2, 1}, 3}, {vector{3, 4, 0}, 5}, {vector{2, 2, 2}, 3}, {vector{65535, 0, 1}, 65535},
	} {
		for range 3 {
			check(t, "Length", tell(vec.Length(c.a)), exact(c.want), c.a)
			c.a = round(c.a)
		}
	}
	for _, a := range vectors() {
		check(t, "Length", tell(vec.Length(a)), lengthByWords(a), a)
	}
}

func TestLengthSaturates(t *testing.T) {
	for _, c := range []struct {
		a    vector
		want said[api.Fix]
	}{
		// Just below, and just beyond: it is the root that saturates, not the squares' sum.
		{vector{most, one - 1, 0}, exact(most)},
		{vector{most, one, 0}, cut(most)},
		{vector{most, one - 1, 92681}, exact(most)},
		{vector{most, 1 - one, 92682}, cut(most)},
		{vector{most - 1, 6074000999, 0}, exact(most)},
		{vector{1 << 62, 1 << 62, 6521908912666391106}, exact(most)},
		{vector{1 << 62, -1 << 62, 6521908912666391107}, cut(most)},
		{vector{least, 0, 0}, cut(most)},
		{vector{least, 1, 0}, cut(most)},
		// From here on the squares' sum is too great for a wide number.
		{vector{most, most, 0}, cut(most)},
		{vector{most, least, 0}, cut(most)},
		{vector{least, least, 0}, cut(most)},
		{vector{most, most, most}, cut(most)},
		{vector{least, least, least}, cut(most)},
		{vector{1 << 62, least, -1 << 62}, cut(most)},
	} {
		for range 3 {
			check(t, "Length", tell(vec.Length(c.a)), c.want, c.a)
			c.a = round(c.a)
		}
	}
}

func TestGreatestIsWithoutItsSign(t *testing.T) {
	for _, c := range []struct {
		a    vector
		want api.Fix
	}{
		{vector{}, 0}, {vector{1, 2, 3}, 3}, {vector{-3, 2, 1}, 3}, {vector{-1, -2, -3}, 3}, {vector{-5, 3, 0}, 5}, {vector{0, 0, -1}, 1}, {vector{7, -7, 7}, 7},
		{vector{-5, 3, least}, most}, {vector{least, least, least}, most}, {vector{least, most, 0}, most}, {vector{most, 1, 1}, most},
		{vector{least + 1, 0, most - 1}, most}, {vector{least + 2, 0, most - 2}, most - 1},
	} {
		for range 3 {
			check(t, "Greatest", vec.Greatest(c.a), c.want, c.a)
			c.a = round(c.a)
		}
	}
	for _, a := range vectors() {
		check(t, "Greatest", vec.Greatest(a), greatestByWords(a), a)
	}
}

func TestClampIsWithinOnEachAxis(t *testing.T) {
	for _, c := range []struct {
		a    vector
		most api.Fix
		want said[vector]
	}{
		{vector{-9, 5, 2}, 4, cut(vector{-4, 4, 2})},
		{vector{-4, 4, 2}, 4, exact(vector{-4, 4, 2})},
		{vector{5, 0, 0}, 4, cut(vector{4, 0, 0})},
		{vector{-5, 0, 0}, 4, cut(vector{-4, 0, 0})},
		{vector{5, -6, 7}, 4, cut(vector{4, -4, 4})},
		{vector{}, 4, exact(vector{})},
		// 0, and below 0, which counts as 0.
		{vector{}, 0, exact(vector{})}, {vector{1, 0, 0}, 0, cut(vector{})}, {vector{-1, 2, -3}, 0, cut(vector{})},
		{vector{}, -1, exact(vector{})}, {vector{1, 0, 0}, -1, cut(vector{})}, {vector{-7, 8, -9}, -4, cut(vector{})}, {vector{most, least, 1}, least, cut(vector{})}, {vector{}, least, exact(vector{})},
		// The greatest: of all numbers just MinFix is not within.
		{vector{most, -most, 0}, most, exact(vector{most, -most, 0})},
		{vector{least, 1, 0}, most, cut(vector{-most, 1, 0})},
		{vector{least, least, least}, most, cut(vector{-most, -most, -most})},
		{vector{most, least + 1, 0}, most - 1, cut(vector{most - 1, 1 - most, 0})},
	} {
		for range 3 {
			check(t, "Clamp", tell(vec.Clamp(c.a, c.most)), c.want, c.a, c.most)
			c.a, c.want.n = round(c.a), round(c.want.n)
		}
	}
	for _, a := range vectors() {
		for _, n := range numbers() {
			check(t, "Clamp", tell(vec.Clamp(a, n)), clampByWords(a, n), a, n)
		}
	}
}

func TestUnitIsTheVectorOverItsLength(t *testing.T) {
	for _, c := range []struct{ a, want vector }{
		{vector{3 * one, 4 * one, 0}, vector{2576980377, 3435973836, 0}},
		{vector{-3 * one, -4 * one, 0}, vector{-2576980377, -3435973836, 0}}, // towards 0, on either side of it
		{vector{2 * one, 3 * one, -6 * one}, vector{1227133513, 1840700269, -3681400539}},
		{vector{one, one, one}, vector{2479700524, 2479700524, 2479700524}},
		// One axis alone.
		{vector{7 * one, 0, 0}, vector{one, 0, 0}}, {vector{-7 * one, 0, 0}, vector{-one, 0, 0}},
		{vector{1, 0, 0}, vector{one, 0, 0}}, {vector{-1, 0, 0}, vector{-one, 0, 0}},
		{vector{most, 0, 0}, vector{one, 0, 0}}, {vector{least + 1, 0, 0}, vector{-one, 0, 0}},
		// The length is rounded: in parts that are few, the unit is longer than 1.
		{vector{1, 1, 0}, vector{one, one, 0}}, {vector{1, -1, 1}, vector{one, -one, one}},
		// The length is MaxFix, but did not saturate.
		{vector{most, one - 1, 0}, vector{one, 1, 0}}, {vector{-most, 1 << 31, 0}, vector{-one, 1, 0}}, {vector{-most, 1<<31 - 1, 1}, vector{-one, 0, 0}},
	} {
		for range 3 {
			check(t, "Unit", tell(vec.Unit(c.a)), said[vector]{c.want, true}, c.a)
			c.a, c.want = round(c.a), round(c.want)
		}
	}
	for _, a := range vectors() {
		check(t, "Unit", tell(vec.Unit(a)), unitByWords(a), a)
	}
}

func TestUnitOfNoughtsAndOfTheTooLong(t *testing.T) {
	for _, a := range []vector{
		{}, {least, 0, 0}, {0, least, 0}, {0, 0, least}, {most, one, 0}, {one, 0, most}, {0, -one, most},
		{most, most, most}, {least, least, 0}, {least, least, least}, {most, 1 - one, 92682}, {1 << 62, -1 << 62, 6521908912666391107},
	} {
		check(t, "Unit", tell(vec.Unit(a)), said[vector]{}, a)
	}
}

// 6.3 (apart).

func TestCrossChangesItsSignWithTheOrder(t *testing.T) {
	for _, p := range pairs() {
		ab, ba := tell(vec.Cross(p.a, p.b)), tell(vec.Cross(p.b, p.a))
		// MinFix and -MaxFix have one opposite: on an axis that is MinFix the one may be exact, and the other not.
		check(t, "Cross", opposite(ab.n), opposite(opposite(ba.n)), p, "in either order")
		if !slices.Contains(ab.n[:], least) && !slices.Contains(ba.n[:], least) {
			check(t, "Cross", ab.told, ba.told, p, "in either order")
		}
	}
}

func TestCrossOfAVectorWithItselfIsNought(t *testing.T) {
	for _, a := range vectors() {
		check(t, "Cross", tell(vec.Cross(a, a)), exact(vector{}), a, "with itself")
	}
}

func TestDotHangsOnNoOrder(t *testing.T) {
	for _, p := range pairs() {
		want := tell(vec.Dot(p.a, p.b))
		check(t, "Dot", tell(vec.Dot(p.b, p.a)), want, p, "in either order")
		check(t, "Dot", tell(vec.Dot(round(p.a), round(p.b))), want, p, "with its axes in another order")
	}
}

// 6.4 (length).

func TestNoAxisIsLongerThanTheLength(t *testing.T) {
	for _, a := range vectors() {
		length, told := vec.Length(a)
		if g := vec.Greatest(a); g > length {
			t.Errorf("Length of %v: %d, below an axis, %d", a, length, g)
		}
		if slices.Contains(a[:], least) && !told {
			t.Errorf("Length of %v: %d, not told to saturate", a, length)
		}
	}
}

func TestTheLengthOfTheOppositeIsTheSame(t *testing.T) {
	for _, a := range vectors() {
		length, told := vec.Length(a)
		other, otherTold := vec.Length(opposite(a))
		check(t, "Length", other, length, a, "its opposite")
		if !slices.Contains(a[:], least) { // it has an opposite itself
			check(t, "Length", otherTold, told, a, "its opposite")
		}
	}
}

// 6.5 (clamped).

func TestWhatIsClampedIsWithinAndStays(t *testing.T) {
	for _, a := range vectors() {
		for _, n := range numbers() {
			got, told := vec.Clamp(a, n)
			if vec.Greatest(got) > max(n, 0) || slices.Contains(got[:], least) {
				t.Errorf("Clamp of %v to %d: %v, not within", a, n, got)
			}
			check(t, "Clamp", tell(vec.Clamp(got, n)), exact(got), a, n, "once more")
			if told == (got == a) {
				t.Errorf("Clamp of %v to %d: %v, told %v", a, n, got, told)
			}
		}
	}
}

// P1: every call ends and none panics. There are no errors here: all vectors, numbers and shifts are taken.

// told is what all calls tell.
type told struct {
	add, sub, scale, shift, cross, clamp, unit said[vector]
	dot, length                                said[api.Fix]
	greatest                                   api.Fix
}

func tellAll(a, b vector, f api.Fix, n int) told {
	return told{
		tell(vec.Add(a, b)), tell(vec.Sub(a, b)), tell(vec.Scale(a, f)), tell(vec.Shift(a, n)), tell(vec.Cross(a, b)), tell(vec.Clamp(a, f)), tell(vec.Unit(a)),
		tell(vec.Dot(a, b)), tell(vec.Length(a)),
		vec.Greatest(a),
	}
}

func callAll(t *testing.T, a, b vector, f api.Fix, n int) {
	t.Helper()
	defer func() {
		if r := recover(); r != nil {
			t.Errorf("a panic (%v) at %v, %v, %d, %d", r, a, b, f, n)
		}
	}()
	tellAll(a, b, f, n)
}

func TestEveryCallEnds(t *testing.T) {
	s := stream(4)
	for i := range 5000 {
		a := vector{api.Fix(s()) >> (i % 64), api.Fix(s()), api.Fix(s()) >> (i / 64 % 64)}
		b := vector{api.Fix(s()), api.Fix(s()) >> (i % 64), api.Fix(s()) >> (i / 64 % 64)}
		callAll(t, a, b, api.Fix(s()), int(s())>>(i%64))
	}
	numbers, shifts := numbers(), shifts()
	for i, p := range pairs() {
		callAll(t, p.a, p.b, numbers[i%len(numbers)], shifts[i%len(shifts)])
	}
}

// P2: no call leaves anything behind that a later one could tell.

func TestNoCallHangsOnThoseAheadOfIt(t *testing.T) {
	numbers, shifts := numbers(), shifts()
	for i, p := range pairs() {
		f, n := numbers[i%len(numbers)], shifts[i%len(shifts)]
		before := tellAll(p.a, p.b, f, n)
		tellAll(vector{}, vector{least, most, least}, 0, 0)
		tellAll(vector{least, least, least}, vector{most, most, most}, least, math.MaxInt)
		check(t, "all calls", tellAll(p.a, p.b, f, n), before, p, f, n)
	}
}
