package fix_test

import (
	"math"
	"math/big"
	"slices"
	"testing"

	"pelorus/api"
	"pelorus/fix"
)

// The calls as the chapter lists them: another signature would not compile.
var (
	_ func(int) (api.Fix, bool)                       = fix.Int
	_ func(api.Fix, api.Fix) (api.Fix, bool)          = fix.Add
	_ func(api.Fix, api.Fix) (api.Fix, bool)          = fix.Sub
	_ func(api.Fix) (api.Fix, bool)                   = fix.Neg
	_ func(api.Fix) (api.Fix, bool)                   = fix.Abs
	_ func(api.Fix, api.Fix) (api.Fix, bool)          = fix.Mul
	_ func(api.Fix, api.Fix) (api.Fix, bool)          = fix.Div
	_ func(...api.Fix) (api.Fix, bool)                = fix.Sum
	_ func(api.Fix) int                               = fix.Floor
	_ func(api.Fix) int                               = fix.Round
	_ func(api.Fix, int) (api.Fix, bool)              = fix.Shift
	_ func(api.Fix, api.Fix, api.Fix) (api.Fix, bool) = fix.Clamp
	_ func(api.Fix, api.Fix) api.Fix                  = fix.Mid
)

const (
	one   = api.One
	half  = api.One / 2
	most  = api.MaxFix
	least = api.MinFix
)

// said is what a call tells: a number, and whether it saturated.
type said struct {
	n   api.Fix
	cut bool
}

func tell(n api.Fix, cut bool) said { return said{n, cut} }

func check(t *testing.T, what string, got, want said, of ...any) {
	t.Helper()
	if got != want {
		t.Errorf("%s of %v: %v, want %v", what, of, got, want)
	}
}

// parts is a's parts as a number without bounds, against which all answers are held.
func parts(a api.Fix) *big.Int { return big.NewInt(int64(a)) }

// up and down are n times and over 2^m; down rounds down.
func up(n *big.Int, m int) *big.Int   { return new(big.Int).Lsh(n, uint(m)) }
func down(n *big.Int, m int) *big.Int { return new(big.Int).Rsh(n, uint(m)) }

func plus(a, b *big.Int) *big.Int  { return new(big.Int).Add(a, b) }
func minus(a, b *big.Int) *big.Int { return new(big.Int).Sub(a, b) }
func times(a, b *big.Int) *big.Int { return new(big.Int).Mul(a, b) }

// bounded is what a call has to tell that comes to n parts.
func bounded(n *big.Int) said {
	switch {
	case n.IsInt64():
		return said{api.Fix(n.Int64()), false}
	case n.Sign() < 0:
		return said{least, true}
	}
	return said{most, true}
}

// numbers are the edges, and some between them that are always the same; the least ones first.
func numbers() []api.Fix {
	l := []api.Fix{0, 1, 2, 3, 7, 10, half - 1, half, half + 1, one - 1, one, one + 1, one + half - 1, one + half, one + half + 1, 2 * one, 3 * one, 10 * one, 1 << 47, 1 << 48, 1<<62 - 1, 1 << 62, 1<<62 + 1, most - one, most - half, most - half + 1, most - 1, most}
	for i := range 12 {
		l = append(l, api.Fix(uint64(i+1)*0x9e3779b97f4a7c15>>(1+i*5)))
	}
	for _, a := range l {
		l = append(l, -a)
	}
	l = append(l, least, least+one, least+half)
	slices.Sort(l)
	return slices.Compact(l)
}

// lists are sums' members: those that come back from beyond the bounds, and some of any kind.
func lists() [][]api.Fix {
	l := [][]api.Fix{nil, {}, {0}, {most}, {least}, {most, 1}, {least, -1}, {most, 5, -5, -1}, {least, -5, 5, 1}, {most, most, least, least}, {most, most, least, least, 2}, {least, least, most, most, one}, {least, least, least}, {most, most, most}}
	n := numbers()
	for i := range 200 {
		var m []api.Fix
		for j := range i % 9 {
			m = append(m, n[(i*37+j*(i+11))%len(n)])
		}
		l = append(l, m)
	}
	return l
}

// shifts are all that move a number by less than its bits, and those below and beyond.
func shifts() []int {
	l := []int{math.MinInt, math.MinInt + 1, math.MinInt32, -256, -192, -191, math.MaxUint16, math.MaxInt32, math.MaxInt - 1, math.MaxInt, 191, 192, 256}
	for n := range 261 {
		l = append(l, n-130)
	}
	return l
}

// 2.1: whole numbers, sums, opposites, products, quotients: each of them saturates, and tells it.

func TestIntIsTheNumber(t *testing.T) {
	check(t, "Int", tell(fix.Int(3)), said{3 * one, false}, 3)
	check(t, "Int", tell(fix.Int(-3)), said{-3 * one, false}, -3)
	check(t, "Int", tell(fix.Int(1<<31-1)), said{most - one + 1, false}, "the greatest that fits")
	check(t, "Int", tell(fix.Int(1<<31)), said{most, true}, "the first beyond")
	check(t, "Int", tell(fix.Int(-1<<31)), said{least, false}, "the least that fits")
	check(t, "Int", tell(fix.Int(-1<<31-1)), said{least, true}, "the first below")
	for _, n := range append(shifts(), 1<<32, -1<<32, 1<<62, -1<<62) {
		check(t, "Int", tell(fix.Int(n)), bounded(up(big.NewInt(int64(n)), 32)), n)
	}
	for _, a := range numbers() {
		check(t, "Int", tell(fix.Int(int(a))), bounded(up(parts(a), 32)), int(a))
	}
}

func TestAddAndSubSaturate(t *testing.T) {
	check(t, "Add", tell(fix.Add(most, 1)), said{most, true}, "the chapter's example")
	check(t, "Add", tell(fix.Add(one, half)), said{one + half, false}, one, half)
	check(t, "Add", tell(fix.Add(most-1, 1)), said{most, false}, "up to the bound")
	check(t, "Add", tell(fix.Add(least, -1)), said{least, true}, "below the bound")
	check(t, "Add", tell(fix.Add(least+1, -1)), said{least, false}, "down to the bound")
	check(t, "Add", tell(fix.Add(least, least)), said{least, true}, "far below")
	check(t, "Add", tell(fix.Add(most, least)), said{-1, false}, "both bounds")
	check(t, "Sub", tell(fix.Sub(half, one)), said{-half, false}, half, one)
	check(t, "Sub", tell(fix.Sub(least, 1)), said{least, true}, "below the bound")
	check(t, "Sub", tell(fix.Sub(most, -1)), said{most, true}, "above the bound")
	check(t, "Sub", tell(fix.Sub(-1, least)), said{most, false}, "-1, MinFix")
	check(t, "Sub", tell(fix.Sub(0, least)), said{most, true}, "0, MinFix")
	check(t, "Sub", tell(fix.Sub(least, least)), said{0, false}, "MinFix, MinFix")
	for _, a := range numbers() {
		for _, b := range numbers() {
			check(t, "Add", tell(fix.Add(a, b)), bounded(plus(parts(a), parts(b))), a, b)
			check(t, "Sub", tell(fix.Sub(a, b)), bounded(minus(parts(a), parts(b))), a, b)
		}
	}
}

func TestNegAndAbsSaturateAtTheLeast(t *testing.T) {
	check(t, "Neg", tell(fix.Neg(least)), said{most, true}, "MinFix")
	check(t, "Neg", tell(fix.Neg(most)), said{least + 1, false}, "MaxFix")
	check(t, "Neg", tell(fix.Neg(0)), said{0, false}, 0)
	check(t, "Abs", tell(fix.Abs(least)), said{most, true}, "MinFix")
	check(t, "Abs", tell(fix.Abs(least+1)), said{most, false}, "one part above MinFix")
	check(t, "Abs", tell(fix.Abs(-one)), said{one, false}, -one)
	check(t, "Abs", tell(fix.Abs(one)), said{one, false}, one)
	for _, a := range numbers() {
		check(t, "Neg", tell(fix.Neg(a)), bounded(new(big.Int).Neg(parts(a))), a)
		check(t, "Abs", tell(fix.Abs(a)), bounded(new(big.Int).Abs(parts(a))), a)
	}
}

func TestMulIsTheNearestProduct(t *testing.T) {
	check(t, "Mul", tell(fix.Mul(one, one)), said{one, false}, "the chapter's example")
	check(t, "Mul", tell(fix.Mul(3*one, half)), said{one + half, false}, 3*one, half)
	check(t, "Mul", tell(fix.Mul(1, half)), said{1, false}, "as near to 0 as to 1")
	check(t, "Mul", tell(fix.Mul(-1, half)), said{0, false}, "as near to -1 as to 0")
	check(t, "Mul", tell(fix.Mul(-3, half)), said{-1, false}, "as near to -2 as to -1")
	check(t, "Mul", tell(fix.Mul(1, half-1)), said{0, false}, "less than a half")
	check(t, "Mul", tell(fix.Mul(-1, half+1)), said{-1, false}, "more than a half below 0")
	check(t, "Mul", tell(fix.Mul(most, 2*one)), said{most, true}, "above")
	check(t, "Mul", tell(fix.Mul(most, -2*one)), said{least, true}, "below")
	check(t, "Mul", tell(fix.Mul(least, -one)), said{most, true}, "MinFix and -1")
	check(t, "Mul", tell(fix.Mul(least, least)), said{most, true}, "MinFix twice")
	// What saturates is the nearest part, not the product ahead of it: a half beside a bound goes to the greater one.
	check(t, "Mul", tell(fix.Mul(1<<48-1<<16, 1<<47+1<<15)), said{most, true}, "half a part above MaxFix")
	check(t, "Mul", tell(fix.Mul(1<<48-80000, 1<<47+40000)), said{most, false}, "a quarter of a part above MaxFix")
	check(t, "Mul", tell(fix.Mul(-274177<<31, 67280421310721)), said{least, false}, "half a part below MinFix")
	check(t, "Mul", tell(fix.Mul(-274177<<31, 67280421310722)), said{least, true}, "further below MinFix")
	for _, a := range numbers() {
		for _, b := range numbers() {
			p := plus(times(parts(a), parts(b)), parts(half))
			check(t, "Mul", tell(fix.Mul(a, b)), bounded(down(p, 32)), a, b)
		}
	}
}

func TestDivRoundsTowardsNought(t *testing.T) {
	check(t, "Div", tell(fix.Div(one, 2*one)), said{half, false}, one, 2*one)
	check(t, "Div", tell(fix.Div(-1, 2*one)), said{0, false}, "half a part below 0")
	check(t, "Div", tell(fix.Div(2*one, 3*one)), said{2863311530, false}, "two thirds")
	check(t, "Div", tell(fix.Div(-2*one, 3*one)), said{-2863311530, false}, "two thirds below 0")
	check(t, "Div", tell(fix.Div(2*one, -3*one)), said{-2863311530, false}, "two thirds below 0")
	check(t, "Div", tell(fix.Div(least, -one)), said{most, true}, "MinFix over -1")
	check(t, "Div", tell(fix.Div(least, one)), said{least, false}, "MinFix over 1")
	check(t, "Div", tell(fix.Div(one, 1)), said{most, true}, "above")
	check(t, "Div", tell(fix.Div(one, -1)), said{least, true}, "below")
	check(t, "Div", tell(fix.Div(least, least)), said{one, false}, "MinFix over itself")
	for _, a := range numbers() {
		for _, b := range numbers() {
			if b != 0 {
				q := new(big.Int).Quo(up(parts(a), 32), parts(b))
				check(t, "Div", tell(fix.Div(a, b)), bounded(q), a, b)
			}
		}
	}
}

func TestDivByNoughtIsTold(t *testing.T) {
	check(t, "Div", tell(fix.Div(0, 0)), said{0, true}, 0, 0)
	for _, a := range numbers() {
		want := said{0, true}
		if a > 0 {
			want.n = most
		} else if a < 0 {
			want.n = least
		}
		check(t, "Div", tell(fix.Div(a, 0)), want, a, 0)
	}
}

func TestSumSaturatesButOnce(t *testing.T) {
	check(t, "Sum", tell(fix.Sum()), said{0, false}, "none")
	check(t, "Sum", tell(fix.Sum(one)), said{one, false}, one)
	check(t, "Sum", tell(fix.Sum(one, half, -3*one)), said{-one - half, false}, one, half, -3*one)
	check(t, "Sum", tell(fix.Sum(most, 5, -5, -1)), said{most - 1, false}, "above on the way alone")
	check(t, "Sum", tell(fix.Sum(least, -5, 5, 1)), said{least + 1, false}, "below on the way alone")
	check(t, "Sum", tell(fix.Sum(most, most, least, least)), said{-2, false}, "round and back")
	check(t, "Sum", tell(fix.Sum(most, most, most)), said{most, true}, "above in the end")
	check(t, "Sum", tell(fix.Sum(least, least, least)), said{least, true}, "below in the end")
	for _, l := range lists() {
		sum := new(big.Int)
		for _, a := range l {
			sum.Add(sum, parts(a))
		}
		check(t, "Sum", tell(fix.Sum(l...)), bounded(sum), l)
	}
}

func TestSumTakesAnyNumber(t *testing.T) {
	l := make([]api.Fix, 3*api.MaxItems)
	for i := range l {
		l[i] = most
	}
	check(t, "Sum", tell(fix.Sum(l...)), said{most, true}, "MaxFix, time and again")
	for i := range len(l) / 2 {
		l[i] = -most
	}
	check(t, "Sum", tell(fix.Sum(append(l, 7)...)), said{7, false}, "far below, and back")
}

// 2.2: whole numbers of a number, shifts, bounds, middles.

func TestFloorAndRound(t *testing.T) {
	for _, c := range []struct {
		a            api.Fix
		floor, round int
	}{
		{0, 0, 0}, {1, 0, 0}, {-1, -1, 0}, {half, 0, 1}, {half - 1, 0, 0}, {-half, -1, 0}, {-half - 1, -1, -1},
		{one, 1, 1}, {-one, -1, -1}, {one + half, 1, 2}, {-one - half, -2, -1}, {-one - 1, -2, -1},
		{most, 1<<31 - 1, 1 << 31}, {most - half, 1<<31 - 1, 1<<31 - 1}, {most - half + 1, 1<<31 - 1, 1 << 31},
		{least, -1 << 31, -1 << 31}, {least + half, -1 << 31, -1<<31 + 1},
	} {
		if f, r := fix.Floor(c.a), fix.Round(c.a); f != c.floor || r != c.round {
			t.Errorf("Floor, Round of %d: %d, %d, want %d, %d", c.a, f, r, c.floor, c.round)
		}
	}
	for _, a := range numbers() {
		if f, want := fix.Floor(a), down(parts(a), 32).Int64(); int64(f) != want {
			t.Errorf("Floor of %d: %d, want %d", a, f, want)
		}
		if r, want := fix.Round(a), down(plus(parts(a), parts(half)), 32).Int64(); int64(r) != want {
			t.Errorf("Round of %d: %d, want %d", a, r, want)
		}
	}
}

func TestShiftSaturatesUpwards(t *testing.T) {
	for _, c := range []struct {
		a    api.Fix
		n    int
		want said
	}{
		{one, 0, said{one, false}}, {one, 30, said{1 << 62, false}}, {one, 31, said{most, true}},
		{-one, 31, said{least, false}}, {-one, 32, said{least, true}},
		{1, 62, said{1 << 62, false}}, {1, 63, said{most, true}}, {1, 64, said{most, true}}, {1, math.MaxInt, said{most, true}},
		{-1, 63, said{least, false}}, {-1, 64, said{least, true}}, {-1, math.MaxInt, said{least, true}},
		{0, math.MaxInt, said{0, false}}, {most, 64, said{most, true}}, {least, 64, said{least, true}}, {least, 65, said{least, true}},
	} {
		check(t, "Shift", tell(fix.Shift(c.a, c.n)), c.want, c.a, c.n)
	}
}

func TestShiftRoundsDown(t *testing.T) {
	for _, c := range []struct {
		a    api.Fix
		n    int
		want api.Fix
	}{
		{one, -32, 1}, {one, -33, 0}, {3, -1, 1}, {-3, -1, -2}, {-1, -70, -1}, {-one, -33, -1},
		{most, -62, 1}, {most, -63, 0}, {least, -63, -1}, {least, -64, -1},
		{most, math.MinInt, 0}, {least, math.MinInt, -1}, {-1, math.MinInt + 1, -1}, {0, math.MinInt, 0},
	} {
		check(t, "Shift", tell(fix.Shift(c.a, c.n)), said{c.want, false}, c.a, c.n)
	}
}

func TestShiftIsTimesAPower(t *testing.T) {
	for _, a := range numbers() {
		for _, n := range shifts() {
			want := bounded(up(parts(a), min(max(n, 0), 200)))
			if n < 0 {
				want = bounded(down(parts(a), -max(n, -200)))
			}
			check(t, "Shift", tell(fix.Shift(a, n)), want, a, n)
		}
	}
}

func TestClampIsTheNearestBetween(t *testing.T) {
	for _, c := range []struct {
		a, lo, hi api.Fix
		want      said
	}{
		{5, 1, 3, said{3, true}}, {0, 1, 3, said{1, true}}, {2, 1, 3, said{2, false}}, {1, 1, 3, said{1, false}}, {3, 1, 3, said{3, false}},
		{2, 2, 2, said{2, false}}, {1, 2, 2, said{2, true}}, {3, 2, 2, said{2, true}},
		{2, 3, 1, said{3, true}}, {3, 3, 1, said{3, true}}, {1, 3, 1, said{3, true}}, {9, 3, 1, said{3, true}}, {-9, 3, 1, said{3, true}},
		{most, least, most, said{most, false}}, {least, least, most, said{least, false}},
		{most, least, least, said{least, true}}, {least, most, least, said{most, true}}, {most, most, least, said{most, true}},
	} {
		check(t, "Clamp", tell(fix.Clamp(c.a, c.lo, c.hi)), c.want, c.a, c.lo, c.hi)
	}
}

func TestMidRoundsDown(t *testing.T) {
	for _, c := range []struct{ a, b, want api.Fix }{
		{-3, 0, -2}, {3, 0, 1}, {-1, 0, -1}, {1, 2, 1}, {3, 5, 4}, {-3, -5, -4}, {-3, 4, 0}, {3, -4, -1},
		{most, most, most}, {least, least, least}, {most, least, -1}, {most, most - 1, most - 1}, {least, least + 1, least},
	} {
		if got := fix.Mid(c.a, c.b); got != c.want {
			t.Errorf("Mid of %d, %d: %d, want %d", c.a, c.b, got, c.want)
		}
	}
	for _, a := range numbers() {
		for _, b := range numbers() {
			if got, want := fix.Mid(a, b), down(plus(parts(a), parts(b)), 1).Int64(); int64(got) != want {
				t.Errorf("Mid of %d, %d: %d, want %d", a, b, got, want)
			}
		}
	}
}

// 2.3 (saturated).

func TestSumsAndOppositesComeBack(t *testing.T) {
	for _, a := range numbers() {
		if n, cut := fix.Neg(a); !cut {
			check(t, "the opposite's opposite", tell(fix.Neg(n)), said{a, false}, a)
			check(t, "a number and its opposite", tell(fix.Add(a, n)), said{0, false}, a)
		}
		for _, b := range numbers() {
			if sum, cut := fix.Add(a, b); !cut {
				check(t, "a sum less what was added", tell(fix.Sub(sum, b)), said{a, false}, a, b)
			}
			if d, cut := fix.Sub(a, b); !cut {
				check(t, "a difference and what was taken", tell(fix.Add(d, b)), said{a, false}, a, b)
			}
		}
	}
	for _, l := range lists() {
		if sum, cut := fix.Sum(l...); !cut {
			for i, a := range l {
				rest := slices.Delete(slices.Clone(l), i, i+1)
				if r, cut := fix.Sum(rest...); !cut {
					check(t, "a sum and what it lacks", tell(fix.Add(r, a)), said{sum, false}, l)
				}
			}
		}
	}
}

func TestOneChangesNothing(t *testing.T) {
	for _, a := range numbers() {
		check(t, "times One", tell(fix.Mul(a, one)), said{a, false}, a)
		check(t, "One times", tell(fix.Mul(one, a)), said{a, false}, a)
		check(t, "over One", tell(fix.Div(a, one)), said{a, false}, a)
		check(t, "by no shift", tell(fix.Shift(a, 0)), said{a, false}, a)
	}
}

func TestWhatIsNotToldToSaturateIsExact(t *testing.T) {
	for _, a := range numbers() {
		if n, cut := fix.Int(int(a)); !cut && (fix.Floor(n) != int(a) || fix.Round(n) != int(a)) {
			t.Errorf("Int of %d is not a whole number: %d", int(a), n)
		}
		for n := range 70 {
			if s, cut := fix.Shift(a, n); !cut {
				check(t, "there and back", tell(fix.Shift(s, -n)), said{a, false}, a, n)
			}
		}
	}
}

// 2.4 (steady).

func TestAGreaterNumberComesToNoLess(t *testing.T) {
	l := numbers()
	for i, a := range l[1:] {
		less := l[i]
		for _, b := range l {
			low, _ := fix.Add(less, b)
			if high, _ := fix.Add(a, b); high < low {
				t.Errorf("%d plus %d is less than %d plus it", a, b, less)
			}
			low, _ = fix.Sum(b, less, b)
			if high, _ := fix.Sum(b, a, b); high < low {
				t.Errorf("the sum of %d and %d twice is less than with %d", a, b, less)
			}
			if b < 0 {
				continue
			}
			low, _ = fix.Mul(less, b)
			if high, _ := fix.Mul(a, b); high < low {
				t.Errorf("%d times %d is less than %d times it", a, b, less)
			}
		}
	}
}

// 2.5 (between).

func TestClampedIsBetweenItsBounds(t *testing.T) {
	l := numbers()
	for _, a := range l {
		for _, lo := range l {
			for _, hi := range l {
				got, cut := fix.Clamp(a, lo, hi)
				if hi < lo {
					check(t, "Clamp with nothing between", said{got, cut}, said{lo, true}, a, lo, hi)
					continue
				}
				if got < lo || got > hi {
					t.Errorf("Clamp of %d to %d, %d: %d", a, lo, hi, got)
				}
				if moved := a < lo || a > hi; moved != cut || !moved && got != a || moved && got != lo && got != hi {
					t.Errorf("Clamp of %d to %d, %d: %d, %v", a, lo, hi, got, cut)
				}
			}
		}
	}
}

func TestAMiddleIsBetween(t *testing.T) {
	for _, a := range numbers() {
		for _, b := range numbers() {
			m := fix.Mid(a, b)
			if m < min(a, b) || m > max(a, b) {
				t.Errorf("Mid of %d, %d: %d", a, b, m)
			}
			if back := fix.Mid(b, a); back != m {
				t.Errorf("Mid of %d, %d: %d, the other way %d", a, b, m, back)
			}
		}
	}
}

// P1: every call ends and none panics.

func TestEveryCallEnds(t *testing.T) {
	l, s := numbers(), shifts()
	for i, a := range l {
		for j, b := range l {
			callAll(t, a, b, l[(i*7+j*3)%len(l)], s[(i*len(l)+j)%len(s)])
		}
		for _, n := range s {
			callAll(t, a, a, a, n)
		}
	}
}

func callAll(t *testing.T, a, b, c api.Fix, n int) {
	t.Helper()
	defer func() {
		if r := recover(); r != nil {
			t.Errorf("a panic (%v) at %d, %d, %d, %d", r, a, b, c, n)
		}
	}()
	fix.Int(n)
	fix.Add(a, b)
	fix.Sub(a, b)
	fix.Neg(a)
	fix.Abs(a)
	fix.Mul(a, b)
	fix.Div(a, b)
	fix.Sum(a, b, c)
	fix.Floor(a)
	fix.Round(a)
	fix.Shift(a, n)
	fix.Clamp(a, b, c)
	fix.Mid(a, b)
}

// P2: no call hangs on those ahead of it, whatever they were given, and what is handed in stays as it is.

func TestNoCallHangsOnThoseAhead(t *testing.T) {
	for _, a := range numbers() {
		before := answers(a)
		fix.Div(a, 0)
		fix.Clamp(a, most, least)
		fix.Shift(a, math.MinInt)
		fix.Sum(most, most, a)
		if after := answers(a); after != before {
			t.Errorf("of %d: %v, ahead of wrong inputs: %v", a, after, before)
		}
	}
}

// answers is what some calls tell of one number.
func answers(a api.Fix) [6]said {
	return [6]said{tell(fix.Sum(a, half, -1)), tell(fix.Mul(a, half)), tell(fix.Div(a, 3)), tell(fix.Shift(a, 5)), tell(fix.Clamp(a, -one, one)), {fix.Mid(a, one), false}}
}

func TestSumLeavesItsListAlone(t *testing.T) {
	for _, l := range lists() {
		ahead := slices.Clone(l)
		fix.Sum(l...)
		if !slices.Equal(l, ahead) {
			t.Errorf("Sum of %v left %v", ahead, l)
		}
	}
}
