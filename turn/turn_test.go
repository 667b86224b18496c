package turn_test

import (
	"math"
	"math/big"
	"slices"
	"testing"

	"pelorus/api"
	"pelorus/turn"
)

// The calls as the chapter lists them: another signature would not compile.
var (
	_ func(uint32) (api.Fix, api.Fix) = turn.Both
	_ func(y, x api.Fix) uint32       = turn.Angle
	_ func(from, to uint32) int32     = turn.Way
	_ func(a, b uint32) uint32        = turn.Mid
	_ func(uint32) int                = turn.Degrees
)

const (
	one     = api.One
	most    = api.MaxFix
	least   = api.MinFix
	quarter = uint32(1) << 30
	half    = uint32(1) << 31
	last    = uint32(math.MaxUint32) // one part below a full turn
	full    = 1 << 32
)

// pair is two numbers: a cosine and a sine, or x and y.
type pair struct{ x, y api.Fix }

func both(a uint32) pair { x, y := turn.Both(a); return pair{x, y} }

func check[A comparable](t *testing.T, what string, got, want A, of ...any) {
	t.Helper()
	if got != want {
		t.Errorf("%s of %v: %v, want %v", what, of, got, want)
	}
}

// size is a without its sign; that of MinFix has room here.
func size(a api.Fix) uint64 {
	if a < 0 {
		return -uint64(a)
	}
	return uint64(a)
}

// apart is how far it is from a to b, without a sign, the shorter way round.
func apart(a, b uint32) uint32 { return min(a-b, b-a) }

// stepAngle is the angle of the slope 2^-i, reckoned anew.
func stepAngle(i int) uint32 {
	return uint32(math.Round(math.Atan(math.Ldexp(1, -i)) / (2 * math.Pi) * full))
}

// point is x and y without bounds, that are turned by the chapter's words.
type point struct{ x, y *big.Int }

// turned is p turned by step i, up (one way) or down (the other way).
func (p point) turned(i int, up bool) point {
	byX, byY := new(big.Int).Rsh(p.x, uint(i)), new(big.Int).Rsh(p.y, uint(i))
	if up {
		return point{new(big.Int).Sub(p.x, byY), new(big.Int).Add(p.y, byX)}
	}
	return point{new(big.Int).Add(p.x, byY), new(big.Int).Sub(p.y, byX)}
}

// shifted is n times 2^by, rounding down.
func shifted(n *big.Int, by int) *big.Int {
	if by < 0 {
		return new(big.Int).Rsh(n, uint(-by))
	}
	return new(big.Int).Lsh(n, uint(by))
}

// lowered is p shifted by so few places that the greater one of both is within the chapter's bounds.
func lowered(p point) point {
	low, high := shifted(big.NewInt(1), 60), shifted(big.NewInt(1), 61)
	for by := 61; by > -5; by-- {
		q := point{shifted(p.x, by), shifted(p.y, by)}
		greater := q.x
		if q.y.CmpAbs(q.x) > 0 {
			greater = q.y
		}
		if greater.CmpAbs(low) >= 0 && greater.CmpAbs(high) < 0 {
			return q
		}
	}
	panic("nothing is within the bounds")
}

// bothByWords is what the chapter's words say of an angle's cosine and sine.
func bothByWords(a uint32) pair {
	p := point{big.NewInt(2608131496), new(big.Int)}
	left := int64(a % quarter)
	for i := range 30 {
		up := left >= 0
		p = p.turned(i, up)
		if up {
			left -= int64(stepAngle(i))
		} else {
			left += int64(stepAngle(i))
		}
	}
	c := api.Fix(min(max(p.x.Int64(), 0), int64(one)))
	s := api.Fix(min(max(p.y.Int64(), 0), int64(one)))
	return [4]pair{{c, s}, {-s, c}, {-c, -s}, {s, -c}}[a/quarter]
}

// angleByWords is what they say of the angle of y and x.
func angleByWords(y, x api.Fix) uint32 {
	if y == 0 && x == 0 {
		return 0
	}
	p := point{big.NewInt(int64(x)), big.NewInt(int64(y))}
	var a uint32
	if x < 0 {
		bound := big.NewInt(int64(most))
		for _, n := range []*big.Int{p.x, p.y} {
			if n.Neg(n).Cmp(bound) > 0 {
				n.Set(bound)
			}
		}
		a = half
	}
	p = lowered(p)
	for i := range 30 {
		up := p.y.Sign() < 0
		p = p.turned(i, up)
		if up {
			a -= stepAngle(i)
		} else {
			a += stepAngle(i)
		}
	}
	return a
}

// stream gives numbers that are the same each time.
func stream(seed uint64) func() uint64 {
	x := seed * 0x9e3779b97f4a7c15
	return func() uint64 {
		x ^= x << 13
		x ^= x >> 7
		x ^= x << 17
		return x
	}
}

// angles are the edges, what is one part beside them, and some between that are always the same.
func angles() []uint32 {
	var l []uint32
	for n := range uint32(16) {
		l = append(l, n*(quarter/4), n*(quarter/4)+1, n*(quarter/4)-1)
	}
	for n := range 32 {
		a := uint32(1) << n
		l = append(l, a, a+1, a-1, -a, -a-1, -a+1)
	}
	for i := range 30 {
		for q := range uint32(4) {
			l = append(l, q*quarter+stepAngle(i), q*quarter+stepAngle(i)-1, q*quarter-stepAngle(i))
		}
	}
	s := stream(1)
	for range 500 {
		l = append(l, uint32(s()>>32))
	}
	slices.Sort(l)
	return slices.Compact(l)
}

// numbers are the edges, powers and what is one part beside them, and some between; none is there twice.
func numbers() []api.Fix {
	l := []api.Fix{0, 3, one / 3, one + one/2, 3 * one, 10 * one, most, most - 1, most - 2, least, least + 1, least + 2, least + 3}
	for _, n := range []int{0, 1, 2, 16, 31, 32, 33, 59, 60, 61, 62} {
		l = append(l, 1<<n, 1<<n-1, 1<<n+1, -1<<n, -1<<n+1, -1<<n-1)
	}
	s := stream(2)
	for i := range 20 {
		l = append(l, api.Fix(s())>>(3*i))
	}
	slices.Sort(l)
	return slices.Compact(l)
}

// pairs are all numbers with all others, and some of their own.
func pairs() []pair {
	var l []pair
	for _, x := range numbers() {
		for _, y := range numbers() {
			l = append(l, pair{x, y})
		}
	}
	s := stream(3)
	for i := range 500 {
		l = append(l, pair{api.Fix(s()) >> (i % 63), api.Fix(s()) >> (i % 63)}, pair{api.Fix(s()), api.Fix(s()) >> (i % 63)})
	}
	return l
}

// 5.1: cosine and sine.

func TestBothAtTheQuartersAndBesideThem(t *testing.T) {
	for _, c := range []struct {
		a    uint32
		want pair
	}{
		{0, pair{one, 23}}, {1, pair{one, 23}}, {2, pair{one, 39}}, {quarter - 1, pair{23, one}},
		{quarter, pair{-23, one}}, {quarter + 1, pair{-23, one}}, {half - 1, pair{-one, 23}},
		{half, pair{-one, -23}}, {half + 1, pair{-one, -23}}, {3*quarter - 1, pair{-23, -one}},
		{3 * quarter, pair{23, -one}}, {3*quarter + 1, pair{23, -one}}, {last, pair{one, -23}},
	} {
		check(t, "Both", both(c.a), c.want, c.a)
	}
}

func TestBothBetweenTheQuarters(t *testing.T) {
	for _, c := range []struct {
		a    uint32
		want pair
	}{
		{quarter / 2, pair{3037000512, 3037000485}}, {quarter / 3, pair{3719550784, 2147483661}}, {quarter / 3 * 2, pair{2147483661, 3719550784}},
		{quarter + quarter/2, pair{-3037000485, 3037000512}}, {half + quarter/2, pair{-3037000512, -3037000485}}, {3*quarter + quarter/2, pair{3037000485, -3037000512}},
		{123456789, pair{4225108840, 771491657}}, {2863311530, pair{-2147483661, -3719550784}},
	} {
		check(t, "Both", both(c.a), c.want, c.a)
	}
}

func TestBothIsWhatTheWordsSay(t *testing.T) {
	for _, a := range angles() {
		check(t, "Both", both(a), bothByWords(a), a)
	}
}

func TestBothIsNearCosineAndSine(t *testing.T) {
	for _, a := range angles() {
		s, c := math.Sincos(float64(a) / full * 2 * math.Pi)
		got := both(a)
		if math.Abs(float64(got.x)-c*float64(one)) > 64 || math.Abs(float64(got.y)-s*float64(one)) > 64 {
			t.Errorf("Both of %d: %v, too far from %f and %f", a, got, c, s)
		}
	}
}

func TestBothIsWithinItsBounds(t *testing.T) {
	for _, a := range angles() {
		got := both(a)
		if size(got.x) > uint64(one) || size(got.y) > uint64(one) {
			t.Errorf("Both of %d: %v: one is beyond 1", a, got)
		}
		for _, n := range []struct {
			got   api.Fix
			below bool
		}{{got.x, quarter <= a && a < 3*quarter}, {got.y, half <= a}} {
			if n.below && n.got > 0 || !n.below && n.got < 0 {
				t.Errorf("Both of %d: %v: one has not its quarter's sign", a, got)
			}
		}
	}
}

// 5.1: the angle.

func TestAngleOfNothingIsNought(t *testing.T) {
	check(t, "Angle", turn.Angle(0, 0), 0, 0, 0)
}

func TestAngleOfChosenNumbers(t *testing.T) {
	for _, c := range []struct {
		y, x api.Fix
		want uint32
	}{
		{0, 1, last}, {0, one, last}, {0, most, last}, {0, -1, half - 1}, {0, -one, half - 1}, {0, least, half - 1},
		{1, 0, quarter + 1}, {one, 0, quarter + 1}, {most, 0, quarter + 1}, {-1, 0, 3*quarter - 1}, {-one, 0, 3*quarter - 1}, {least, 0, 3*quarter - 1},
		{1, 1, 536870915}, {one, one, 536870915}, {most, most, 536870915},
		{-1, -1, 2684354563}, {-one, -one, 2684354563}, {least, least, 2684354563},
		{one, -one, 1610612739}, {-one, one, 3758096387}, {least, most, 3758096381}, {most, least, 1610612733},
		{3, 4, 439875013}, {3 * one, 4 * one, 439875013}, {4, 3, 633866811}, {-3, 4, 3855092283}, {3, -4, 1707608635}, {-3, -4, 2587358661}, {1, 2, 316933405},
	} {
		check(t, "Angle", turn.Angle(c.y, c.x), c.want, c.y, c.x)
	}
}

func TestAngleOfTheGreatestNumbersInEitherPlace(t *testing.T) {
	for _, c := range []struct {
		y, x api.Fix
		want uint32
	}{
		{least, 1, 3*quarter - 1}, {least, -1, 3*quarter + 1}, {most, 1, quarter + 1}, {most, -1, quarter - 1},
		{1, most, last}, {-1, most, 1}, {1, least, half + 1}, {-1, least, half - 1},
		{1 << 61, 1, quarter + 1}, {1<<61 - 1, 1 << 60, 756808419},
	} {
		check(t, "Angle", turn.Angle(c.y, c.x), c.want, c.y, c.x)
	}
	// Of MinFix it is MaxFix: with x below 0 both are the same.
	for _, n := range numbers() {
		check(t, "Angle", turn.Angle(n, least), turn.Angle(n, least+1), n, least)
		if n < 0 {
			check(t, "Angle", turn.Angle(least, n), turn.Angle(least+1, n), least, n)
		}
	}
}

func TestAngleIsWhatTheWordsSay(t *testing.T) {
	for _, p := range pairs() {
		check(t, "Angle", turn.Angle(p.y, p.x), angleByWords(p.y, p.x), p.y, p.x)
	}
	for _, p := range vanishing() {
		check(t, "Angle", turn.Angle(p.y, p.x), angleByWords(p.y, p.x), p.y, p.x)
	}
}

// vanishing are numbers of which y comes to 0, or to a part or two beside it, in the course of the steps.
func vanishing() []pair {
	const steps = 7
	var l []pair
	for ups := range 1 << steps {
		p := pair{3 << 40, 0}
		for i := range steps {
			by := pair{p.y >> i, p.x >> i}
			if ups>>i&1 == 1 {
				p = pair{p.x - by.x, p.y + by.y}
			} else {
				p = pair{p.x + by.x, p.y - by.y}
			}
			for off := api.Fix(-2); off <= 2; off++ {
				l = append(l, pair{p.x, p.y + off}, pair{-p.x, p.y + off})
			}
		}
	}
	return l
}

func TestAngleWhereRoundingDownWouldLeaveTheBounds(t *testing.T) {
	// One place less, and y would be -2^61: without its sign it is too great.
	for _, c := range []struct {
		y, x api.Fix
		want uint32
	}{
		{1 - 1<<62, 4610276371333266908, 3757991893}, {1 - 1<<62, 4610276371333266911, 3757991893},
		{1 - 1<<62, 1169481809273338896, 3390992675},
		{1 - 1<<62, 0, 3*quarter - 1}, {least + 1, 0, 3*quarter - 1}, {least + 2, 0, 3*quarter - 1}, {least + 3, 0, 3*quarter - 1},
	} {
		check(t, "Angle", turn.Angle(c.y, c.x), c.want, c.y, c.x)
		check(t, "Angle", angleByWords(c.y, c.x), c.want, c.y, c.x, "by words")
	}
}

func TestAngleHangsOnHowFarBothAreShifted(t *testing.T) {
	// On their way y comes so near to 0 that one place more or less would be told by the rounding.
	for _, c := range []struct {
		y, x api.Fix
		want uint32
	}{
		{148725024206208, 915035913576535, 110139895}, {926431938956400, 33654504165200, 1048920855}, {-739106455009530, 559581543768514, 3664198411},
		{83501501417206571, 84309372795507305, 533580129}, {-116332922022213693, 23392783798041261, 3356871093},
		{134645140772147200, 195430035484569600, 412383891}, {-187311108911805690, 145728627244945300, 3673187593},
		{-346952253966504975, 323903181135085519, 3734619863}, {-452134273936275478, 144442845491600093, 3432598285},
		{-836606624499881046, 448604396958367801, 3557677177}, {-723515833288480500, 614557880193836130, 3702556911}, {809018221811110320, 496634736430066815, 697399425},
		{3457282701300841253, 1570254744761395703, 782316875}, {-3783389836656908419, 323212198786759664, 3279480507},
		{-1295222047569300209, 7483075503463076657, 4177811879}, {7292249187341849092, 2120641632588986107, 880291329},
	} {
		check(t, "Angle", turn.Angle(c.y, c.x), c.want, c.y, c.x)
		check(t, "Angle", angleByWords(c.y, c.x), c.want, c.y, c.x, "by words")
		check(t, "Angle", turn.Angle(-c.y, -c.x), c.want+half, -c.y, -c.x)
	}
}

func TestAngleIsNearTheTrueOne(t *testing.T) {
	for _, p := range pairs() {
		if p == (pair{}) {
			continue
		}
		want := uint32(int64(math.Round(math.Atan2(float64(p.y), float64(p.x)) / (2 * math.Pi) * full)))
		if got := turn.Angle(p.y, p.x); apart(got, want) > 64 {
			t.Errorf("Angle of %v: %d, too far from %d", p, got, want)
		}
	}
}

// 5.2: ways, middles and degrees.

func TestWayIsTheShorterOne(t *testing.T) {
	for _, c := range []struct {
		from, to uint32
		want     int32
	}{
		{0, 0, 0}, {0, 1, 1}, {1, 0, -1}, {5, 2, -3}, {last, 0, 1}, {0, last, -1}, {last, last, 0}, {last - 1, 3, 5}, {3, last - 1, -5},
		{0, half, math.MinInt32}, {half, 0, math.MinInt32}, {7, half + 7, math.MinInt32}, {half + 7, 7, math.MinInt32}, {last, half - 1, math.MinInt32},
		{0, half - 1, math.MaxInt32}, {0, half + 1, -math.MaxInt32}, {1, half, math.MaxInt32}, {half + 1, 0, math.MaxInt32}, {half - 1, 0, -math.MaxInt32},
		{quarter, 3 * quarter, math.MinInt32}, {0, quarter, 1 << 30}, {0, 3 * quarter, -1 << 30}, {3 * quarter, quarter - 1, math.MaxInt32},
	} {
		check(t, "Way", turn.Way(c.from, c.to), c.want, c.from, c.to)
	}
}

func TestWayLeadsThereAndIsNoLongerThanTheOther(t *testing.T) {
	for _, from := range angles() {
		for _, by := range angles() {
			to := from + by
			want := int64(by)
			if want >= full/2 {
				want -= full
			}
			check(t, "Way", int64(turn.Way(from, to)), want, from, to)
		}
	}
}

func TestMidIsHalfWay(t *testing.T) {
	for _, c := range []struct{ a, b, want uint32 }{
		{0, 0, 0}, {0, 2, 1}, {0, 1, 0}, {1, 0, 0}, {0, 3, 1}, {3, 0, 1}, {10, 5, 7}, {5, 10, 7}, {2, 0, 1},
		{last - 1, 2, 0}, {2, last - 1, 0}, {last, 0, last}, {0, last, last}, {last, 2, 0}, {2, last, 0}, {last, last, last},
		{0, half, 3 * quarter}, {half, 0, quarter}, {5, half + 5, 3*quarter + 5}, {half + 5, 5, quarter + 5}, {quarter, 3 * quarter, 0}, {3 * quarter, quarter, half},
		{0, half - 1, quarter - 1}, {half - 1, 0, quarter - 1}, {0, half + 1, 3 * quarter}, {half + 1, 0, 3 * quarter},
	} {
		check(t, "Mid", turn.Mid(c.a, c.b), c.want, c.a, c.b)
	}
	for _, a := range angles() {
		for _, b := range angles() {
			want := int64(a) + int64(math.Floor(float64(turn.Way(a, b))/2))
			check(t, "Mid", turn.Mid(a, b), uint32(want), a, b)
		}
	}
}

func TestDegreesAreTheNearest(t *testing.T) {
	for _, c := range []struct {
		a    uint32
		want int
	}{
		{0, 0}, {1, 0}, {last, 0}, {quarter, 90}, {half, 180}, {3 * quarter, 270}, {quarter - 1, 90}, {half + 1, 180},
		{5965232, 0}, {5965233, 1}, {11930465, 1}, {17895697, 1}, {17895698, 2},
		{full - 11930465, 359}, {full - 5965233, 359}, {full - 5965232, 0}, {full - 5965231, 0},
	} {
		check(t, "Degrees", turn.Degrees(c.a), c.want, c.a)
	}
}

func TestDegreesBetweenTwoWholeOnes(t *testing.T) {
	// Just these angles are as near to the one as to the other.
	for n, want := range []int{23, 68, 113, 158, 203, 248, 293, 338} {
		a := uint32(2*n+1) << 28
		check(t, "Degrees", turn.Degrees(a), want, a)
		check(t, "Degrees", turn.Degrees(a-1), want-1, a-1)
		check(t, "Degrees", turn.Degrees(a+1), want, a+1)
	}
	for n := range uint64(360) {
		edge := uint32(((2*n+1)<<32 + 719) / 720) // the first angle that is no nearer to n than to the next one
		check(t, "Degrees", turn.Degrees(edge), int(n+1)%360, edge)
		check(t, "Degrees", turn.Degrees(edge-1), int(n), edge-1)
	}
}

func TestDegreesAreWithinTheirBounds(t *testing.T) {
	for _, a := range angles() {
		got := turn.Degrees(a)
		if got < 0 || got > 359 {
			t.Errorf("Degrees of %d: %d", a, got)
		}
		// No further than half a degree, in parts of a degree that are 360 to an angle's part.
		off := (int64(a)*360 - int64(got)<<32 + 360*full) % (360 * full)
		if off = min(off, 360*full-off); off > full/2 {
			t.Errorf("Degrees of %d: %d, but another one is nearer", a, got)
		}
	}
}

// 5.3 (around).

func TestAQuarterMore(t *testing.T) {
	for _, a := range angles() {
		p := both(a)
		check(t, "Both", both(a+quarter), pair{-p.y, p.x}, a, "and a quarter")
		check(t, "Both", both(a+half), pair{-p.x, -p.y}, a, "and a half")
		check(t, "Both", both(a-quarter), pair{p.y, -p.x}, a, "less a quarter")
	}
}

// 5.4 (of one length).

func TestTheSquaresComeToOne(t *testing.T) {
	for _, a := range angles() {
		p := both(a)
		sum := new(big.Int).Mul(big.NewInt(int64(p.x)), big.NewInt(int64(p.x)))
		sum.Add(sum, new(big.Int).Mul(big.NewInt(int64(p.y)), big.NewInt(int64(p.y))))
		off := sum.Sub(sum, shifted(big.NewInt(1), 64))
		if off.CmpAbs(shifted(big.NewInt(1024), 32)) > 0 {
			t.Errorf("Both of %d: %v, whose squares are %v off", a, p, off)
		}
	}
}

// 5.5 (back).

func TestTheAngleComesBack(t *testing.T) {
	for _, a := range angles() {
		p := both(a)
		if got := turn.Angle(p.y, p.x); apart(got, a) > 1024 {
			t.Errorf("Angle of %v: %d, too far from %d", p, got, a)
		}
	}
}

// 5.6 (hangs on no length).

func TestTheAngleOfBothDoubledIsTheSame(t *testing.T) {
	for _, p := range append(pairs(), vanishing()...) {
		want := turn.Angle(p.y, p.x)
		for size(p.x) < 1<<62 && size(p.y) < 1<<62 && p != (pair{}) {
			p = pair{2 * p.x, 2 * p.y}
			check(t, "Angle", turn.Angle(p.y, p.x), want, p.y, p.x, "doubled")
		}
	}
}

func TestTheAngleOfBothOppositesIsHalfATurnAway(t *testing.T) {
	for _, p := range append(pairs(), vanishing()...) {
		if p.x == 0 || p.x == least || p.y == least {
			continue
		}
		check(t, "Angle", turn.Angle(-p.y, -p.x), turn.Angle(p.y, p.x)+half, p.y, p.x, "opposites")
	}
}

// P1: every call ends and none panics. There are no errors here: all numbers and all angles are taken.

func TestEveryCallEnds(t *testing.T) {
	s := stream(4)
	for i := range 5000 {
		callAll(t, uint32(s()), uint32(s()), api.Fix(s())>>(i%64), api.Fix(s())>>(i/64%64))
	}
	for i, p := range pairs() {
		l := angles()
		callAll(t, l[i%len(l)], l[i*7%len(l)], p.y, p.x)
	}
}

func callAll(t *testing.T, a, b uint32, y, x api.Fix) {
	t.Helper()
	defer func() {
		if r := recover(); r != nil {
			t.Errorf("a panic (%v) at %d, %d, %d, %d", r, a, b, y, x)
		}
	}()
	tellAll(a, b, y, x)
}

// told is what all calls tell.
type told struct {
	both       pair
	angle, mid uint32
	way        int32
	degrees    int
}

func tellAll(a, b uint32, y, x api.Fix) told {
	return told{both(a), turn.Angle(y, x), turn.Mid(a, b), turn.Way(a, b), turn.Degrees(a)}
}

// P2: no call leaves anything behind that a later one could tell.

func TestNoCallHangsOnThoseAheadOfIt(t *testing.T) {
	l, n := angles(), numbers()
	for i, a := range l {
		b, y, x := l[len(l)-1-i], n[i%len(n)], n[i*5%len(n)]
		before := tellAll(a, b, y, x)
		turn.Angle(0, 0)
		turn.Angle(least, least)
		turn.Both(last)
		turn.Way(0, half)
		turn.Mid(half, 0)
		turn.Degrees(last)
		check(t, "all calls", tellAll(a, b, y, x), before, a, b, y, x)
	}
}
