package small_test

import (
	"bytes"
	"encoding/binary"
	"math"
	"math/big"
	"slices"
	"testing"

	"pelorus/api"
	"pelorus/fix"
	"pelorus/small"
)

// The calls as the chapter lists them: another signature would not compile.
var (
	_ func(api.Small) api.Fix                      = small.Widen
	_ func(api.Fix) (api.Small, bool)              = small.Narrow
	_ func(api.Small, api.Small) (api.Small, bool) = small.Add
	_ func(api.Small, api.Small) (api.Small, bool) = small.Mul
	_ func(api.Small, api.Fix) (api.Fix, bool)     = small.Times
	_ func(api.Small) [4]byte                      = small.Put
	_ func([]byte) (api.Small, api.Errno)          = small.Get
	_ func(api.Fix) [8]byte                        = small.PutFix
	_ func([]byte) (api.Fix, api.Errno)            = small.GetFix
	_ func(api.Small, int) uint32                  = small.Turn
)

const (
	one   = api.SmallOne
	half  = api.SmallOne / 2
	most  = api.MaxSmall
	least = api.MinSmall
	part  = api.Fix(1 << 16) // a short number's part, in a number's parts
)

// said is what a call tells: a short number, and whether it saturated.
type said struct {
	n   api.Small
	cut bool
}

func tell(n api.Small, cut bool) said { return said{n, cut} }

// saidFix is the same of a number.
type saidFix struct {
	n   api.Fix
	cut bool
}

func tellFix(n api.Fix, cut bool) saidFix { return saidFix{n, cut} }

// got is what is told of bytes.
type got[N any] struct {
	n N
	e api.Errno
}

func read[N any](n N, e api.Errno) got[N] { return got[N]{n, e} }

func check[A comparable](t *testing.T, what string, got, want A, of ...any) {
	t.Helper()
	if got != want {
		t.Errorf("%s of %v: %v, want %v", what, of, got, want)
	}
}

// parts is n as a number without bounds, against which the answers are held.
func parts[N ~int | ~int32 | ~int64](n N) *big.Int { return big.NewInt(int64(n)) }

func times(a, b *big.Int) *big.Int { return new(big.Int).Mul(a, b) }
func plus(a, b *big.Int) *big.Int  { return new(big.Int).Add(a, b) }

// near is n over 2^m to the nearest number, of two the greater one; m is above 0.
func near(n *big.Int, m uint) *big.Int {
	n = plus(n, new(big.Int).Lsh(big.NewInt(1), m-1))
	return n.Rsh(n, m)
}

// bounded is what a call has to tell that comes to n parts.
func bounded(n *big.Int) said {
	switch {
	case n.Cmp(parts(most)) > 0:
		return said{most, true}
	case n.Cmp(parts(least)) < 0:
		return said{least, true}
	}
	return said{api.Small(n.Int64()), false}
}

// smalls are the edges of short numbers, and some between them that are always the same; the least ones first.
func smalls() []api.Small {
	l := []api.Small{0, 1, 2, 3, 99, 100, 101, 181 << 8, 255, 256, half - 1, half, half + 1, one - 1, one, one + 1, one + half, 2 * one, 3 * one, 1 << 23, 1 << 24, 46340 << 8, 1<<30 - 1, 1 << 30, 1<<30 + 1, most - one, most - 1, most}
	for i := range 12 {
		l = append(l, api.Small(uint32(i+1)*0x9e3779b9>>(1+i*2)))
	}
	for _, a := range l {
		l = append(l, -a)
	}
	l = append(l, least, least+one)
	slices.Sort(l)
	return slices.Compact(l)
}

// numbers are the edges of numbers and of what is narrowed, and some between them; the least ones first.
func numbers() []api.Fix {
	l := []api.Fix{0, 1, -1, part, -part, api.One, -api.One, api.One / 2, 1 << 62, -1 << 62, api.MaxFix, api.MaxFix - 1, api.MaxFix - part, api.MinFix, api.MinFix + 1, api.MinFix + part, 1 << 48, -1 << 48}
	for _, a := range smalls() {
		for _, by := range []api.Fix{-part, -part/2 - 1, -part / 2, -part/2 + 1, -1, 0, 1, part/2 - 1, part / 2, part/2 + 1, part} {
			l = append(l, api.Fix(a)*part+by)
		}
	}
	for i := range 24 {
		l = append(l, api.Fix(uint64(i+1)*0x9e3779b97f4a7c15)>>(i*5%60))
	}
	slices.Sort(l)
	return slices.Compact(l)
}

// ticks are the edges of what counts, those below and beyond, and some between.
func ticks() []int {
	return []int{math.MinInt, math.MinInt32, -65536, -100, -1, 0, 1, 2, 3, 25, 50, 99, 100, 101, 150, 1000, 32767, 32768, 65534, 65535, 65536, 65537, 1 << 20, math.MaxInt32, 1 << 32, 1<<32 + 50, math.MaxInt - 1, math.MaxInt}
}

// 3.1: what is widened and narrowed, sums, products.

func TestWidenIsTheSameNumber(t *testing.T) {
	check(t, "Widen", small.Widen(one), api.One, "one")
	check(t, "Widen", small.Widen(-one), -api.One, "-1")
	check(t, "Widen", small.Widen(half), api.One/2, "half")
	check(t, "Widen", small.Widen(-1), -part, "the last part below 0")
	check(t, "Widen", small.Widen(most), 1<<47-part, "MaxSmall")
	check(t, "Widen", small.Widen(least), -1<<47, "MinSmall")
	for _, a := range smalls() {
		check(t, "Widen", int64(small.Widen(a)), times(parts(a), parts(part)).Int64(), a)
	}
}

func TestNarrowIsTheNearest(t *testing.T) {
	for _, c := range []struct {
		a    api.Fix
		want api.Small
	}{
		{api.One, one}, {-api.One, -one}, {0, 0},
		{1, 0}, {-1, 0}, {part / 2, 1}, {part/2 - 1, 0}, {part/2 + 1, 1},
		{-part / 2, 0}, {-part/2 - 1, -1}, {-part/2 + 1, 0},
		{part + part/2, 2}, {-part - part/2, -1}, {-part - part/2 - 1, -2}, {part - 1, 1}, {1 - part, -1},
		{api.Fix(most) * part, most}, {api.Fix(least) * part, least},
	} {
		check(t, "Narrow", tell(small.Narrow(c.a)), said{c.want, false}, c.a)
	}
	for _, a := range numbers() {
		check(t, "Narrow", tell(small.Narrow(a)), bounded(near(parts(a), 16)), a)
	}
}

func TestNarrowSaturates(t *testing.T) {
	above, below := api.Fix(most)*part, api.Fix(least)*part
	for _, c := range []struct {
		a    api.Fix
		want said
	}{
		{above + part/2 - 1, said{most, false}},
		// What saturates is the nearest part: a half beside a bound goes to the greater one.
		{above + part/2, said{most, true}}, {below - part/2, said{least, false}},
		{above + part, said{most, true}}, {below - part/2 - 1, said{least, true}}, {below - part, said{least, true}},
		{1 << 47, said{most, true}}, {1 << 48, said{most, true}}, {-1 << 48, said{least, true}},
		{api.MaxFix, said{most, true}}, {api.MaxFix - part, said{most, true}}, {api.MinFix, said{least, true}},
	} {
		check(t, "Narrow", tell(small.Narrow(c.a)), c.want, c.a)
	}
}

func TestAddSaturates(t *testing.T) {
	check(t, "Add", tell(small.Add(one, half)), said{one + half, false}, one, half)
	check(t, "Add", tell(small.Add(-one, half)), said{-half, false}, -one, half)
	check(t, "Add", tell(small.Add(most, 1)), said{most, true}, "above")
	check(t, "Add", tell(small.Add(most-1, 1)), said{most, false}, "up to the bound")
	check(t, "Add", tell(small.Add(least, -1)), said{least, true}, "below")
	check(t, "Add", tell(small.Add(least+1, -1)), said{least, false}, "down to the bound")
	check(t, "Add", tell(small.Add(most, most)), said{most, true}, "MaxSmall twice")
	check(t, "Add", tell(small.Add(least, least)), said{least, true}, "MinSmall twice")
	check(t, "Add", tell(small.Add(most, least)), said{-1, false}, "both bounds")
	for _, a := range smalls() {
		for _, b := range smalls() {
			check(t, "Add", tell(small.Add(a, b)), bounded(plus(parts(a), parts(b))), a, b)
		}
	}
}

func TestMulIsTheNearestProduct(t *testing.T) {
	for _, c := range []struct {
		a, b api.Small
		want said
	}{
		{one, one, said{one, false}}, {3 * one, half, said{one + half, false}}, {half, half, said{half / 2, false}}, {-3 * one, 2 * one, said{-6 * one, false}},
		{1, half, said{1, false}}, {-1, half, said{0, false}}, {3, half, said{2, false}}, {-3, half, said{-1, false}}, {-3, -half, said{2, false}},
		{1, half - 1, said{0, false}}, {-1, half + 1, said{-1, false}}, {-1, half - 1, said{0, false}}, {1, 1, said{0, false}}, {-1, 1, said{0, false}},
		{most, one, said{most, false}}, {least, one, said{least, false}}, {most, -one, said{-most, false}}, {least, -one, said{most, true}},
		{most, 2 * one, said{most, true}}, {most, -2 * one, said{least, true}}, {1 << 30, 2 * one, said{most, true}}, {-1 << 30, 2 * one, said{least, false}},
		{least, least, said{most, true}}, {most, most, said{most, true}}, {least, most, said{least, true}}, {0, least, said{0, false}},
	} {
		check(t, "Mul", tell(small.Mul(c.a, c.b)), c.want, c.a, c.b)
		check(t, "Mul", tell(small.Mul(c.b, c.a)), c.want, c.b, c.a)
	}
	for _, a := range smalls() {
		for _, b := range smalls() {
			check(t, "Mul", tell(small.Mul(a, b)), bounded(near(times(parts(a), parts(b)), 16)), a, b)
		}
	}
}

func TestMulBesideTheBounds(t *testing.T) {
	// What saturates is the nearest part, not the product ahead of it: a half beside a bound goes to the greater one.
	check(t, "Mul", tell(small.Mul(2067647, 68066497)), said{most, false}, "less than half a part above MaxSmall")
	check(t, "Mul", tell(small.Mul(11184640, 12583104)), said{most, true}, "half a part above MaxSmall")
	check(t, "Mul", tell(small.Mul(-11019553, 12771615)), said{least, false}, "less than half a part below MinSmall")
	check(t, "Mul", tell(small.Mul(10502144, -13400834)), said{least, false}, "half a part below MinSmall")
	check(t, "Mul", tell(small.Mul(-6774293, 20775229)), said{least, true}, "more than half a part below MinSmall")
}

func TestTimesIsTheProductAsNumbers(t *testing.T) {
	check(t, "Times", tellFix(small.Times(half, 3*api.One)), saidFix{api.One + api.One/2, false}, half, 3*api.One)
	check(t, "Times", tellFix(small.Times(half, 1)), saidFix{1, false}, "as near to 0 as to 1")
	check(t, "Times", tellFix(small.Times(-half, 1)), saidFix{0, false}, "as near to -1 as to 0")
	check(t, "Times", tellFix(small.Times(one, api.MinFix)), saidFix{api.MinFix, false}, one, "MinFix")
	check(t, "Times", tellFix(small.Times(-one, api.MinFix)), saidFix{api.MaxFix, true}, -one, "MinFix")
	check(t, "Times", tellFix(small.Times(2*one, api.MaxFix)), saidFix{api.MaxFix, true}, 2*one, "MaxFix")
	check(t, "Times", tellFix(small.Times(-2*one, api.MaxFix)), saidFix{api.MinFix, true}, -2*one, "MaxFix")
	check(t, "Times", tellFix(small.Times(least, api.MinFix)), saidFix{api.MaxFix, true}, "MinSmall", "MinFix")
	for _, a := range smalls() {
		for _, b := range numbers() {
			check(t, "Times", tellFix(small.Times(a, b)), tellFix(fix.Mul(api.Fix(a)*part, b)), a, b)
		}
	}
}

// 3.2: bytes.

func TestPutIsTheBytes(t *testing.T) {
	check(t, "Put", small.Put(one), [4]byte{0, 1, 0, 0}, one)
	check(t, "Put", small.Put(0x01020304), [4]byte{1, 2, 3, 4}, 0x01020304)
	check(t, "Put", small.Put(-2), [4]byte{255, 255, 255, 254}, -2)
	check(t, "Put", small.Put(-one), [4]byte{255, 255, 0, 0}, -one)
	check(t, "Put", small.Put(most), [4]byte{127, 255, 255, 255}, "MaxSmall")
	check(t, "Put", small.Put(least), [4]byte{128, 0, 0, 0}, "MinSmall")
	for _, a := range smalls() {
		var want [4]byte
		binary.BigEndian.PutUint32(want[:], uint32(a))
		check(t, "Put", small.Put(a), want, a)
	}
}

func TestPutFixIsTheBytes(t *testing.T) {
	check(t, "PutFix", small.PutFix(api.One), [8]byte{0, 0, 0, 1, 0, 0, 0, 0}, api.One)
	check(t, "PutFix", small.PutFix(0x0102030405060708), [8]byte{1, 2, 3, 4, 5, 6, 7, 8}, 0x0102030405060708)
	check(t, "PutFix", small.PutFix(-2), [8]byte{255, 255, 255, 255, 255, 255, 255, 254}, -2)
	check(t, "PutFix", small.PutFix(api.MaxFix), [8]byte{127, 255, 255, 255, 255, 255, 255, 255}, "MaxFix")
	check(t, "PutFix", small.PutFix(api.MinFix), [8]byte{128}, "MinFix")
	for _, a := range numbers() {
		var want [8]byte
		binary.BigEndian.PutUint64(want[:], uint64(a))
		check(t, "PutFix", small.PutFix(a), want, a)
	}
}

func TestGetIsTheNumberOfTheFirstBytes(t *testing.T) {
	for _, c := range []struct {
		b    []byte
		want api.Small
	}{
		{[]byte{0, 1, 0, 0}, one}, {[]byte{1, 2, 3, 4}, 0x01020304}, {[]byte{1, 2, 3, 4, 5}, 0x01020304}, {[]byte{1, 2, 3, 4, 5, 6, 7, 8, 9}, 0x01020304},
		{[]byte{255, 255, 255, 255}, -1}, {[]byte{255, 255, 0, 1, 9}, -65535}, {[]byte{127, 255, 255, 255}, most}, {[]byte{128, 0, 0, 0}, least}, {[]byte{128, 0, 0, 1}, least + 1},
	} {
		check(t, "Get", read(small.Get(c.b)), got[api.Small]{c.want, api.OK}, c.b)
	}
	long := append([]byte{128, 0, 0, 5}, make([]byte, api.MaxBytes)...)
	check(t, "Get", read(small.Get(long)), got[api.Small]{least + 5, api.OK}, "many bytes")
}

func TestGetFixIsTheNumberOfTheFirstBytes(t *testing.T) {
	for _, c := range []struct {
		b    []byte
		want api.Fix
	}{
		{[]byte{0, 0, 0, 1, 0, 0, 0, 0}, api.One}, {[]byte{1, 2, 3, 4, 5, 6, 7, 8}, 0x0102030405060708}, {[]byte{1, 2, 3, 4, 5, 6, 7, 8, 9}, 0x0102030405060708},
		{[]byte{255, 255, 255, 255, 255, 255, 255, 255}, -1}, {[]byte{255, 255, 255, 255, 0, 0, 0, 0, 7}, -api.One},
		{[]byte{127, 255, 255, 255, 255, 255, 255, 255}, api.MaxFix}, {[]byte{128, 0, 0, 0, 0, 0, 0, 0}, api.MinFix}, {[]byte{128, 0, 0, 0, 0, 0, 0, 1}, api.MinFix + 1},
	} {
		check(t, "GetFix", read(small.GetFix(c.b)), got[api.Fix]{c.want, api.OK}, c.b)
	}
	long := append([]byte{128, 0, 0, 0, 0, 0, 0, 5}, make([]byte, api.MaxBytes)...)
	check(t, "GetFix", read(small.GetFix(long)), got[api.Fix]{api.MinFix + 5, api.OK}, "many bytes")
}

func TestTooFewBytesAreShort(t *testing.T) {
	check(t, "Get", read(small.Get(nil)), got[api.Small]{0, api.ErrShort}, "none")
	check(t, "GetFix", read(small.GetFix(nil)), got[api.Fix]{0, api.ErrShort}, "none")
	for n := range 8 {
		// What lies behind the bytes handed in is not theirs.
		b := bytes.Repeat([]byte{255}, 16)[:n]
		if n < 4 {
			check(t, "Get", read(small.Get(b)), got[api.Small]{0, api.ErrShort}, b)
		} else {
			check(t, "Get", read(small.Get(b)), got[api.Small]{-1, api.OK}, b)
		}
		check(t, "GetFix", read(small.GetFix(b)), got[api.Fix]{0, api.ErrShort}, b)
	}
}

// 3.3: turns.

func TestTurn(t *testing.T) {
	for _, c := range []struct {
		a     api.Small
		ticks int
		want  uint32
	}{
		{one, 50, 1 << 31}, {one, 25, 1 << 30}, {-one, 25, 3 << 30}, {one, 100, 0}, {-one, 100, 0}, {3 * one, 50, 1 << 31}, {half, 100, 1 << 31},
		{1, 100, 1 << 16}, {-1, 100, 1<<32 - 1<<16}, {100, 1, 1 << 16},
		// Rates below 0 are rounded down, too, not towards 0.
		{1, 1, 655}, {-1, 1, 1<<32 - 656}, {2, 1, 1310}, {-2, 1, 1<<32 - 1311}, {-3, 50, 1<<32 - 98304}, {-25, 1, 1<<32 - 16384},
		{0, 65535, 0}, {one, 0, 0}, {least, 0, 0}, {least, 100, 0}, {most, 100, 1<<32 - 1<<16},
		{most, 65535, 3393024819}, {least, 65535, 858993459},
	} {
		check(t, "Turn", small.Turn(c.a, c.ticks), c.want, c.a, c.ticks)
	}
	for _, a := range smalls() {
		for _, n := range ticks() {
			check(t, "Turn", small.Turn(a, n), turned(a, n), a, n)
		}
	}
}

// turned is what Turn has to tell, by numbers without bounds (Div of those rounds down where what is divided by is above 0).
func turned(a api.Small, n int) uint32 {
	p := times(parts(a), parts(min(max(n, 0), 65535)))
	p.Lsh(p, 16).Div(p, big.NewInt(100))
	return uint32(p.Mod(p, new(big.Int).Lsh(big.NewInt(1), 32)).Uint64())
}

func TestTicksCountAsTheNearest(t *testing.T) {
	for _, a := range smalls() {
		none, all := small.Turn(a, 0), small.Turn(a, 65535)
		check(t, "Turn", none, 0, a, 0)
		for _, n := range ticks() {
			if n < 0 {
				check(t, "Turn", small.Turn(a, n), none, a, n)
			} else if n > 65535 {
				check(t, "Turn", small.Turn(a, n), all, a, n)
			}
		}
	}
}

// 3.4 (back).

func TestWhatIsWidenedIsNarrowedToItself(t *testing.T) {
	for _, a := range smalls() {
		check(t, "Narrow, Widen", tell(small.Narrow(small.Widen(a))), said{a, false}, a)
	}
	for i := range 1 << 16 {
		a := api.Small(int32(uint32(i)*65537 + 1<<31))
		check(t, "Narrow, Widen", tell(small.Narrow(small.Widen(a))), said{a, false}, a)
	}
}

func TestBytesComeBack(t *testing.T) {
	for _, a := range smalls() {
		b := small.Put(a)
		check(t, "Get, Put", read(small.Get(b[:])), got[api.Small]{a, api.OK}, a)
	}
	for _, a := range numbers() {
		b := small.PutFix(a)
		n, e := small.GetFix(b[:])
		check(t, "GetFix, PutFix", read(n, e), got[api.Fix]{a, api.OK}, a)
		check(t, "PutFix, GetFix", small.PutFix(n), b, a)
		s, e := small.Get(b[:])
		check(t, "Get of eight bytes", read(s, e), got[api.Small]{api.Small(a >> 32), api.OK}, a)
		check(t, "Put, Get", small.Put(s), [4]byte(b[:4]), a)
	}
}

func TestNarrowedIsNoFurtherThanHalfAPart(t *testing.T) {
	looked := 0
	for _, a := range numbers() {
		n, cut := small.Narrow(a)
		if cut {
			continue
		}
		looked++
		off := small.Widen(n) - a
		if off > part/2 || off <= -part/2 {
			t.Errorf("Narrow of %d: %d, off by %d, further than a half, or of two as near the lesser one", a, n, off)
		}
	}
	if looked == 0 {
		t.Error("no number that is narrowed without saturating was looked at")
	}
}

// 3.5 (around).

func TestTurningBackEndsWhereItBegan(t *testing.T) {
	lost := 0
	for _, a := range smalls() {
		if a == least { // it has no opposite
			continue
		}
		for _, n := range ticks() {
			both := small.Turn(a, n) + small.Turn(-a, n)
			if both != 0 && both != math.MaxUint32 {
				t.Errorf("Turn of %d and of its opposite by %d ticks come to %d", a, n, both)
			}
			whole := times(parts(a), parts(min(max(n, 0), 65535)*65536))
			exact := whole.Rem(whole, big.NewInt(100)).Sign() == 0
			if exact != (both == 0) {
				t.Errorf("Turn of %d and of its opposite by %d ticks come to %d; is no part lost: %v", a, n, both, exact)
			}
			if !exact {
				lost++
			}
		}
	}
	if lost == 0 {
		t.Error("no turn that loses a part was looked at")
	}
}

// P1: every call ends and none panics.

func TestEveryCallEnds(t *testing.T) {
	s, l, n := smalls(), numbers(), ticks()
	for i, a := range s {
		for j, b := range l {
			callAll(t, a, s[(i*7+j*3)%len(s)], b, n[(i+j)%len(n)])
		}
		for _, k := range n {
			callAll(t, a, a, l[0], k)
		}
	}
}

func callAll(t *testing.T, a, b api.Small, c api.Fix, n int) {
	t.Helper()
	defer func() {
		if r := recover(); r != nil {
			t.Errorf("a panic (%v) at %d, %d, %d, %d", r, a, b, c, n)
		}
	}()
	small.Widen(a)
	small.Narrow(c)
	small.Add(a, b)
	small.Mul(a, b)
	small.Times(a, c)
	four, eight := small.Put(a), small.PutFix(c)
	for k := range len(eight) + 1 {
		small.Get(four[:min(k, len(four))])
		small.Get(eight[:k])
		small.GetFix(eight[:k])
	}
	small.Turn(a, n)
}

// P2: what is refused changes nothing, no call hangs on those ahead of it, and what is handed in stays as it is.

func TestNoCallHangsOnThoseAhead(t *testing.T) {
	for _, a := range smalls() {
		before := answers(a)
		small.Get(nil)
		small.GetFix([]byte{1, 2, 3, 4, 5, 6, 7})
		small.Narrow(api.MaxFix)
		small.Add(least, least)
		small.Turn(least, math.MinInt)
		if after := answers(a); after != before {
			t.Errorf("of %d: %v, ahead of wrong inputs: %v", a, after, before)
		}
	}
}

// told is what some calls tell of one short number.
type told struct {
	sum, product said
	number       got[api.Small]
	turn         uint32
}

func answers(a api.Small) told {
	b := small.Put(a)
	return told{tell(small.Add(a, one)), tell(small.Mul(a, 3)), read(small.Get(b[:])), small.Turn(a, 7)}
}

func TestBytesHandedInStayAsTheyAre(t *testing.T) {
	for n := range 12 {
		b := []byte{128, 1, 2, 3, 4, 5, 6, 7, 8, 9, 10, 11}[:n]
		ahead := slices.Clone(b)
		small.Get(b)
		small.GetFix(b)
		if !slices.Equal(b, ahead) {
			t.Errorf("of %v the calls left %v", ahead, b)
		}
	}
}

func TestBytesHandedOutAreTheCallersOwn(t *testing.T) {
	four, eight := small.Put(one), small.PutFix(api.One)
	four[0], eight[0] = 9, 9
	check(t, "Put", small.Put(one), [4]byte{0, 1, 0, 0}, one)
	check(t, "PutFix", small.PutFix(api.One), [8]byte{0, 0, 0, 1, 0, 0, 0, 0}, api.One)
}
