package mat_test

import (
	"math"
	"math/big"
	"testing"

	"pelorus/api"
	"pelorus/mat"
	"pelorus/turn"
)

// The calls as the chapter lists them: another signature would not compile.
var (
	_ func() api.Mat                                        = mat.Same
	_ func(a, b api.Mat) (api.Mat, bool)                    = mat.Mul
	_ func(a api.Mat, v api.Vec) (api.Vec, bool)            = mat.Apply
	_ func(a api.Mat) api.Mat                               = mat.Back
	_ func(axis int, angle uint32) (m api.Mat, e api.Errno) = mat.About
	_ func(a api.Mat) (api.Mat, bool)                       = mat.Ortho
	_ func(a api.Mat) api.Fix                               = mat.Off
	_ func(a api.Mat) uint32                                = mat.Heading
)

const (
	one     = api.One
	half    = api.One / 2
	most    = api.MaxFix
	least   = api.MinFix
	quarter = 1 << 30
	eighth  = 1 << 29
)

type (
	vector = api.Vec
	matrix = api.Mat
)

// said is what a call tells: a matrix, a vector or a number, and what is told of it.
type said[N any] struct {
	n    N
	told bool
}

func tell[N any](n N, told bool) said[N] { return said[N]{n, told} }

// exact and cut are answers that did not saturate, and that did.
func exact[N any](n N) said[N] { return said[N]{n, false} }
func cut[N any](n N) said[N]   { return said[N]{n, true} }

// upright and crooked are what Ortho tells where it can, and where it can't.
func upright(a matrix) said[matrix] { return said[matrix]{a, true} }
func crooked() said[matrix]         { return said[matrix]{identity(), false} }

func check[A comparable](t *testing.T, what string, got, want A, of ...any) {
	t.Helper()
	if got != want {
		t.Errorf("%s of %v: %v, want %v", what, of, got, want)
	}
}

// within checks that no number of got is further than so many parts from that of want.
func within(t *testing.T, what string, got, want matrix, parts int64, of ...any) {
	t.Helper()
	for i := range got {
		for j := range got[i] {
			if d := minus(got[i][j], want[i][j]); d.CmpAbs(big.NewInt(parts)) > 0 {
				t.Errorf("%s of %v: %v, more than %d parts from %v", what, of, got, parts, want)
				return
			}
		}
	}
}

// The chapter's words, in numbers without bounds.

func minus(a, b api.Fix) *big.Int {
	return new(big.Int).Sub(big.NewInt(int64(a)), big.NewInt(int64(b)))
}

// near is the product to the nearest part, of two as near the greater one.
func near(a, b api.Fix) *big.Int {
	n := new(big.Int).Mul(big.NewInt(int64(a)), big.NewInt(int64(b)))
	return n.Add(n, big.NewInt(int64(half))).Rsh(n, 32)
}

// bounded is what a call has to tell that comes to n parts.
func bounded(n *big.Int) said[api.Fix] {
	switch {
	case n.IsInt64():
		return exact(api.Fix(n.Int64()))
	case n.Sign() < 0:
		return cut(least)
	}
	return cut(most)
}

// byWords is what a call has to tell whose axes come to so many parts.
func byWords(axis func(i int) *big.Int) said[vector] {
	var want said[vector]
	for i := range want.n {
		n := bounded(axis(i))
		want.n[i] = n.n
		want.told = want.told || n.told
	}
	return want
}

func dotByWords(a, b vector) *big.Int {
	n := new(big.Int)
	for i := range a {
		n.Add(n, near(a[i], b[i]))
	}
	return n
}

func crossByWords(a, b vector) said[vector] {
	return byWords(func(i int) *big.Int {
		j, k := (i+1)%3, (i+2)%3
		return new(big.Int).Sub(near(a[j], b[k]), near(a[k], b[j]))
	})
}

func unitByWords(a vector) said[vector] {
	squares := new(big.Int)
	for _, n := range a {
		squares.Add(squares, new(big.Int).Mul(big.NewInt(int64(n)), big.NewInt(int64(n))))
	}
	length := bounded(squares.Sqrt(squares))
	if length.told || length.n == 0 {
		return said[vector]{}
	}
	unit := byWords(func(i int) *big.Int {
		n := new(big.Int).Lsh(big.NewInt(int64(a[i])), 32)
		return n.Quo(n, big.NewInt(int64(length.n)))
	})
	return said[vector]{unit.n, true}
}

func identity() matrix { return matrix{{one, 0, 0}, {0, one, 0}, {0, 0, one}} }

func column(a matrix, j int) vector { return vector{a[0][j], a[1][j], a[2][j]} }

func applyByWords(a matrix, v vector) said[vector] {
	return byWords(func(i int) *big.Int { return dotByWords(a[i], v) })
}

func mulByWords(a, b matrix) said[matrix] {
	var want said[matrix]
	for i := range a {
		row := byWords(func(j int) *big.Int { return dotByWords(a[i], column(b, j)) })
		want.n[i] = row.n
		want.told = want.told || row.told
	}
	return want
}

func backByWords(a matrix) matrix { return matrix{column(a, 0), column(a, 1), column(a, 2)} }

func orthoByWords(a matrix) said[matrix] {
	first := unitByWords(a[0])
	along := bounded(dotByWords(a[1], first.n))
	part := byWords(func(i int) *big.Int { return near(first.n[i], along.n) })
	rest := byWords(func(i int) *big.Int { return minus(a[1][i], part.n[i]) })
	second := unitByWords(rest.n)
	third := crossByWords(first.n, second.n)
	if !first.told || along.told || part.told || rest.told || !second.told || third.told {
		return crooked()
	}
	return upright(matrix{first.n, second.n, third.n})
}

func offByWords(a matrix) api.Fix {
	product := mulByWords(a, backByWords(a)).n
	far := new(big.Int)
	for i, row := range product {
		off := byWords(func(j int) *big.Int { return minus(row[j], identity()[i][j]) })
		for _, n := range off.n {
			if big.NewInt(int64(n)).CmpAbs(far) > 0 {
				far.Abs(big.NewInt(int64(n)))
			}
		}
	}
	return bounded(far).n
}

// What the calls are given.

// stream gives numbers that are the same each time.
func stream(seed uint64) func() uint64 {
	x := seed * 0x9e3779b97f4a7c15
	return func() uint64 {
		x ^= x << 13
		x ^= x >> 7
		x ^= x << 17
		return x
	}
}

// filled is a matrix of what next gives.
func filled(next func() api.Fix) matrix {
	var a matrix
	for i := range a {
		for j := range a[i] {
			a[i][j] = next()
		}
	}
	return a
}

// all is a matrix of one number.
func all(n api.Fix) matrix { return filled(func() api.Fix { return n }) }

func edges() []api.Fix {
	return []api.Fix{0, 0, 1, -1, 2, half, -half, half - 1, one, one, -one, -one, one + 1, 1 << 47, -1 << 47, 1 << 62, -1 << 62, most - 1, most, -most, least}
}

// matrices are noughts, what changes nothing, but in one number, what is filled with edges, with numbers of any size, and what turns.
func matrices() []matrix {
	l := []matrix{{}, identity(), all(1), all(one), all(most), all(least)}
	s := stream(1)
	e := edges()
	for i := range 9 {
		for _, n := range e {
			a := identity()
			a[i/3][i%3] = n
			l = append(l, a)
		}
	}
	for i := range 400 {
		l = append(l, filled(func() api.Fix { return e[s()%uint64(len(e))] }))
		l = append(l, filled(func() api.Fix { return api.Fix(s()) >> (i % 64) }))
		l = append(l, filled(func() api.Fix { return api.Fix(s()) >> (s() % 64) }))
	}
	for _, angle := range angles() {
		for axis := range 3 {
			l = append(l, about(axis, angle))
		}
	}
	return append(l, alike()...)
}

// alike are matrices whose first two rows are of one direction, or nearly.
func alike() []matrix {
	var l []matrix
	s := stream(2)
	for i := range 200 {
		row := vector{api.Fix(s()) >> (2 + i%61), api.Fix(s()) >> (2 + i*7%61), api.Fix(s()) >> (2 + i*11%61)}
		other := vector{-2 * row[0], -2 * row[1], -2 * row[2]}
		little := vector{row[0] + 1, row[1], row[2]}
		l = append(l, matrix{row, row}, matrix{row, other, row}, matrix{other, row}, matrix{row, little})
	}
	return l
}

// angles are each quarter, one part before and behind it, the greatest angle, and some between.
func angles() []uint32 {
	var l []uint32
	for q := range uint32(4) {
		at := q * quarter
		l = append(l, at-1, at, at+1, at+eighth)
	}
	s := stream(3)
	for range 200 {
		l = append(l, uint32(s()>>32))
	}
	return l
}

// axes that are none, below and above.
func noAxes() []int {
	return []int{-1, 3, -2, -3, 4, 5, 6, -1 << 32, 1 << 32, 1<<32 + 1, 1<<33 + 2, math.MinInt32, math.MaxInt32, math.MinInt + 1, math.MaxInt - 1, math.MinInt, math.MaxInt}
}

// about is what About tells of an axis that is one.
func about(axis int, angle uint32) matrix {
	m, _ := mat.About(axis, angle)
	return m
}

// byFloats is what turns about an axis, in numbers that are nearly right.
func byFloats(axis int, angle uint32) matrix {
	sin, cos := math.Sincos(float64(angle) / (1 << 32) * 2 * math.Pi)
	c, s := api.Fix(math.Round(cos*(1<<32))), api.Fix(math.Round(sin*(1<<32)))
	return [3]matrix{
		{{one, 0, 0}, {0, c, -s}, {0, s, c}},
		{{c, 0, s}, {0, one, 0}, {-s, 0, c}},
		{{c, -s, 0}, {s, c, 0}, {0, 0, one}},
	}[axis]
}

// 7.1: what changes nothing, products, and rows and columns exchanged.

func TestSameHasOneWhereRowAndAxisAreTheSame(t *testing.T) {
	check(t, "Same", mat.Same(), identity())
}

func TestApplyIsTheDotProductsOfTheRows(t *testing.T) {
	a := matrix{{one, 2 * one, 3 * one}, {4 * one, -5 * one, 6 * one}, {0, 0, half}}
	check(t, "Apply", tell(mat.Apply(a, vector{one, 0, 0})), exact(vector{one, 4 * one, 0}), a, "axis 0")
	check(t, "Apply", tell(mat.Apply(a, vector{7 * one, one, -2 * one})), exact(vector{3 * one, 11 * one, -one}), a)
	check(t, "Apply", tell(mat.Apply(matrix{}, vector{most, least, most})), exact(vector{}), "noughts")
	check(t, "Apply", tell(mat.Apply(a, vector{})), exact(vector{}), a, "noughts")
	// Each product goes to its nearest part.
	check(t, "Apply", tell(mat.Apply(matrix{{half, half, half}, {-half, -half, -half}, {half - 1, half - 1, half - 1}}, vector{1, 1, 1})), exact(vector{3, 0, 0}), "halves")
	s := stream(4)
	for i, a := range matrices() {
		e := edges()
		v := vector{e[s()%uint64(len(e))], e[s()%uint64(len(e))], e[s()%uint64(len(e))]}
		check(t, "Apply", tell(mat.Apply(a, v)), applyByWords(a, v), a, v)
		v = vector{api.Fix(s()) >> (i % 64), api.Fix(s()) >> (s() % 64), api.Fix(s())}
		check(t, "Apply", tell(mat.Apply(a, v)), applyByWords(a, v), a, v)
	}
}

func TestApplySaturatesInOneAxisAloneAndInAll(t *testing.T) {
	v := vector{one, one, one}
	for i := range 3 {
		a, want := matrix{}, vector{}
		a[i], want[i] = vector{most, 1, 0}, most
		check(t, "Apply", tell(mat.Apply(a, v)), cut(want), a, v)
		a[i], want[i] = vector{-1, 0, least}, least
		check(t, "Apply", tell(mat.Apply(a, v)), cut(want), a, v)
		// The bounds themselves, and what comes back, do not saturate.
		a[i], want[i] = vector{most, 1, -1}, most
		check(t, "Apply", tell(mat.Apply(a, v)), exact(want), a, v)
		a[i], want[i] = vector{1, least, -1}, least
		check(t, "Apply", tell(mat.Apply(a, v)), exact(want), a, v)
	}
	check(t, "Apply", tell(mat.Apply(all(most), v)), cut(vector{most, most, most}), "all MaxFix")
	check(t, "Apply", tell(mat.Apply(all(least), v)), cut(vector{least, least, least}), "all MinFix")
	check(t, "Apply", tell(mat.Apply(all(least), vector{least, least, least})), cut(vector{most, most, most}), "MinFix, twice")
	check(t, "Apply", tell(mat.Apply(matrix{{most, most, 7}, {}, {}}, vector{2 * one, -2 * one, one})), exact(vector{7, 0, 0}), "parts that saturate, and no sum")
}

func TestMulIsRowsWithColumns(t *testing.T) {
	a := matrix{{one, 2 * one, 3 * one}, {4 * one, 5 * one, 6 * one}, {7 * one, 8 * one, 10 * one}}
	b := matrix{{2 * one, 0, one}, {one, 3 * one, 5 * one}, {4 * one, 6 * one, -2 * one}}
	check(t, "Mul", tell(mat.Mul(a, b)), exact(matrix{{16 * one, 24 * one, 5 * one}, {37 * one, 51 * one, 17 * one}, {62 * one, 84 * one, 27 * one}}), a, b)
	check(t, "Mul", tell(mat.Mul(b, a)), exact(matrix{{9 * one, 12 * one, 16 * one}, {48 * one, 57 * one, 71 * one}, {14 * one, 22 * one, 28 * one}}), b, a)
	check(t, "Mul", tell(mat.Mul(matrix{{1, 1, 1}, {-1, -1, -1}, {}}, matrix{{half}, {half}, {half}})), exact(matrix{{3}, {}, {}}), "halves")
	l := matrices()
	for i, a := range l {
		for j := range 4 {
			b := l[(i*7+j*211+j*j)%len(l)]
			check(t, "Mul", tell(mat.Mul(a, b)), mulByWords(a, b), a, b)
		}
	}
}

func TestMulSaturatesInOneAxisAloneAndInAll(t *testing.T) {
	for i := range 3 {
		for j := range 3 {
			// Row i of the one, and column j of the other: all other products are nought.
			row := func(v vector) (a matrix) { a[i] = v; return a }
			b := matrix{}
			b[0][j], b[1][j], b[2][j] = one, one, -one
			only := func(n api.Fix) (a matrix) { a[i][j] = n; return a }
			check(t, "Mul", tell(mat.Mul(row(vector{most, 1, 0}), b)), cut(only(most)), i, j)
			check(t, "Mul", tell(mat.Mul(row(vector{0, least, 1}), b)), cut(only(least)), i, j)
			check(t, "Mul", tell(mat.Mul(row(vector{0, 0, least}), b)), cut(only(most)), i, j)
			check(t, "Mul", tell(mat.Mul(row(vector{most, 1, 1}), b)), exact(only(most)), i, j)
			check(t, "Mul", tell(mat.Mul(row(vector{least, most, -1}), b)), exact(only(0)), i, j)
		}
	}
	check(t, "Mul", tell(mat.Mul(all(most), all(2*one))), cut(all(most)), "all MaxFix")
	check(t, "Mul", tell(mat.Mul(all(most), all(most))), cut(all(most)), "all MaxFix, twice")
	check(t, "Mul", tell(mat.Mul(all(least), all(most))), cut(all(least)), "all MinFix, and MaxFix")
	check(t, "Mul", tell(mat.Mul(all(least), all(least))), cut(all(most)), "all MinFix, twice")
}

func TestBackExchangesRowsAndColumns(t *testing.T) {
	check(t, "Back", mat.Back(matrix{{1, 2, 3}, {4, 5, 6}, {7, 8, 9}}), matrix{{1, 4, 7}, {2, 5, 8}, {3, 6, 9}})
	check(t, "Back", mat.Back(matrix{{least, most, 0}}), matrix{{least}, {most}, {}})
	check(t, "Back", mat.Back(identity()), identity())
	for _, a := range matrices() {
		once := mat.Back(a)
		check(t, "Back", once, backByWords(a), a)
		check(t, "Back", mat.Back(once), a, a, "twice")
	}
}

// 7.2: what turns about an axis.

func TestAboutEachAxis(t *testing.T) {
	for _, angle := range angles() {
		c, s := turn.Both(angle)
		for axis, want := range [3]matrix{
			{{one, 0, 0}, {0, c, -s}, {0, s, c}},
			{{c, 0, s}, {0, one, 0}, {-s, 0, c}},
			{{c, -s, 0}, {s, c, 0}, {0, 0, one}},
		} {
			m, e := mat.About(axis, angle)
			check(t, "About", m, want, axis, angle)
			check(t, "About", e, api.OK, axis, angle)
			within(t, "About", m, byFloats(axis, angle), 512, axis, angle)
		}
	}
}

func TestAQuarterTurnsAnAxisToTheNext(t *testing.T) {
	for axis := range 3 {
		from, to, behind := matrix{}, matrix{}, matrix{}
		i, j := (axis+1)%3, (axis+2)%3
		from[0][i], to[0][j], behind[0][i] = one, one, -one
		for quarters, want := range []matrix{from, to, behind} {
			got, told := mat.Apply(about(axis, uint32(quarters)*quarter), from[0])
			check(t, "Apply", told, false, axis, quarters)
			within(t, "quarters", matrix{got}, want, 512, axis, quarters)
		}
	}
}

func TestAboutNoAxis(t *testing.T) {
	for _, axis := range noAxes() {
		for _, angle := range angles() {
			m, e := mat.About(axis, angle)
			check(t, "About", e, api.ErrArg, axis, angle)
			check(t, "About", m, matrix{}, axis, angle)
		}
	}
}

// 7.3: made upright.

func TestOrthoMakesRowsUpright(t *testing.T) {
	for _, c := range []struct{ a, want matrix }{
		{identity(), identity()},
		// The third row counts for nothing: it is made anew.
		{matrix{{one, 0, 0}, {0, one, 0}, {}}, identity()},
		{matrix{{one, 0, 0}, {0, one, 0}, {0, 0, -one}}, identity()},
		{matrix{{one, 0, 0}, {0, one, 0}, {least, most, least}}, identity()},
		// Of any length, and not upright to one another.
		{matrix{{0, 2 * one, 0}, {3 * one, one, 0}, {9, 9, 9}}, matrix{{0, one, 0}, {one, 0, 0}, {0, 0, -one}}},
		{matrix{{0, 0, -7 * one}, {2 * one, 0, 5 * one}, {one, one, one}}, matrix{{0, 0, -one}, {one, 0, 0}, {0, -one, 0}}},
		{matrix{{5, 0, 0}, {-3, 0, 2}, {}}, matrix{{one, 0, 0}, {0, 0, one}, {0, -one, 0}}},
		{matrix{{0, -one, 0}, {-one, 3 * one, 0}, {}}, matrix{{0, -one, 0}, {-one, 0, 0}, {0, 0, -one}}},
		// MinFix and MaxFix, where nothing saturates.
		{matrix{{most, 0, 0}, {least, 1, 0}, {}}, identity()},
		{matrix{{one, 0, 0}, {least, most, 0}, {}}, identity()},
		{matrix{{-most, 0, 0}, {most, 0, most}, {}}, matrix{{-one, 0, 0}, {0, 0, one}, {0, one, 0}}},
		// Alike, but rounding leaves a rest, and that has a length: the words are kept to.
		{matrix{{one, one, one}, {one, one, one}, {}}, matrix{{2479700524, 2479700524, 2479700524}, {2863311530, 2863311530, 2863311530}, {}}},
	} {
		check(t, "Ortho", tell(mat.Ortho(c.a)), upright(c.want), c.a)
	}
	for _, a := range matrices() {
		check(t, "Ortho", tell(mat.Ortho(a)), orthoByWords(a), a)
	}
}

func TestOrthoOfWhatCanNotBe(t *testing.T) {
	for _, a := range []matrix{
		// A row of noughts.
		{}, {{}, {0, one, 0}, {0, 0, one}}, {{one, 0, 0}, {}, {0, 0, one}},
		// Two rows alike, of one direction, or opposite.
		{{one, 0, 0}, {one, 0, 0}, {0, 0, one}}, {{one, 0, 0}, {5 * one, 0, 0}, {0, 0, one}}, {{0, one, 0}, {0, -one, 0}, {0, 0, one}}, {{3, 4, 0}, {3, 4, 0}, {0, 0, 1}}, {{3, 4, 0}, {-3, -4, 0}, {0, 0, 1}}, {{0, 0, most}, {0, 0, least}, {0, 1, 0}},
		// A row whose length saturates; of the second one it is that of what is left.
		{{most, one, 0}, {0, one, 0}, {}}, {{least, 0, 0}, {0, one, 0}, {}}, {{most, most, most}, {0, one, 0}, {}}, {{one, 0, 0}, {0, most, one}, {}}, {{one, 0, 0}, {0, least, 0}, {}}, {{one, 0, 0}, {one, most, most}, {}},
		// The dot product saturates.
		{{one, one, 0}, {most, most, 0}, {}}, {{-one, 0, 0}, {least, one, 0}, {}},
		// The dot product is MinFix, and once its opposite is taken it saturates.
		{{1, -1, 0}, {-1 << 62, 1 << 62, 0}, {}},
		// What is left is 1 part above MaxFix, and its length at MaxFix would not saturate.
		{{1, one, 0}, {most, -one - half, 0}, {}},
		{{3 * one, 4 * one, 0}, {most, least, 0}, {}},
		all(most), all(least),
	} {
		check(t, "Ortho", tell(mat.Ortho(a)), crooked(), a)
	}
}

func TestOffIsTheGreatestDifference(t *testing.T) {
	for _, c := range []struct {
		a    matrix
		want api.Fix
	}{
		{identity(), 0},
		{matrix{}, one}, // less Same it is below 0
		{matrix{{2 * one, 0, 0}, {0, 2 * one, 0}, {0, 0, 2 * one}}, 3 * one},
		{matrix{{0, one, 0}, {0, 0, -one}, {-one, 0, 0}}, 0},
		{matrix{{0, one, 0}, {one, 0, 0}, {0, 0, one}}, 0},
		{matrix{{one, 2 * one, 0}, {0, one, 0}, {0, 0, 3 * one}}, 8 * one},
		{matrix{{one, 0, 0}, {0, one, 0}, {half, 0, one}}, half},
		{matrix{{one, 0, 0}, {0, one, 0}, {0, -half, one}}, half},
		{matrix{{3 * one, 4 * one, 0}, {}, {0, 0, one}}, 24 * one}, // rows with rows, not columns with columns
		{matrix{{one, 0, 0}, {0, one, 0}, {0, 0, one + 1}}, 2},
		// What saturates.
		{matrix{{most, 0, 0}, {0, one, 0}, {0, 0, one}}, most - one},
		{matrix{{one, 0, 0}, {0, least, 0}, {0, 0, one}}, most - one},
		{matrix{{one, 0, 0}, {most, 1, 0}, {0, 0, one}}, most},
		{matrix{{one, 0, 0}, {least, 1, 0}, {0, 0, one}}, most},
		{all(most), most}, {all(least), most},
	} {
		check(t, "Off", mat.Off(c.a), c.want, c.a)
	}
	for _, a := range matrices() {
		check(t, "Off", mat.Off(a), offByWords(a), a)
	}
}

func TestHeadingIsTheAngleOfTheFirstAxis(t *testing.T) {
	for _, c := range []struct {
		y, x api.Fix
		want uint32
	}{
		{0, one, 0}, {one, one, eighth}, {one, 0, quarter}, {one, -one, 3 * eighth}, {0, -one, 2 * quarter}, {-one, -one, 5 * eighth}, {-one, 0, 3 * quarter}, {-one, one, 7 * eighth},
		{most, 0, quarter}, {0, least, 2 * quarter}, {least, 0, 3 * quarter}, {3, -3, 3 * eighth},
	} {
		// All other numbers count for nothing.
		for _, n := range []api.Fix{0, one, most, least} {
			a := all(n)
			a[1][0], a[0][0] = c.y, c.x
			if way := turn.Way(c.want, mat.Heading(a)); way < -512 || way > 512 {
				t.Errorf("Heading of %v: %d parts from %d", a, way, c.want)
			}
		}
	}
	check(t, "Heading", mat.Heading(matrix{}), 0, "noughts")
	check(t, "Heading", mat.Heading(matrix{{0, most, least}, {0, one, one}, {one, one, one}}), 0, "noughts, but beside them")
	for _, a := range matrices() {
		check(t, "Heading", mat.Heading(a), turn.Angle(a[1][0], a[0][0]), a)
	}
}

// 7.4 (nothing changes).

func TestSameChangesNothing(t *testing.T) {
	for _, a := range matrices() {
		check(t, "Mul", tell(mat.Mul(mat.Same(), a)), exact(a), "Same", a)
		check(t, "Mul", tell(mat.Mul(a, mat.Same())), exact(a), a, "Same")
		for _, v := range a {
			check(t, "Apply", tell(mat.Apply(mat.Same(), v)), exact(v), "Same", v)
		}
	}
}

// 7.5 (turned).

func TestAboutAnAxisTheAxisStays(t *testing.T) {
	for axis := range 3 {
		for _, angle := range angles() {
			m := about(axis, angle)
			for _, n := range edges() {
				v := vector{}
				v[axis] = n
				check(t, "Apply", tell(mat.Apply(m, v)), exact(v), axis, angle, v)
				check(t, "Apply", tell(mat.Apply(mat.Back(m), v)), exact(v), axis, angle, v, "back")
			}
		}
	}
}

func TestTurnedBackIsSame(t *testing.T) {
	for axis := range 3 {
		for _, angle := range angles() {
			m, other := about(axis, angle), about(axis, -angle)
			for _, back := range []matrix{mat.Back(m), other} {
				product, told := mat.Mul(m, back)
				check(t, "Mul", told, false, axis, angle)
				within(t, "there and back", product, identity(), 4096, axis, angle)
				product, _ = mat.Mul(back, m)
				within(t, "back and there", product, identity(), 4096, axis, angle)
			}
			if off := mat.Off(m); off > 4096 {
				t.Errorf("Off of what turns about %d by %d: %d", axis, angle, off)
			}
		}
	}
}

func TestTurnedTwiceIsTurnedByBoth(t *testing.T) {
	l := angles()
	for axis := range 3 {
		for i, a := range l {
			b := l[(i*13+5)%len(l)]
			product, told := mat.Mul(about(axis, a), about(axis, b))
			check(t, "Mul", told, false, axis, a, b)
			within(t, "both angles", product, about(axis, a+b), 4096, axis, a, b)
		}
	}
}

// 7.6 (upright).

func TestWhatIsTurnedAndChangedALittleIsMadeUpright(t *testing.T) {
	const little = 1 << 24
	changes := [](func(s uint64) api.Fix){
		func(uint64) api.Fix { return 0 },
		func(uint64) api.Fix { return little },
		func(uint64) api.Fix { return -little },
		func(s uint64) api.Fix { return []api.Fix{-little, little}[s>>40%2] },
		func(s uint64) api.Fix { return api.Fix(s>>20%(2*little+1)) - little },
	}
	s := stream(5)
	l := angles()
	for i := range 3 * 3 * 200 {
		first, second := i%3, i/3%3
		turned, _ := mat.Mul(about(first, l[i*7%len(l)]), about(second, l[i*5%len(l)]))
		for _, change := range changes {
			a := turned
			for j := range 9 {
				a[j/3][j%3] += change(s())
			}
			got, ok := mat.Ortho(a)
			check(t, "Ortho", ok, true, a)
			if off := mat.Off(got); off > 4096 {
				t.Errorf("Ortho of %v: %v, off by %d", a, got, off)
			}
			// It is made upright, and not turned anew.
			within(t, "Ortho", got, turned, 8*little, a)
		}
	}
}

// 7.7.

func TestHeadingOfWhatTurnsAboutAxis2IsItsAngle(t *testing.T) {
	for _, angle := range angles() {
		if way := turn.Way(angle, mat.Heading(about(2, angle))); way < -1024 || way > 1024 {
			t.Errorf("Heading of what turns by %d: %d parts away", angle, way)
		}
	}
}

// P1: every call ends and none panics.

// told is what all calls tell.
type told struct {
	mul, ortho     said[matrix]
	apply          said[vector]
	same, back, at matrix
	errno          api.Errno
	off            api.Fix
	heading        uint32
}

func tellAll(a, b matrix, axis int, angle uint32) told {
	at, errno := mat.About(axis, angle)
	return told{
		tell(mat.Mul(a, b)), tell(mat.Ortho(a)),
		tell(mat.Apply(a, b[0])),
		mat.Same(), mat.Back(a), at,
		errno, mat.Off(a), mat.Heading(a),
	}
}

func callAll(t *testing.T, a, b matrix, axis int, angle uint32) {
	t.Helper()
	defer func() {
		if r := recover(); r != nil {
			t.Errorf("a panic (%v) at %v, %v, %d, %d", r, a, b, axis, angle)
		}
	}()
	tellAll(a, b, axis, angle)
}

func TestEveryCallEnds(t *testing.T) {
	s := stream(6)
	number := func() api.Fix { return api.Fix(s()) >> (s() % 64) }
	for range 5000 {
		callAll(t, filled(number), filled(number), int(s())>>(s()%64), uint32(s()))
	}
	l, axes, angles := matrices(), noAxes(), angles()
	for i, a := range l {
		callAll(t, a, l[(i*31+7)%len(l)], axes[i%len(axes)], angles[i%len(angles)])
	}
}

// P2: no call leaves anything behind that a later one could tell, be it refused or not.

func TestNoCallHangsOnThoseAheadOfIt(t *testing.T) {
	l, angles := matrices(), angles()
	for i, a := range l {
		b, axis, angle := l[(i*31+7)%len(l)], i%5-1, angles[i%len(angles)]
		before := tellAll(a, b, axis, angle)
		tellAll(matrix{}, all(least), math.MaxInt, math.MaxUint32)
		tellAll(all(least), all(most), -1, 0)
		check(t, "all calls", tellAll(a, b, axis, angle), before, a, b, axis, angle)
	}
}

func TestWhatIsHandedOutIsTheCallersOwn(t *testing.T) {
	same, turned := mat.Same(), about(1, eighth)
	want := turned
	same[0][0], turned[1][1] = 5, 5
	check(t, "Same", mat.Same(), identity(), "once its answer was changed")
	check(t, "About", about(1, eighth), want, "once its answer was changed")
}
