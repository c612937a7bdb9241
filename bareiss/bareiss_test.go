package bareiss

import (
	"encoding/binary"
	"math"
	"math/big"
	"slices"
	"testing"

	"trivium/api"
	"trivium/whole"
)

const top = 1<<32 - 1 // the greatest limb

// wrong are whole numbers that may not be.
var wrong = []api.Int{
	{Neg: true}, {Neg: true, Abs: api.Nat{}}, {Abs: api.Nat{0}}, {Neg: true, Abs: api.Nat{0}}, {Neg: true, Abs: make(api.Nat, 5)},
	{Abs: api.Nat{7, 0}}, {Neg: true, Abs: api.Nat{7, 0, 0}}, {Abs: api.Nat{0, 1, 0}}, {Abs: api.Nat{1 << 32}}, {Neg: true, Abs: api.Nat{1 << 32}},
	{Abs: api.Nat{1<<64 - 1}}, {Neg: true, Abs: api.Nat{1 << 63, 1 << 63}}, {Abs: api.Nat{5, 1 << 40}}, {Neg: true, Abs: slices.Repeat(api.Nat{1<<64 - 1}, 7)},
}

// bare is 0, with a list that is empty, but not nil.
var bare = api.Int{Abs: api.Nat{}}

// ints is a row of these numbers.
func ints(l ...int) []api.Int {
	row := make([]api.Int, len(l))
	for i, n := range l {
		row[i] = whole.Of(n)
	}
	return row
}

// table is a table of these rows.
func table(rows ...[]api.Int) [][]api.Int { return rows }

// filled is a table of so many rows, and places a row, with n in each.
func filled(rows, places, n int) [][]api.Int {
	t := make([][]api.Int, rows)
	for i := range t {
		t[i] = ints(slices.Repeat([]int{n}, places)...)
	}
	return t
}

// ident is 1 down the middle, and 0 else.
func ident(n int) [][]api.Int {
	t := filled(n, n, 0)
	for i := range t {
		t[i][i] = whole.Of(1)
	}
	return t
}

// of is a as a number of math/big, by which the sums here are made.
func of(a api.Int) *big.Int {
	var l []byte
	for _, x := range slices.Backward(a.Abs) {
		l = binary.BigEndian.AppendUint32(l, uint32(x))
	}
	n := new(big.Int).SetBytes(l)
	if a.Neg {
		n.Neg(n)
	}
	return n
}

// is tells whether a is the number n, and may be.
func is(a api.Int, n *big.Int) bool {
	if slices.ContainsFunc(a.Abs, func(x uint64) bool { return x > top }) {
		return false
	}
	if len(a.Abs) == 0 {
		return !a.Neg && n.Sign() == 0
	}
	return a.Abs[len(a.Abs)-1] != 0 && of(a).Cmp(n) == 0
}

// isInt tells whether a is n, and may be.
func isInt(a api.Int, n int) bool { return is(a, big.NewInt(int64(n))) }

// nothing tells whether a is the zero value.
func nothing(a api.Int) bool { return !a.Neg && a.Abs == nil }

// same tells whether both are the same, limb by limb; sameRows and equal tell it of as many places, and rows.
func same(a, b api.Int) bool            { return a.Neg == b.Neg && slices.Equal(a.Abs, b.Abs) }
func sameRows(a, b []api.Int) bool      { return slices.EqualFunc(a, b, same) }
func equal(a, b [][]api.Int) bool       { return slices.EqualFunc(a, b, sameRows) }
func negated(a [][]api.Int) [][]api.Int { return scaled(a, whole.Of(-1)) }

// scaled is each number of a times n.
func scaled(a [][]api.Int, n api.Int) [][]api.Int {
	t := make([][]api.Int, len(a))
	for i, row := range a {
		for _, x := range row {
			t[i] = append(t[i], whole.Mul(x, n))
		}
	}
	return t
}

// draws are numbers, for each seed others, always the same.
type draws uint64

func (x *draws) next() uint64 {
	*x ^= *x << 13
	*x ^= *x >> 7
	*x ^= *x << 17
	return uint64(*x)
}

func drawsOf(seed int) *draws {
	x := draws(uint64(seed+1) * 88172645463325252)
	return &x
}

// number is a nought, or a small or a great number.
func (x *draws) number() api.Int {
	n := x.next()
	small := int(n>>8)%19 - 9
	switch n % 8 {
	case 0, 1:
		return whole.Of(0)
	case 2:
		return bare
	case 3:
		return api.Int{Neg: n>>8%2 == 1, Abs: api.Nat{n >> 32, x.next() >> 32, top}}
	case 4:
		return whole.Of(int(n) | 1)
	default:
		return whole.Of(small)
	}
}

// drawn is a table of so many rows, and places a row.
func drawn(rows, places, seed int) [][]api.Int {
	t, x := make([][]api.Int, rows), drawsOf(seed)
	for i := range t {
		t[i] = make([]api.Int, places)
		for j := range t[i] {
			t[i][j] = x.number()
		}
	}
	return t
}

// small is as drawn, but of small numbers alone, few of them noughts.
func small(rows, places, seed int) [][]api.Int {
	t, x := filled(rows, places, 0), drawsOf(seed)
	for i := range t {
		for j := range t[i] {
			t[i][j] = whole.Of(int(x.next()>>8)%19 - 9)
		}
	}
	return t
}

// regular is a table of n rows, in some order, whose determinant, which is not 0, is told with it.
func regular(n, seed int) ([][]api.Int, api.Int) {
	x, low, up, det := drawsOf(seed), ident(n), ident(n), whole.Of(1)
	for i := range n {
		for j := range n {
			switch v := whole.Of(int(x.next()>>8)%9 - 4); {
			case j < i:
				low[i][j] = v
			case j > i:
				up[i][j] = v
			default:
				up[i][i] = whole.Of(2*(int(x.next()>>8)%5) - 5)
				det = whole.Mul(det, up[i][i])
			}
		}
	}
	t := mul(low, up)
	for i := range n {
		if j := int(x.next()>>1) % n; i != j {
			t[i], t[j] = t[j], t[i]
			det = whole.Neg(det)
		}
	}
	return t, det
}

// mul is the product of both, which fit, by math/big.
func mul(a, b [][]api.Int) [][]api.Int {
	t := make([][]api.Int, len(a))
	for i, row := range a {
		for j := range b[0] {
			sum := new(big.Int)
			for k, x := range row {
				sum.Add(sum, new(big.Int).Mul(of(x), of(b[k][j])))
			}
			n, _ := whole.Parse(sum.String())
			t[i] = append(t[i], n)
		}
	}
	return t
}

// without is t without one row, and one place.
func without(t [][]api.Int, row, place int) [][]api.Int {
	rest := make([][]api.Int, 0, len(t))
	for i := range t {
		if i != row {
			rest = append(rest, slices.Delete(slices.Clone(t[i]), place, place+1))
		}
	}
	return rest
}

// laplace is the determinant of t, which has as many rows as places, by those of what is less by a row and a place.
func laplace(t [][]api.Int) *big.Int {
	if len(t) == 0 {
		return big.NewInt(1)
	}
	sum := new(big.Int)
	for j, x := range t[0] {
		term := of(x)
		if term.Sign() == 0 {
			continue
		}
		term.Mul(term, laplace(without(t, 0, j)))
		if j%2 == 1 {
			term.Neg(term)
		}
		sum.Add(sum, term)
	}
	return sum
}

// corner is the first n rows and places of t.
func corner(t [][]api.Int, n int) [][]api.Int {
	rows := make([][]api.Int, n)
	for i := range rows {
		rows[i] = t[i][:n]
	}
	return rows
}

// squares are tables of as many rows as places, none of them great.
func squares() [][][]api.Int {
	l := [][][]api.Int{
		nil, {}, table(ints(0)), table([]api.Int{bare}), table(ints(-7)), table(ints(0, 1), ints(1, 0)), table(ints(1, 2), ints(2, 4)), table(ints(0, 3), ints(0, 5)),
		table(ints(0, 0), ints(1, 3)), table(ints(0, 2, 1), ints(3, 4, 5), ints(1, 0, 2)), table(ints(1, 2, 3), ints(4, 5, 6), ints(7, 8, 9)),
		table(ints(1, 2, 3), ints(2, 4, 5), ints(3, 7, 1)), table(ints(2, 4, 6), ints(1, 2, 3), ints(0, 0, 5)), table([]api.Int{bare, whole.Of(1)}, []api.Int{whole.Of(1), bare}),
		filled(3, 3, 1), filled(4, 4, 0), ident(5), negated(ident(3)),
	}
	for n := 1; n <= 6; n++ {
		for seed := range 3 {
			a, _ := regular(n, 10*n+seed)
			l = append(l, a, drawn(n, n, 10*n+seed+100), small(n, n, 10*n+seed+200))
		}
	}
	return l
}

// pair is two tables that fit.
type pair struct{ a, b [][]api.Int }

// pairs are tables with right sides of several kinds.
func pairs() []pair {
	var l []pair
	for seed, a := range squares() {
		for _, places := range []int{0, 1, 3} {
			l = append(l, pair{a, drawn(len(a), places, seed+300)})
		}
		l = append(l, pair{a, a}, pair{a, ident(len(a))}, pair{a, filled(len(a), 2, 0)})
	}
	return l
}

// notEven are tables that no call takes, in whichever place.
func notEven() [][][]api.Int {
	return [][][]api.Int{
		table(ints(1), ints(1, 2)),
		table(ints(1, 2), ints(1)),
		table(nil, ints(1)),
		table(ints(1), nil),
		table(ints(1, 0), ints(0, 1, 0)),
		table(ints(1, 0), ints(0)),
		table(ints(1, 0, 0), ints(0, 1, 0), ints(0, 0)),
		table(ints(1, 0, 0), ints(0, 1, 0, 0), ints(0, 0, 1)),
		table(ints(1, 0, 0), ints(0, 1), ints(0, 0, 1)),
		append(ident(100)[:99], ints(1)),
		filled(101, 1, 1),
		filled(101, 0, 0),
		filled(1, 101, 1),
		filled(2, 1000, 1),
		filled(101, 101, 0),
		filled(100, 101, 0),
		filled(101, 100, 0),
		ident(101),
		append(ident(100), nil),
	}
}

// oblong are tables that are even, but have not as many rows as places.
func oblong() [][][]api.Int {
	return [][][]api.Int{
		{nil}, {{}, {}}, filled(100, 0, 0), table(ints(1, 2)), table(ints(1), ints(2)), table(ints(0, 0)), filled(3, 4, 1), filled(4, 3, 0), filled(1, 100, 1), filled(100, 99, 0), filled(99, 100, 0),
	}
}

// refused fails, unless Solve tells this error of both, and nothing beside it.
func refused(tb testing.TB, a, b [][]api.Int, want api.Errno) {
	tb.Helper()
	if x, n, e := Solve(a, b); e != want || len(x) != 0 || !nothing(n) {
		tb.Errorf("Solve(%v, %v): %v, %v, %v, want %v", a, b, x, n, e, want)
	}
}

// 15.1: Det, Minor.

func TestDet(t *testing.T) {
	for _, c := range []struct {
		t    [][]api.Int
		want int
	}{
		{nil, 1},
		{[][]api.Int{}, 1},
		{table(ints(0)), 0},
		{table([]api.Int{bare}), 0},
		{table(ints(1)), 1},
		{table(ints(-7)), -7},
		{table(ints(2, 1), ints(1, 1)), 1}, // the example
		{table(ints(1, 2), ints(3, 4)), -2},
		{table(ints(0, 1), ints(2, 3)), -2},
		{table(ints(0, -1), ints(2, 3)), 2},
		{table(ints(1, 2), ints(2, 4)), 0},
		{table(ints(0, 1), ints(0, 2)), 0},
		{table(ints(0, 0), ints(1, 2)), 0},
		{table([]api.Int{bare, whole.Of(1)}, []api.Int{whole.Of(1), bare}), -1},
		{table(ints(0, 1, 0), ints(0, 0, 1), ints(1, 0, 0)), 1},
		{table(ints(0, 0, 1), ints(0, 1, 0), ints(1, 0, 0)), -1},
		{table(ints(0, 2, 1), ints(3, 4, 5), ints(1, 0, 2)), -6},
		{table(ints(1, 2, 3), ints(4, 5, 6), ints(7, 8, 9)), 0},
		{table(ints(1, 2, 3), ints(4, 5, 6), ints(7, 8, 10)), -3},
		{table(ints(1, 2, 3), ints(2, 4, 5), ints(3, 7, 1)), 1}, // the second pivot is 0 at first
		{table(ints(2, 4, 6), ints(1, 2, 3), ints(0, 0, 5)), 0},
		{table(ints(0, 0, 2, 0), ints(0, 3, 0, 0), ints(0, 0, 0, 5), ints(7, 0, 0, 0)), 210},
		{table(ints(1<<31, 1), ints(1, 1<<31)), 1<<62 - 1},
		{table(ints(top, 1), ints(-1, 1<<31)), top<<31 + 1},
		{table(ints(-top, top), ints(-top, top)), 0},
		{filled(100, 100, 1), 0},
		{filled(100, 100, 0), 0},
		{ident(100), 1},
		{negated(ident(99)), -1},
	} {
		if a, e := Det(c.t); e != api.OK || !isInt(a, c.want) {
			t.Errorf("Det(%v): %v, %v, want %v", c.t, a, e, c.want)
		}
	}
}

func TestDetOfLongNumbers(t *testing.T) {
	long := api.Int{Neg: true, Abs: slices.Repeat(api.Nat{top}, 9)}
	other := api.Int{Abs: append(make(api.Nat, 5), 1<<31)}
	want := new(big.Int).Mul(of(long), of(long))
	want.Sub(want, new(big.Int).Mul(of(other), of(other)))
	if a, e := Det(table([]api.Int{long, other}, []api.Int{other, long})); e != api.OK || !is(a, want) {
		t.Errorf("%v, %v, want %v", a, e, want)
	}
	if a, e := Det(table([]api.Int{long})); e != api.OK || !is(a, of(long)) {
		t.Errorf("%v, %v, want %v", a, e, long)
	}
}

// By the determinants of what is less by a row and a place.
func TestDetOfMany(t *testing.T) {
	for _, a := range squares() {
		if det, e := Det(a); e != api.OK || !is(det, laplace(a)) {
			t.Fatalf("Det(%v): %v, %v, want %v", a, det, e, laplace(a))
		}
	}
}

// Of each order of four rows that have one 1 each: places that are told apart by swaps alone.
func TestDetOfEachOrder(t *testing.T) {
	for n := range 256 {
		a := filled(4, 4, 0)
		for i := range 4 {
			a[i][n>>(2*i)&3] = whole.Of(i + 2)
		}
		if det, e := Det(a); e != api.OK || !is(det, laplace(a)) {
			t.Fatalf("Det(%v): %v, %v", a, det, e)
		}
	}
}

func TestDetOfGreatTables(t *testing.T) {
	for _, n := range []int{7, 12, 20, 33, 50, 100} {
		a, want := regular(n, n)
		if det, e := Det(a); e != api.OK || !is(det, of(want)) {
			t.Errorf("%d rows: %v, %v, want %v", n, det, e, want)
		}
		a[n-1] = a[0]
		if det, e := Det(a); e != api.OK || !isInt(det, 0) {
			t.Errorf("%d rows, the last one as the first: %v, %v", n, det, e)
		}
	}
}

func TestMinor(t *testing.T) {
	a := table(ints(0, 2, 1), ints(3, 4, 5), ints(1, 0, 2))
	for _, c := range []struct {
		t       [][]api.Int
		n, want int
	}{
		{nil, 0, 1},
		{[][]api.Int{}, 0, 1},
		{table(ints(0)), 0, 1},
		{table(ints(9)), 1, 9},
		{table(ints(1, 2), ints(3, 4)), 1, 1},
		{a, 0, 1}, {a, 1, 0}, {a, 2, -6}, {a, 3, -6},
		{table(ints(1, 2, 0), ints(2, 4, 1), ints(0, 1, 0)), 2, 0},
		{table(ints(1, 2, 0), ints(2, 4, 1), ints(0, 1, 0)), 3, -1},
		{filled(100, 100, 7), 0, 1}, {filled(100, 100, 7), 1, 7}, {filled(100, 100, 7), 2, 0}, {filled(100, 100, 7), 100, 0},
		{ident(100), 100, 1}, {ident(100), 99, 1},
	} {
		if m, e := Minor(c.t, c.n); e != api.OK || !isInt(m, c.want) {
			t.Errorf("Minor(%v, %d): %v, %v, want %v", c.t, c.n, m, e, c.want)
		}
	}
}

func TestMinorOfMany(t *testing.T) {
	for _, a := range squares() {
		for n := range len(a) + 1 {
			if m, e := Minor(a, n); e != api.OK || !is(m, laplace(corner(a, n))) {
				t.Fatalf("Minor(%v, %d): %v, %v", a, n, m, e)
			}
		}
		for _, n := range []int{-1, len(a) + 1, -len(a) - 1, 100, 101, 1 << 32, math.MinInt, math.MaxInt} {
			if m, e := Minor(a, n); e != api.ErrShape || !nothing(m) {
				t.Fatalf("Minor(%v, %d): %v, %v", a, n, m, e)
			}
		}
	}
}

// Of a table that is none there is no minor, though the first rows and places be well.
func TestShapeOfDetAndMinor(t *testing.T) {
	for _, a := range append(notEven(), oblong()...) {
		if det, e := Det(a); e != api.ErrShape || !nothing(det) {
			t.Errorf("Det(%v): %v, %v", a, det, e)
		}
		for _, n := range []int{-1, 0, 1, 2, len(a), len(a) + 1} {
			if m, e := Minor(a, n); e != api.ErrShape || !nothing(m) {
				t.Errorf("Minor(%v, %d): %v, %v", a, n, m, e)
			}
		}
	}
}

// 15.2: Solve.

func TestSolve(t *testing.T) {
	for _, c := range []struct {
		a, b, want [][]api.Int
		det        int
	}{
		{nil, nil, nil, 1},
		{[][]api.Int{}, nil, nil, 1},
		{nil, [][]api.Int{}, nil, 1},
		{table(ints(4)), table(ints(3)), table(ints(3)), 4},
		{table(ints(-4)), table(ints(3)), table(ints(3)), -4},
		{table(ints(-4)), table(ints(3, 0, -5)), table(ints(3, 0, -5)), -4},
		{table(ints(5)), table([]api.Int{bare}), table(ints(0)), 5},
		{table(ints(5)), table(nil), table(nil), 5},
		{table(ints(2, 1), ints(1, 1)), table(ints(3), ints(2)), table(ints(1), ints(1)), 1},
		{table(ints(0, 2), ints(3, 1)), table(ints(4), ints(5)), table(ints(-6), ints(-12)), -6},
		{table(ints(0, -2), ints(3, 1)), table(ints(4), ints(5)), table(ints(14), ints(-12)), 6},
		{table(ints(0, 1), ints(1, 0)), table(ints(7, 8), ints(9, 0)), table(ints(-9, 0), ints(-7, -8)), -1},
		{table(ints(1, 2), ints(3, 4)), ident(2), table(ints(4, -2), ints(-3, 1)), -2},
		{table(ints(1, 2), ints(3, 4)), table(nil, []api.Int{}), table(nil, nil), -2},
		{table(ints(1, 2), ints(3, 4)), filled(2, 3, 0), filled(2, 3, 0), -2},
		{table(ints(1, 2, 3), ints(0, 1, 4), ints(5, 6, 0)), ident(3), table(ints(-24, 18, 5), ints(20, -15, -4), ints(-5, 4, 1)), 1},
		{table(ints(1, 2, 3), ints(2, 4, 5), ints(3, 7, 1)), table(ints(6), ints(11), ints(11)), table(ints(1), ints(1), ints(1)), 1},
		{table(ints(0, 0, 2), ints(3, 0, 0), ints(0, 5, 0)), table(ints(1), ints(1), ints(1)), table(ints(10), ints(6), ints(15)), 30},
		{ident(100), filled(100, 100, -3), filled(100, 100, -3), 1},
		{ident(100), filled(100, 1, 5), filled(100, 1, 5), 1},
		{negated(ident(99)), filled(99, 2, 5), filled(99, 2, 5), -1},
	} {
		x, n, e := Solve(c.a, c.b)
		if e != api.OK || !equal(x, c.want) || !isInt(n, c.det) {
			t.Errorf("Solve(%v, %v): %v, %v, %v, want %v, %v", c.a, c.b, x, n, e, c.want, c.det)
		}
	}
}

func TestRankOfSolve(t *testing.T) {
	for _, c := range []pair{
		{table(ints(0)), table(ints(0))},
		{table([]api.Int{bare}), table(ints(1))},
		{table(ints(0)), table(nil)},
		{table(ints(1, 2), ints(2, 4)), table(ints(1), ints(2))},
		{table(ints(1, 2), ints(2, 4)), table(ints(1), ints(3))},
		{table(ints(1, 2), ints(2, 4)), table(nil, nil)},
		{table(ints(0, 1), ints(0, 3)), table(ints(1), ints(3))},
		{table(ints(0, 0), ints(1, 3)), table(ints(0), ints(3))},
		{table(ints(1, 2, 3), ints(4, 5, 6), ints(7, 8, 9)), ident(3)},
		{table(ints(2, 4, 6), ints(1, 2, 3), ints(0, 0, 5)), ident(3)},
		{filled(100, 100, 0), filled(100, 100, 0)},
		{filled(100, 100, 1), filled(100, 1, 1)},
	} {
		refused(t, c.a, c.b, api.ErrRank)
	}
}

// ErrShape is told of either side, and ahead of ErrRank.
func TestShapeOfSolve(t *testing.T) {
	for _, a := range append(notEven(), oblong()...) {
		refused(t, a, a, api.ErrShape)
		refused(t, a, nil, api.ErrShape)
		refused(t, a, filled(len(a), 1, 0), api.ErrShape)
		refused(t, a, ident(len(a)), api.ErrShape)
	}
	for _, b := range notEven() {
		refused(t, nil, b, api.ErrShape)
		refused(t, ident(len(b)), b, api.ErrShape)
		refused(t, filled(len(b), len(b), 0), b, api.ErrShape)
	}
	for _, c := range []pair{
		{nil, table(nil)},
		{nil, table(ints(1))},
		{table(ints(1)), nil},
		{table(ints(1)), [][]api.Int{}},
		{table(ints(1)), table(ints(1), ints(1))},
		{table(ints(0)), table(ints(1), ints(1))},
		{table(ints(0)), nil},
		{table(ints(0)), filled(1, 101, 0)},
		{table(ints(1)), filled(1, 101, 1)},
		{table(ints(1, 2), ints(3, 4)), table(ints(1, 2))},
		{table(ints(1, 2), ints(3, 4)), table(ints(1), ints(2), ints(3))},
		{table(ints(1, 2), ints(3, 4)), table(nil, nil, nil)},
		{table(ints(1, 2), ints(2, 4)), table(ints(1))},
		{table(ints(1, 2), ints(2, 4)), table(ints(1), ints(1, 2))},
		{ident(100), filled(99, 1, 1)},
		{ident(99), filled(100, 1, 1)},
		{ident(100), filled(101, 1, 1)},
		{ident(100), filled(100, 101, 1)},
		{ident(100), append(filled(99, 2, 1), ints(1))},
	} {
		refused(t, c.a, c.b, api.ErrShape)
	}
}

// replaced is a with place j of b in place i of it.
func replaced(a [][]api.Int, i int, b [][]api.Int, j int) [][]api.Int {
	t := make([][]api.Int, len(a))
	for k := range a {
		t[k] = slices.Clone(a[k])
		t[k][i] = b[k][j]
	}
	return t
}

// By Cramer's rule: each number is the determinant of a with a place of b in it.
func TestSolveOfMany(t *testing.T) {
	for _, c := range pairs() {
		want := laplace(c.a)
		if want.Sign() == 0 {
			refused(t, c.a, c.b, api.ErrRank)
			continue
		}
		x, n, e := Solve(c.a, c.b)
		if e != api.OK || !is(n, want) || len(x) != len(c.a) {
			t.Fatalf("Solve(%v, %v): %v, %v, %v, want %v", c.a, c.b, x, n, e, want)
		}
		for i, row := range x {
			if len(row) != len(c.b[0]) {
				t.Fatalf("Solve(%v, %v): %v", c.a, c.b, x)
			}
			for j := range row {
				if len(x) <= 4 && !is(row[j], laplace(replaced(c.a, i, c.b, j))) {
					t.Fatalf("Solve(%v, %v): %v", c.a, c.b, x)
				}
			}
		}
	}
}

// 15.3 (solved).

// solved fails, unless a times the numbers is b times the determinant, which Det tells, too.
func solved(tb testing.TB, a, b [][]api.Int) {
	tb.Helper()
	det, f := Det(a)
	x, n, e := Solve(a, b)
	if e != api.OK || f != api.OK || !same(n, det) || whole.Sign(n) == 0 || len(x) != len(a) {
		tb.Fatalf("Solve(%v, %v): %v, %v, %v, the determinant is %v", a, b, x, n, e, det)
	}
	if len(x) > 0 && !equal(mul(a, x), scaled(b, n)) {
		tb.Fatalf("Solve(%v, %v): %v, %v do not solve", a, b, x, n)
	}
}

func TestSolved(t *testing.T) {
	for _, c := range pairs() {
		if laplace(c.a).Sign() != 0 {
			solved(t, c.a, c.b)
		}
	}
	for _, n := range []int{10, 25, 40} {
		solved(t, small(n, n, n), small(n, 3, n+1))
		a, _ := regular(n, n)
		solved(t, a, drawn(n, 2, n))
	}
	solved(t, small(100, 100, 8), small(100, 2, 9))
	solved(t, small(20, 20, 8), small(20, 100, 9))
	solved(t, table(ints(3)), small(1, 100, 9))
}

// 15.4 (changed about).

func TestRowsChangedAbout(t *testing.T) {
	l := squares()
	for n := 7; n < 12; n++ {
		a, _ := regular(n, n)
		l = append(l, a, small(n, n, n))
	}
	for _, a := range l {
		det, _ := Det(a)
		for i := range a {
			for j := range i {
				b := slices.Clone(a)
				b[i], b[j] = a[j], a[i]
				if d, e := Det(b); e != api.OK || !same(d, whole.Neg(det)) {
					t.Fatalf("Det(%v): %v, %v, ahead of the change it was %v", b, d, e, det)
				}
			}
		}
	}
}

func TestARowAddedToAnotherOne(t *testing.T) {
	l := squares()
	for n := 7; n < 12; n++ {
		a, _ := regular(n, n)
		l = append(l, a, small(n, n, n))
	}
	for _, a := range l {
		det, _ := Det(a)
		for i := range a {
			for j := range a {
				if i == j {
					continue
				}
				b := slices.Clone(a)
				b[i] = nil
				for k := range a[i] {
					b[i] = append(b[i], whole.Add(a[i][k], a[j][k]))
				}
				if d, e := Det(b); e != api.OK || !same(d, det) {
					t.Fatalf("Det(%v): %v, %v, ahead of the sum it was %v", b, d, e, det)
				}
			}
		}
	}
}

// Rows that are changed about on both sides leave the solution, over the determinant, which changes its sign with them.
func TestSolveOfRowsChangedAbout(t *testing.T) {
	for n := 2; n < 7; n++ {
		a, _ := regular(n, n+40)
		b := drawn(n, 2, n)
		x, det, _ := Solve(a, b)
		c, d := slices.Clone(a), slices.Clone(b)
		c[0], c[n-1], d[0], d[n-1] = a[n-1], a[0], b[n-1], b[0]
		if y, m, e := Solve(c, d); e != api.OK || !equal(y, negated(x)) || !same(m, whole.Neg(det)) {
			t.Fatalf("Solve(%v, %v): %v, %v, %v, ahead of the change it was %v, %v", c, d, y, m, e, x, det)
		}
	}
}

// P1, P2, and the rules.

// told are the answers of all calls at the same two tables.
type told struct {
	table   [][]api.Int
	numbers []api.Int
	errors  [3]api.Errno
}

func answers(a, b [][]api.Int, n int) told {
	all := told{numbers: make([]api.Int, 3)}
	all.numbers[0], all.errors[0] = Det(a)
	all.numbers[1], all.errors[1] = Minor(a, n)
	all.table, all.numbers[2], all.errors[2] = Solve(a, b)
	return all
}

func alike(a, b told) bool {
	return equal(a.table, b.table) && sameRows(a.numbers, b.numbers) && a.errors == b.errors
}

// Every call ends, and none panics, at numbers that may not be as well; it tells the same when it is asked again, and nothing beside an error.
func TestEveryCallAnswers(t *testing.T) {
	x := drawsOf(5)
	for n := range 12 {
		for _, share := range []uint64{1, 2, 5} { // of so many numbers one may not be
			a := filled(n, 2*n, 0)
			for _, row := range a {
				for j := range row {
					row[j] = x.number()
					if x.next()%share == 0 {
						row[j] = wrong[x.next()%uint64(len(wrong))]
					}
				}
			}
			b := make([][]api.Int, n)
			for i, row := range a {
				a[i], b[i] = row[:n], row[n:]
			}
			all := answers(a, b, n/2)
			if !alike(all, answers(a, b, n/2)) {
				t.Fatalf("at %v, %v: asked again, another answer", a, b)
			}
			if all.errors[2] != api.OK && (len(all.table) != 0 || !nothing(all.numbers[2])) {
				t.Fatalf("at %v, %v: %v beside error %d", a, b, all.table, all.errors[2])
			}
		}
	}
	for _, v := range wrong {
		one, two := table([]api.Int{v}), table([]api.Int{v, v}, []api.Int{v, v})
		answers(one, one, 1)
		answers(two, two, 1)
		answers(table([]api.Int{whole.Of(1), v}, []api.Int{v, whole.Of(1)}), two, 2)
		refused(t, one, nil, api.ErrShape)
		refused(t, one, two, api.ErrShape)
		refused(t, table([]api.Int{v}, nil), two, api.ErrShape)
	}
}

// roomy is a with room behind, in which nothing may be laid.
func roomy(a api.Int) api.Int {
	return api.Int{Neg: a.Neg, Abs: append(make(api.Nat, 0, len(a.Abs)+8), a.Abs...)}
}

// apart is a table of memory of its own, with room behind all lists.
func apart(a [][]api.Int) [][]api.Int {
	copies := make([][]api.Int, 0, len(a)+4)
	for _, row := range a {
		own := make([]api.Int, 0, len(row)+4)
		for _, x := range row {
			own = append(own, roomy(x))
		}
		copies = append(copies, own)
	}
	return copies
}

// clean tells whether nothing lies in the room behind a table's rows, its places and its numbers.
func clean(a [][]api.Int) bool {
	for _, row := range a {
		for _, x := range row {
			if slices.ContainsFunc(x.Abs[len(x.Abs):cap(x.Abs)], func(limb uint64) bool { return limb != 0 }) {
				return false
			}
		}
		if slices.ContainsFunc(row[len(row):cap(row)], func(x api.Int) bool { return !nothing(x) }) {
			return false
		}
	}
	return !slices.ContainsFunc(a[len(a):cap(a)], func(row []api.Int) bool { return row != nil })
}

// spoil fills all memory of this number.
func spoil(a api.Int) {
	list := a.Abs[:cap(a.Abs)]
	for i := range list {
		list[i] = 77
	}
}

// What is handed in is neither changed nor kept.
func TestWhatIsHandedInIsLeftAlone(t *testing.T) {
	l := pairs()
	for _, a := range notEven() {
		l = append(l, pair{a, a}, pair{ident(len(a)), a})
	}
	for _, c := range l {
		a, b := apart(c.a), apart(c.b)
		n := len(a) - 1
		first := answers(a, b, n)
		if !equal(a, c.a) || !equal(b, c.b) || !clean(a) || !clean(b) {
			t.Fatalf("%v, %v are changed to %v, %v", c.a, c.b, a, b)
		}
		for _, table := range [][][]api.Int{a, b} {
			for _, row := range table {
				for _, x := range row {
					spoil(x)
				}
				clear(row)
			}
			clear(table)
		}
		if !alike(first, answers(c.a, c.b, n)) {
			t.Fatalf("%v, %v: what was handed in was kept", c.a, c.b)
		}
	}
}

// What is handed out is memory of its own: it shares none with the tables, and no two lists of it share any.
func TestMemoryIsNotShared(t *testing.T) {
	for _, c := range pairs() {
		a, b := apart(c.a), apart(c.b)
		all, want := answers(a, b, len(a)), answers(a, b, len(a))
		for i, x := range all.numbers {
			if !same(x, want.numbers[i]) {
				t.Fatalf("at %v, %v: numbers of the answers share memory", a, b)
			}
			spoil(x)
		}
		for i, row := range all.table {
			for j, x := range row {
				if !same(x, want.table[i][j]) {
					t.Fatalf("at %v, %v: numbers of one answer share memory", a, b)
				}
				spoil(x)
			}
		}
		for i, row := range all.table {
			for j := range row[:cap(row)] {
				row[:cap(row)][j] = whole.Of(i)
			}
		}
		for i, row := range all.table {
			if slices.ContainsFunc(row, func(x api.Int) bool { return !isInt(x, i) }) {
				t.Fatalf("at %v, %v: rows of one answer share memory", a, b)
			}
		}
		clear(all.table)
		if !equal(a, c.a) || !equal(b, c.b) || !clean(a) || !clean(b) || !alike(want, answers(a, b, len(a))) {
			t.Fatalf("answers share memory with %v, %v", a, b)
		}
	}
}

// One row that stands on both sides, and more than once, stays as it is; one table may be both sides.
func TestRowsThatAreOne(t *testing.T) {
	row, other := []api.Int{roomy(whole.Of(2)), roomy(whole.Of(5))}, []api.Int{roomy(whole.Of(0)), roomy(whole.Of(-3))}
	a := table(other, row)
	if x, n, e := Solve(a, a); e != api.OK || !equal(x, table(ints(6, 0), ints(0, 6))) || !isInt(n, 6) {
		t.Errorf("Solve: %v, %v, %v", x, n, e)
	}
	refused(t, table(row, row), a, api.ErrRank)
	if det, e := Det(table(row, row)); e != api.OK || !isInt(det, 0) {
		t.Errorf("Det: %v, %v", det, e)
	}
	if !sameRows(row, ints(2, 5)) || !sameRows(other, ints(0, -3)) {
		t.Errorf("%v, %v", row, other)
	}
}

func TestRefusedCallsChangeNothing(t *testing.T) {
	none := append(notEven()[:5], oblong()...)
	for _, c := range pairs() {
		before := answers(c.a, c.b, 0)
		for _, a := range none {
			answers(a, c.b, 1)
			answers(c.a, append(filled(len(c.a), 1, 1), ints(1)), -1)
		}
		refused(t, filled(2, 2, 1), filled(2, 1, 1), api.ErrRank)
		if !alike(before, answers(c.a, c.b, 0)) {
			t.Fatalf("at %v, %v: other answers behind a refused call", c.a, c.b)
		}
	}
}
