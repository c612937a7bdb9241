package gauss

import (
	"math"
	"math/big"
	"slices"
	"testing"

	"trivium/api"
	"trivium/matrix"
	"trivium/rat"
	"trivium/ratio"
)

// wrong are fractions that may not be.
var wrong = []api.Rat{
	{},
	{Den: api.Nat{}},
	{Den: api.Nat{0}},
	{Den: api.Nat{2, 0}},
	{Num: api.Int{Neg: true}, Den: api.Nat{1}},
	{Num: api.Int{Abs: api.Nat{1}}},
	{Num: api.Int{Neg: true, Abs: api.Nat{7}}, Den: api.Nat{}},
	{Num: api.Int{Abs: api.Nat{1}}, Den: api.Nat{0}},
	{Num: api.Int{Neg: true, Abs: api.Nat{3}}, Den: api.Nat{9}},
	{Num: api.Int{Abs: api.Nat{5, 0}}, Den: api.Nat{1}},
	{Num: api.Int{Abs: api.Nat{0, 0}}, Den: api.Nat{1}},
	{Num: api.Int{Abs: api.Nat{1 << 32}}, Den: api.Nat{1 << 32, 1}},
	{Num: api.Int{Neg: true, Abs: slices.Repeat(api.Nat{1<<64 - 1}, 7)}, Den: api.Nat{0, 1 << 40, 0}},
}

// bare is 0, with a list that is empty, but not nil.
var bare = api.Rat{Num: api.Int{Abs: api.Nat{}}, Den: api.Nat{1}}

// frac is n over d, which is not 0.
func frac(n, d int) api.Rat {
	a, _ := rat.Frac(n, d)
	return a
}

// ints is a row of whole numbers.
func ints(l ...int) []api.Rat {
	row := make([]api.Rat, len(l))
	for i, n := range l {
		row[i] = rat.Of(n)
	}
	return row
}

// table is a table of these rows.
func table(rows ...[]api.Rat) [][]api.Rat { return rows }

// filled is a table of so many rows, and places a row, with n in each.
func filled(rows, places, n int) [][]api.Rat {
	t := make([][]api.Rat, rows)
	for i := range t {
		t[i] = ints(slices.Repeat([]int{n}, places)...)
	}
	return t
}

// of is a, which may be, as a fraction of math/big, by which the sums here are made.
func of(a api.Rat) *big.Rat {
	n, ok := new(big.Rat).SetString(ratio.Print(a))
	if !ok {
		panic("no fraction: " + ratio.Print(a))
	}
	return n
}

// nothing tells whether a is the zero value.
func nothing(a api.Rat) bool { return !a.Num.Neg && a.Num.Abs == nil && a.Den == nil }

// equalRows and equal tell whether both have the same fractions, limb by limb, in as many rows.
func equalRows(a, b []api.Rat) bool { return slices.EqualFunc(a, b, rat.Same) }
func equal(a, b [][]api.Rat) bool   { return slices.EqualFunc(a, b, equalRows) }

// may tells whether all fractions of a may be.
func may(a [][]api.Rat) bool {
	return !slices.ContainsFunc(a, func(row []api.Rat) bool {
		return slices.ContainsFunc(row, func(x api.Rat) bool { return !rat.May(x) })
	})
}

// draws are numbers, for each seed others, always the same.
type draws uint64

func (x *draws) next() uint64 {
	*x ^= *x << 13
	*x ^= *x >> 7
	*x ^= *x << 17
	return uint64(*x)
}

func drawsOf(seed int) *draws {
	x := draws(uint64(seed+1) * 88172645463325252)
	return &x
}

// fraction is a nought, or a small or a great fraction.
func (x *draws) fraction() api.Rat {
	n := x.next()
	number, lower := int(n>>8)%1000, int(n>>40)%60+1
	switch n % 8 {
	case 0, 1:
		return rat.Of(0)
	case 2:
		return bare
	case 3:
		return frac(int(n>>1), math.MaxInt-lower)
	case 4, 5:
		return rat.Of(number%7 - 3)
	default:
		return frac(number-500, lower)
	}
}

// nonzero is a small fraction that is not 0.
func (x *draws) nonzero() api.Rat {
	n := x.next()
	return frac(int(n%2)*18-9+int(n>>8)%9, int(n>>40)%9+1)
}

// drawn is a table of so many rows, and places a row.
func drawn(rows, places, seed int) [][]api.Rat {
	t, x := make([][]api.Rat, rows), drawsOf(seed)
	for i := range t {
		t[i] = make([]api.Rat, places)
		for j := range t[i] {
			t[i][j] = x.fraction()
		}
	}
	return t
}

// mul is the product of these tables, which fit.
func mul(tb testing.TB, l ...[][]api.Rat) [][]api.Rat {
	tb.Helper()
	a, e := matrix.Mul(l...)
	if e != api.OK {
		tb.Fatalf("Mul: %v", e)
	}
	return a
}

// ident is Ident of n.
func ident(n int) [][]api.Rat {
	t, _ := matrix.Ident(n)
	return t
}

// regular is a table that has an inverse, with its rows in some order, and its determinant.
func regular(tb testing.TB, n, seed int) ([][]api.Rat, api.Rat) {
	tb.Helper()
	x, low, up, det := drawsOf(seed), ident(n), ident(n), rat.Of(1)
	for i := range n {
		for j := range n {
			switch {
			case j < i:
				low[i][j] = x.nonzero()
			case j > i:
				up[i][j] = x.nonzero()
			default:
				up[i][i] = x.nonzero()
				det = rat.Mul(det, up[i][i])
			}
		}
	}
	t := mul(tb, low, up)
	for i := range n {
		if j := int(x.next()>>1) % n; i != j {
			t[i], t[j] = t[j], t[i]
			det = rat.Neg(det)
		}
	}
	return t, det
}

// stepped are steps of so many rows, with these pivots.
func stepped(rows, places int, pivots []int, seed int) [][]api.Rat {
	t, x := filled(rows, places, 0), drawsOf(seed)
	for i, at := range pivots {
		t[i][at] = rat.Of(1)
		for j := at + 1; j < places; j++ {
			if !slices.Contains(pivots, j) {
				t[i][j] = x.fraction()
			}
		}
	}
	return t
}

// shapes are sizes of steps, and where their pivots are.
var shapes = []struct {
	rows, places int
	pivots       []int
}{
	{0, 0, nil},
	{1, 0, nil},
	{5, 0, nil},
	{1, 1, nil},
	{1, 1, []int{0}},
	{3, 4, nil},
	{1, 5, []int{0}},
	{1, 5, []int{3}},
	{1, 5, []int{4}},
	{5, 1, []int{0}},
	{2, 2, []int{1}},
	{2, 2, []int{0}},
	{3, 3, []int{0, 1, 2}},
	{3, 3, []int{0, 2}},
	{3, 3, []int{1, 2}},
	{3, 5, []int{0, 1, 2}},
	{3, 5, []int{2, 3, 4}},
	{3, 5, []int{0, 2, 4}},
	{5, 3, []int{0, 1, 2}},
	{5, 3, []int{0, 2}},
	{5, 3, []int{1}},
	{4, 8, []int{1, 4, 5}},
	{6, 6, []int{0, 1, 3, 5}},
	{6, 9, []int{0, 3, 4, 5, 6, 8}},
	{7, 7, []int{0, 1, 2, 3, 4, 5, 6}},
}

// sizes are how many rows, and places a row, tables have that are drawn.
var sizes = [][2]int{{0, 0}, {1, 0}, {4, 0}, {1, 1}, {1, 4}, {4, 1}, {2, 2}, {2, 3}, {3, 2}, {3, 3}, {3, 4}, {4, 3}, {4, 4}, {4, 5}}

// some are tables of all kinds, none of them great.
func some(tb testing.TB) [][][]api.Rat {
	tb.Helper()
	l := [][][]api.Rat{
		nil, {}, {nil}, {{}, nil, {}},
		table(ints(0)), table(ints(5)), table([]api.Rat{bare, bare}), table([]api.Rat{bare}, ints(0), ints(3)),
		table(ints(1, 2), ints(2, 4)), table(ints(2, 4), ints(1, 2)), table(ints(0, 1), ints(2, 3)), table(ints(0, 2, 4), ints(1, 1, 1), ints(1, 3, 5)),
		filled(3, 3, 1), filled(2, 5, 0), filled(5, 2, -7), ident(4),
	}
	for seed, s := range shapes {
		factor, _ := regular(tb, s.rows, seed)
		steps := stepped(s.rows, s.places, s.pivots, seed+50)
		if s.rows > 0 {
			l = append(l, steps, mul(tb, factor, steps))
		}
	}
	for seed, z := range sizes {
		l = append(l, drawn(z[0], z[1], seed), drawn(z[0], z[1], seed+100))
	}
	return l
}

// squares are those of the tables that have as many rows as places.
func squares(tb testing.TB) [][][]api.Rat {
	tb.Helper()
	return slices.DeleteFunc(some(tb), func(a [][]api.Rat) bool {
		rows, places := matrix.Size(a)
		return rows != places
	})
}

// without is t without one row, and one place.
func without(t [][]api.Rat, row, place int) [][]api.Rat {
	rest := make([][]api.Rat, 0, len(t))
	for i := range t {
		if i != row {
			rest = append(rest, slices.Delete(slices.Clone(t[i]), place, place+1))
		}
	}
	return rest
}

// laplace is the determinant of t, which has as many rows as places, by those of what is less by a row and a place.
func laplace(t [][]api.Rat) *big.Rat {
	if len(t) == 0 {
		return big.NewRat(1, 1)
	}
	sum := new(big.Rat)
	for j, x := range t[0] {
		term := of(x)
		if term.Sign() == 0 {
			continue
		}
		term.Mul(term, laplace(without(t, 0, j)))
		if j%2 == 1 {
			term.Neg(term)
		}
		sum.Add(sum, term)
	}
	return sum
}

// minors is the rank of t by its minors: of all tables that are left where rows and places are let go, the size of the greatest one whose determinant is not 0.
func minors(t [][]api.Rat) int {
	rows, places := matrix.Size(t)
	if rows == places && laplace(t).Sign() != 0 {
		return rows
	}
	best := 0
	if rows >= places {
		for i := range rows {
			best = max(best, minors(slices.Delete(slices.Clone(t), i, i+1)))
			if best == places {
				return best
			}
		}
		return best
	}
	turned, _ := matrix.Turn(t)
	return minors(turned)
}

// pivotsOf are the first places that are not 0, of each row that is not noughts; false, if t are no steps, word by word.
func pivotsOf(t [][]api.Rat) ([]int, bool) {
	var pivots []int
	for i, row := range t {
		at := slices.IndexFunc(row, func(x api.Rat) bool { return of(x).Sign() != 0 })
		if at < 0 {
			continue
		}
		if len(pivots) < i || i > 0 && at <= pivots[i-1] || of(row[at]).Cmp(big.NewRat(1, 1)) != 0 {
			return nil, false
		}
		for j := range t {
			if j != i && of(t[j][at]).Sign() != 0 {
				return nil, false
			}
		}
		pivots = append(pivots, at)
	}
	return pivots, true
}

// within tells whether each row of t is a sum of the steps, as often as it has their pivots.
func within(t, steps [][]api.Rat, pivots []int) bool {
	for _, row := range t {
		for j, x := range row {
			sum := new(big.Rat)
			for i, at := range pivots {
				sum.Add(sum, new(big.Rat).Mul(of(row[at]), of(steps[i][j])))
			}
			if sum.Cmp(of(x)) != 0 {
				return false
			}
		}
	}
	return true
}

// mayNot are tables that may not be.
func mayNot() [][][]api.Rat {
	return [][][]api.Rat{
		table(ints(1), ints(1, 2)),
		table(ints(1, 2), ints(1)),
		table(nil, ints(1)),
		table(ints(1), nil),
		table(ints(1, 0), ints(0, 1), nil),
		table(ints(1, 0), ints(0)),
		table(ints(0, 0), ints(0, 0, 0)),
		table(ints(1, 2), ints(1, 2, 3), ints(1)),
		append(filled(199, 2, 1), ints(1)),
		filled(201, 1, 1),
		filled(201, 0, 0),
		filled(1, 201, 1),
		filled(2, 1000, 1),
		filled(201, 201, 0),
		append(ident(200), nil),
	}
}

// refused fails, unless all calls that tell errors tell ErrShape of t, and nothing beside it.
func refused(tb testing.TB, t [][]api.Rat) {
	tb.Helper()
	if steps, pivots, e := Reduce(t); e != api.ErrShape || len(steps) != 0 || len(pivots) != 0 {
		tb.Errorf("Reduce(%v): %v, %v, %v", t, steps, pivots, e)
	}
	if n, e := Rank(t); e != api.ErrShape || n != 0 {
		tb.Errorf("Rank(%v): %v, %v", t, n, e)
	}
	if kernel, e := Kernel(t); e != api.ErrShape || len(kernel) != 0 {
		tb.Errorf("Kernel(%v): %v, %v", t, kernel, e)
	}
	if Steps(t) {
		tb.Errorf("Steps(%v)", t)
	}
	refusedSquare(tb, t)
}

// refusedSquare fails, unless the calls that ask for as many rows as places tell ErrShape of t, and nothing beside it.
func refusedSquare(tb testing.TB, t [][]api.Rat) {
	tb.Helper()
	if inverse, e := Inverse(t); e != api.ErrShape || len(inverse) != 0 {
		tb.Errorf("Inverse(%v): %v, %v", t, inverse, e)
	}
	if det, e := Det(t); e != api.ErrShape || !nothing(det) {
		tb.Errorf("Det(%v): %v, %v", t, det, e)
	}
}

func TestWhatMayNotBe(t *testing.T) {
	for _, a := range mayNot() {
		refused(t, a)
	}
}

func TestNotAsManyRowsAsPlaces(t *testing.T) {
	for _, a := range [][][]api.Rat{
		{nil}, {{}, {}}, filled(200, 0, 0), table(ints(1, 2)), table(ints(1), ints(2)), table(ints(0, 0)), filled(3, 4, 1), filled(4, 3, 0), filled(1, 200, 1), filled(200, 199, 0),
	} {
		refusedSquare(t, a)
		_, _, e := Reduce(a)
		_, f := Rank(a)
		_, g := Kernel(a)
		if e != api.OK || f != api.OK || g != api.OK {
			t.Errorf("%v: %v, %v, %v", a, e, f, g)
		}
	}
}

// 14.1: Reduce, Rank, Steps.

// reduces fails, unless the steps of a are these, with these pivots, by all calls that tell of them.
func reduces(tb testing.TB, a, steps [][]api.Rat, pivots []int) {
	tb.Helper()
	got, at, e := Reduce(a)
	if e != api.OK || !equal(got, steps) || !slices.Equal(at, pivots) {
		tb.Fatalf("Reduce(%v): %v, %v, %v, want %v, %v", a, got, at, e, steps, pivots)
	}
	if n, e := Rank(a); e != api.OK || n != len(pivots) {
		tb.Fatalf("Rank(%v): %v, %v", a, n, e)
	}
	if !Steps(got) || Steps(a) != equal(a, steps) {
		tb.Fatalf("Steps(%v): %v, Steps(%v): %v", got, Steps(got), a, Steps(a))
	}
}

func TestReduce(t *testing.T) {
	for _, c := range []struct {
		t, steps [][]api.Rat
		pivots   []int
	}{
		{nil, nil, nil},
		{[][]api.Rat{}, nil, nil},
		{table(nil), table(nil), nil},
		{table(nil, []api.Rat{}, nil), table(nil, nil, nil), nil},
		{table(ints(0)), table(ints(0)), nil},
		{table([]api.Rat{bare}), table(ints(0)), nil},
		{table(ints(-7)), table(ints(1)), []int{0}},
		{table([]api.Rat{frac(22, -7)}), table(ints(1)), []int{0}},
		{table(ints(2, 4), ints(1, 2)), table(ints(1, 2), ints(0, 0)), []int{0}},
		{table(ints(0, 0, 3, 6)), table(ints(0, 0, 1, 2)), []int{2}},
		{table(ints(0), ints(0), ints(5)), table(ints(1), ints(0), ints(0)), []int{0}},
		{table(ints(0, 2, 4), ints(1, 1, 1), ints(1, 3, 5)), table(ints(1, 0, -1), ints(0, 1, 2), ints(0, 0, 0)), []int{0, 1}},
		{table(ints(0, 1), ints(1, 0)), ident(2), []int{0, 1}},
		{table(ints(1, 2, 3), ints(4, 5, 6), ints(7, 8, 10)), ident(3), []int{0, 1, 2}},
		{table(ints(1, 2, 3), ints(4, 5, 6), ints(7, 8, 9)), table(ints(1, 0, -1), ints(0, 1, 2), ints(0, 0, 0)), []int{0, 1}},
		{table(ints(0, 0), ints(0, 0), ints(0, 3)), table(ints(0, 1), ints(0, 0), ints(0, 0)), []int{1}},
		{table(ints(3, 1), ints(1, 1), ints(2, -5)), table(ints(1, 0), ints(0, 1), ints(0, 0)), []int{0, 1}},
		{table(ints(2, 1, 0), ints(0, 0, 3)), table([]api.Rat{rat.Of(1), frac(1, 2), rat.Of(0)}, ints(0, 0, 1)), []int{0, 2}},
		{filled(4, 3, -5), table(ints(1, 1, 1), ints(0, 0, 0), ints(0, 0, 0), ints(0, 0, 0)), []int{0}},
	} {
		reduces(t, c.t, c.steps, c.pivots)
	}
}

func TestReduceOfTheGreatest(t *testing.T) {
	all := make([]int, 200)
	for i := range all {
		all[i] = i
	}
	ones := append(filled(1, 200, 1), filled(199, 200, 0)...)
	backward := ident(200)
	slices.Reverse(backward)
	reduces(t, ident(200), ident(200), all)
	reduces(t, backward, ident(200), all)
	reduces(t, filled(200, 200, 0), filled(200, 200, 0), nil)
	reduces(t, filled(200, 200, 3), ones, []int{0})
	reduces(t, filled(200, 0, 0), filled(200, 0, 0), nil)
	reduces(t, filled(200, 1, -2), append(filled(1, 1, 1), filled(199, 1, 0)...), []int{0})
	reduces(t, filled(1, 200, -2), filled(1, 200, 1), []int{0})
}

// Each table has one such form: what has an inverse, times steps, has these steps.
func TestReduceOfMany(t *testing.T) {
	for k, s := range shapes {
		for seed := range 4 {
			steps := stepped(s.rows, s.places, s.pivots, 10*k+seed)
			reduces(t, steps, steps, s.pivots)
			if s.rows == 0 {
				continue
			}
			factor, _ := regular(t, s.rows, 10*k+seed+7)
			reduces(t, mul(t, factor, steps), steps, s.pivots)
		}
	}
}

// The steps are such word by word, rows of t are made of them, and they are no more than t's rank by its minors.
func TestReduceByItsWords(t *testing.T) {
	for _, a := range some(t) {
		steps, pivots, e := Reduce(a)
		rows, places := matrix.Size(a)
		r, p := matrix.Size(steps)
		if e != api.OK || r != rows || p != places || matrix.Check(steps) != api.OK || !may(steps) {
			t.Fatalf("Reduce(%v): %v, %v, %v", a, steps, pivots, e)
		}
		if at, ok := pivotsOf(steps); !ok || !slices.Equal(at, pivots) {
			t.Fatalf("Reduce(%v): %v, %v are no steps", a, steps, pivots)
		}
		if !within(a, steps, pivots) {
			t.Fatalf("Reduce(%v): not made of %v", a, steps)
		}
		if n, e := Rank(a); e != api.OK || n != len(pivots) || max(rows, places) <= 5 && n != minors(a) {
			t.Fatalf("Rank(%v): %v, %v, pivots %v", a, n, e, pivots)
		}
	}
}

func TestRank(t *testing.T) {
	for _, c := range []struct {
		t    [][]api.Rat
		want int
	}{
		{nil, 0}, {table(nil, nil), 0}, {table(ints(0)), 0}, {table(ints(3)), 1}, {filled(3, 5, 2), 1}, {ident(9), 9},
		{table(ints(1, 2), ints(2, 4)), 1}, {table(ints(1, 2), ints(2, 5)), 2}, {table(ints(0, 0, 1), ints(0, 0, 2)), 1},
		{table(ints(1, 2), ints(3, 4), ints(5, 6)), 2}, {table(ints(1, 2, 3), ints(4, 5, 6), ints(7, 8, 9)), 2},
		{table([]api.Rat{frac(1, 2), frac(1, 3)}, []api.Rat{frac(3, 2), rat.Of(1)}), 1},
		{table([]api.Rat{frac(1, 2), frac(1, 3)}, []api.Rat{frac(3, 2), frac(999, 1000)}), 2},
	} {
		if n, e := Rank(c.t); e != api.OK || n != c.want {
			t.Errorf("Rank(%v): %v, %v, want %v", c.t, n, e, c.want)
		}
	}
}

func TestSteps(t *testing.T) {
	for _, c := range []struct {
		t    [][]api.Rat
		want bool
	}{
		{nil, true},
		{[][]api.Rat{}, true},
		{table(nil, []api.Rat{}), true},
		{filled(200, 200, 0), true},
		{ident(200), true},
		{filled(1, 200, 1), true},
		{table(ints(0, 1, 5, 0), ints(0, 0, 0, 1)), true},
		{table(ints(1, 0, 5), ints(0, 1, 6), ints(0, 0, 0)), true},
		{table([]api.Rat{bare, rat.Of(1), frac(-7, 3)}, []api.Rat{bare, bare, bare}), true},
		{table(ints(2)), false},                                        // a pivot that is not 1
		{table(ints(-1)), false},                                       // nor is this one
		{table([]api.Rat{frac(1, 2)}), false},                          // nor this one
		{table(ints(1, 0), ints(0, 3)), false},                         // one further down
		{table(ints(0, 1), ints(1, 0)), false},                         // a pivot ahead of that of the row ahead
		{table(ints(1, 0), ints(1, 0)), false},                         // one in the same place
		{table(ints(0, 1), ints(0, 1)), false},                         // one in the same place, further back
		{table(ints(1, 2), ints(0, 1)), false},                         // another one that is not 0, above it
		{table(ints(1, 0, 2), ints(0, 1, 0), ints(0, 0, 1)), false},    // one two rows above it
		{table(ints(0, 0), ints(1, 0)), false},                         // noughts not last
		{table(ints(1, 0, 0), ints(0, 0, 0), ints(0, 0, 1)), false},    // noughts in between
		{table(ints(1, 0), ints(0, 1), ints(0, 0), ints(0, 1)), false}, // a pivot's place again, below noughts
		{table(ints(0, 0, 0), ints(0, 0, 0), ints(0, 0, 1)), false},    // two rows of noughts not last
		{table(ints(1, 0, 0), ints(0, 0, 1), ints(0, 1, 0)), false},    // two rows the other way round
		{table(ints(1, 0, 0), ints(0, 0, 1), ints(0, 0, 1)), false},    // the last row as the one ahead
		{table(ints(0, 1, 0), ints(0, 0, 1), ints(0, 0, 0, 0)), false}, // rows of unlike length
		{append(filled(200, 1, 0), ints(0)), false},                    // too many rows
		{filled(1, 201, 0), false},                                     // too many places
		{table(ints(1, 0, -1), ints(0, 1, 2), ints(0, 0, 0)), true},    // the example
		{table(ints(0, 1, 0, 9, 0), ints(0, 0, 1, 0, 0), ints(0, 0, 0, 0, 1)), true},
		{table(ints(0, 1, 0, 9, 3), ints(0, 0, 1, 0, 0), ints(0, 0, 0, 0, 1)), false},
	} {
		if Steps(c.t) != c.want {
			t.Errorf("Steps(%v): not %v", c.t, c.want)
		}
	}
}

// Steps that one place of is changed are steps just where they are their own ones.
func TestStepsIsAsReduceTells(t *testing.T) {
	for k, s := range shapes {
		for i := range s.rows {
			for j := range s.places {
				for _, v := range []api.Rat{rat.Of(0), rat.Of(1), frac(2, 3)} {
					a := stepped(s.rows, s.places, s.pivots, k)
					a[i][j] = v
					_, want := pivotsOf(a)
					steps, _, e := Reduce(a)
					if e != api.OK || Steps(a) != want || equal(steps, a) != want {
						t.Fatalf("Steps(%v): %v, its own are %v, %v", a, Steps(a), steps, e)
					}
				}
			}
		}
	}
}

// 14.2: Inverse, Det.

func TestInverse(t *testing.T) {
	for _, c := range []struct {
		t, want [][]api.Rat
		e       api.Errno
	}{
		{nil, nil, api.OK},
		{[][]api.Rat{}, nil, api.OK},
		{table(ints(-4)), table([]api.Rat{frac(-1, 4)}), api.OK},
		{table([]api.Rat{frac(2, 3)}), table([]api.Rat{frac(3, 2)}), api.OK},
		{table(ints(1, 2), ints(1, 3)), table(ints(3, -2), ints(-1, 1)), api.OK},
		{table(ints(0, 1), ints(1, 0)), table(ints(0, 1), ints(1, 0)), api.OK},
		{table(ints(0, 2), ints(5, 0)), table([]api.Rat{rat.Of(0), frac(1, 5)}, []api.Rat{frac(1, 2), rat.Of(0)}), api.OK},
		{table(ints(0, 1, 0), ints(0, 0, 1), ints(1, 0, 0)), table(ints(0, 0, 1), ints(1, 0, 0), ints(0, 1, 0)), api.OK},
		{table(ints(1, 2, 3), ints(0, 1, 4), ints(5, 6, 0)), table(ints(-24, 18, 5), ints(20, -15, -4), ints(-5, 4, 1)), api.OK},
		{ident(200), ident(200), api.OK},
		{table(ints(0)), nil, api.ErrRank},
		{table([]api.Rat{bare}), nil, api.ErrRank},
		{table(ints(1, 2), ints(2, 4)), nil, api.ErrRank},
		{table(ints(0, 1), ints(0, 3)), nil, api.ErrRank},
		{table(ints(0, 0), ints(1, 3)), nil, api.ErrRank},
		{table(ints(1, 2, 3), ints(4, 5, 6), ints(7, 8, 9)), nil, api.ErrRank},
		{filled(200, 200, 1), nil, api.ErrRank},
		{filled(200, 200, 0), nil, api.ErrRank},
		{table(ints(1, 2, 3), ints(2, 4, 6)), nil, api.ErrShape}, // of both errors the one that is named first
		{table(ints(0), ints(0)), nil, api.ErrShape},
	} {
		if a, e := Inverse(c.t); e != c.e || !equal(a, c.want) {
			t.Errorf("Inverse(%v): %v, %v, want %v, %v", c.t, a, e, c.want, c.e)
		}
	}
}

// Of more than 100 rows, too: with Ident beside it such a table has more places than a table may have.
func TestInverseOfTheGreatest(t *testing.T) {
	for _, n := range []int{100, 101, 150} {
		a, want := filled(n, n, 0), ident(n)
		for i := range n {
			for j := i; j < n; j++ {
				a[i][j] = rat.Of(1)
			}
			if i+1 < n {
				want[i][i+1] = rat.Of(-1)
			}
		}
		if inverse, e := Inverse(a); e != api.OK || !equal(inverse, want) {
			t.Errorf("%d rows: %v, %v", n, inverse, e)
		}
		a[n-1][n-1] = rat.Of(0)
		if inverse, e := Inverse(a); e != api.ErrRank || len(inverse) != 0 {
			t.Errorf("%d rows, the last one noughts: %v, %v", n, inverse, e)
		}
	}
	a := filled(200, 200, 0)
	want := filled(200, 200, 0)
	for i := range 200 {
		j := i * 77 % 200
		a[i][j], want[j][i] = frac(i+1, -7), frac(-7, i+1)
	}
	if inverse, e := Inverse(a); e != api.OK || !equal(inverse, want) {
		t.Errorf("200 rows: %v, %v", inverse, e)
	}
}

func TestDet(t *testing.T) {
	for _, c := range []struct {
		t    [][]api.Rat
		want api.Rat
	}{
		{nil, rat.Of(1)},
		{[][]api.Rat{}, rat.Of(1)},
		{table(ints(0)), rat.Of(0)},
		{table([]api.Rat{bare}), rat.Of(0)},
		{table(ints(-7)), rat.Of(-7)},
		{table([]api.Rat{frac(5, 9)}), frac(5, 9)},
		{table(ints(0, 1), ints(2, 3)), rat.Of(-2)},
		{table(ints(1, 2), ints(2, 4)), rat.Of(0)},
		{table(ints(0, 1), ints(0, 2)), rat.Of(0)},
		{table(ints(1, 2), ints(3, 4)), rat.Of(-2)},
		{table([]api.Rat{frac(1, 2), frac(1, 3)}, []api.Rat{frac(1, 4), frac(1, 5)}), frac(1, 60)},
		{table(ints(0, 1, 0), ints(0, 0, 1), ints(1, 0, 0)), rat.Of(1)},
		{table(ints(0, 0, 1), ints(0, 1, 0), ints(1, 0, 0)), rat.Of(-1)},
		{table(ints(1, 2, 3), ints(4, 5, 6), ints(7, 8, 9)), rat.Of(0)},
		{table(ints(1, 2, 3), ints(4, 5, 6), ints(7, 8, 10)), rat.Of(-3)},
		{table(ints(0, 0, 2, 0), ints(0, 3, 0, 0), ints(0, 0, 0, 5), ints(7, 0, 0, 0)), rat.Of(210)},
		{filled(200, 200, 1), rat.Of(0)},
		{filled(200, 200, 0), rat.Of(0)},
		{ident(200), rat.Of(1)},
	} {
		if a, e := Det(c.t); e != api.OK || !rat.Same(a, c.want) {
			t.Errorf("Det(%v): %v, %v, want %v", c.t, a, e, c.want)
		}
	}
}

// By the determinants of what is less by a row and a place; there is an inverse just where it is not 0.
func TestDetOfMany(t *testing.T) {
	for _, a := range squares(t) {
		det, e := Det(a)
		if e != api.OK || !rat.May(det) || of(det).Cmp(laplace(a)) != 0 {
			t.Fatalf("Det(%v): %v, %v", a, det, e)
		}
		want := api.OK
		if rat.Sign(det) == 0 {
			want = api.ErrRank
		}
		if inverse, e := Inverse(a); e != want || want != api.OK && len(inverse) != 0 {
			t.Fatalf("Inverse(%v): %v, %v", a, inverse, e)
		}
	}
	for n := range 12 {
		for seed := range 3 {
			a, want := regular(t, n, seed+200)
			if det, e := Det(a); e != api.OK || !rat.Same(det, want) {
				t.Fatalf("Det(%v): %v, %v, want %v", a, det, e, want)
			}
		}
	}
}

// 14.3: Kernel.

func TestKernel(t *testing.T) {
	for _, c := range []struct{ t, want [][]api.Rat }{
		{nil, nil},
		{[][]api.Rat{}, nil},
		{table(nil, nil), nil},
		{table(ints(3)), nil},
		{table(ints(0)), table(ints(1))},
		{ident(200), nil},
		{filled(2, 3, 0), ident(3)},
		{filled(200, 200, 0), ident(200)},
		{table(ints(1, 2, 0), ints(0, 0, 1)), table(ints(-2, 1, 0))},
		{table(ints(2, 4, 0), ints(2, 4, 1)), table(ints(-2, 1, 0))},
		{table(ints(0, 2, 3)), table(ints(1, 0, 0), []api.Rat{rat.Of(0), frac(-3, 2), rat.Of(1)})},
		{table(ints(1, 2), ints(3, 4), ints(5, 6)), nil},
		{table(ints(1, 1), ints(2, 2), ints(3, 3)), table(ints(-1, 1))},
		{table(ints(1, 0, 3, 4), ints(0, 1, 5, 6)), table(ints(-3, -5, 1, 0), ints(-4, -6, 0, 1))},
		{table(ints(0, 1, 7, 0, 8), ints(0, 0, 0, 1, 9)), table(ints(1, 0, 0, 0, 0), ints(0, -7, 1, 0, 0), ints(0, -8, 0, -9, 1))},
	} {
		if a, e := Kernel(c.t); e != api.OK || !equal(a, c.want) {
			t.Errorf("Kernel(%v): %v, %v, want %v", c.t, a, e, c.want)
		}
	}
}

// makesNoughts tells whether the sum of the products of each row of t with v is 0, by math/big.
func makesNoughts(t [][]api.Rat, v []api.Rat) bool {
	for _, row := range t {
		sum := new(big.Rat)
		for j, x := range row {
			sum.Add(sum, new(big.Rat).Mul(of(x), of(v[j])))
		}
		if sum.Sign() != 0 {
			return false
		}
	}
	return true
}

func TestKernelOfMany(t *testing.T) {
	for _, a := range some(t) {
		_, places := matrix.Size(a)
		_, pivots, _ := Reduce(a)
		var free []int
		for j := range places {
			if !slices.Contains(pivots, j) {
				free = append(free, j)
			}
		}
		kernel, e := Kernel(a)
		if e != api.OK || len(kernel) != len(free) || !may(kernel) {
			t.Fatalf("Kernel(%v): %v, %v, free are %v", a, kernel, e, free)
		}
		for i, v := range kernel {
			if len(v) != places || !makesNoughts(a, v) {
				t.Fatalf("Kernel(%v), row %d: %v", a, i, v)
			}
			for k, j := range free {
				if want := rat.Of(0); k != i && !rat.Same(v[j], want) || k == i && !rat.One(v[j]) {
					t.Fatalf("Kernel(%v), row %d: %v, free are %v", a, i, v, free)
				}
			}
		}
	}
}

// 14.4 (same).

func TestStepsOfStepsAreTheSame(t *testing.T) {
	for _, a := range some(t) {
		steps, pivots, _ := Reduce(a)
		reduces(t, steps, steps, pivots)
		rank, _ := Rank(a)
		kernel, _ := Kernel(a)
		if n, e := Rank(steps); e != api.OK || n != rank {
			t.Fatalf("Rank of the steps of %v: %v, %v, want %v", a, n, e, rank)
		}
		if l, e := Kernel(steps); e != api.OK || !equal(l, kernel) {
			t.Fatalf("Kernel of the steps of %v: %v, %v, want %v", a, l, e, kernel)
		}
	}
}

// 14.5 (inverse).

func TestInverseIsOneFromBothSides(t *testing.T) {
	for n := range 9 {
		for seed := range 3 {
			a, det := regular(t, n, seed+300)
			b, e := Inverse(a)
			if e != api.OK || len(b) != n || !may(b) || !equal(mul(t, a, b), ident(n)) || !equal(mul(t, b, a), ident(n)) {
				t.Fatalf("Inverse(%v): %v, %v", a, b, e)
			}
			if again, e := Inverse(b); e != api.OK || !equal(again, a) {
				t.Fatalf("Inverse of that of %v: %v, %v", a, again, e)
			}
			if d, e := Det(b); e != api.OK || !rat.One(rat.Mul(d, det)) {
				t.Fatalf("Det of the inverse of %v: %v, %v", a, d, e)
			}
		}
	}
}

func TestDetOfAProduct(t *testing.T) {
	l := squares(t)
	for _, a := range l {
		for _, b := range l {
			if len(a) != len(b) {
				continue
			}
			x, _ := Det(a)
			y, _ := Det(b)
			if z, e := Det(mul(t, a, b)); e != api.OK || !rat.Same(z, rat.Mul(x, y)) {
				t.Fatalf("Det of %v times %v: %v, %v, want %v times %v", a, b, z, e, x, y)
			}
		}
	}
}

// P1, P2, and the rules.

// told are the answers of all calls at one table.
type told struct {
	tables [][][]api.Rat
	pivots []int
	rank   int
	det    api.Rat
	steps  bool
	errors [5]api.Errno
}

func answers(t [][]api.Rat) told {
	var all told
	all.tables = make([][][]api.Rat, 3)
	all.tables[0], all.pivots, all.errors[0] = Reduce(t)
	all.rank, all.errors[1] = Rank(t)
	all.tables[1], all.errors[2] = Inverse(t)
	all.det, all.errors[3] = Det(t)
	all.tables[2], all.errors[4] = Kernel(t)
	all.steps = Steps(t)
	return all
}

func same(a, b told) bool {
	return slices.EqualFunc(a.tables, b.tables, equal) && slices.Equal(a.pivots, b.pivots) && a.rank == b.rank && rat.Same(a.det, b.det) && a.steps == b.steps && a.errors == b.errors
}

// Every call ends, and none panics, at fractions that may not be as well, and tells the same when it is asked again.
func TestEveryCallAnswers(t *testing.T) {
	x := drawsOf(5)
	for n := range 12 {
		for _, share := range []uint64{1, 2, 5} { // of so many fractions one may not be
			a := filled(n, n+int(x.next()%3), 0)
			for _, row := range a {
				for j := range row {
					row[j] = x.nonzero()
					if x.next()%share == 0 {
						row[j] = wrong[x.next()%uint64(len(wrong))]
					}
				}
			}
			if all := answers(a); !same(all, answers(a)) {
				t.Fatalf("at %v: asked again, another answer", a)
			}
		}
	}
	for _, v := range wrong {
		answers(table([]api.Rat{v}))
		answers(table([]api.Rat{v, v}, []api.Rat{v, v}))
		answers(table([]api.Rat{rat.Of(1), v}, []api.Rat{v, rat.Of(1)}))
		refused(t, table([]api.Rat{v}, nil))
		refused(t, table([]api.Rat{v}, []api.Rat{v, v}))
		refusedSquare(t, table([]api.Rat{v, v}))
	}
}

// roomy is a with room behind, in which nothing may be laid.
func roomy(a api.Rat) api.Rat {
	room := func(l api.Nat) api.Nat { return append(make(api.Nat, 0, len(l)+8), l...) }
	return api.Rat{Num: api.Int{Neg: a.Num.Neg, Abs: room(a.Num.Abs)}, Den: room(a.Den)}
}

// apart is a table of memory of its own, with room behind all lists.
func apart(a [][]api.Rat) [][]api.Rat {
	copies := make([][]api.Rat, 0, len(a)+4)
	for _, row := range a {
		own := make([]api.Rat, 0, len(row)+4)
		for _, x := range row {
			own = append(own, roomy(x))
		}
		copies = append(copies, own)
	}
	return copies
}

// clean tells whether nothing lies in the room behind a table's rows, its places and its fractions.
func clean(a [][]api.Rat) bool {
	for _, row := range a {
		for _, x := range row {
			for _, list := range []api.Nat{x.Num.Abs, x.Den} {
				if slices.ContainsFunc(list[len(list):cap(list)], func(x uint64) bool { return x != 0 }) {
					return false
				}
			}
		}
		if slices.ContainsFunc(row[len(row):cap(row)], func(x api.Rat) bool { return !nothing(x) }) {
			return false
		}
	}
	return !slices.ContainsFunc(a[len(a):cap(a)], func(row []api.Rat) bool { return row != nil })
}

// spoil fills all memory of this fraction.
func spoil(a api.Rat) {
	for _, list := range []api.Nat{a.Num.Abs[:cap(a.Num.Abs)], a.Den[:cap(a.Den)]} {
		for i := range list {
			list[i] = 77
		}
	}
}

// What is handed in is neither changed nor kept.
func TestWhatIsHandedInIsLeftAlone(t *testing.T) {
	for _, a := range append(some(t), mayNot()...) {
		b := apart(a)
		first := answers(b)
		if !equal(a, b) || !clean(b) {
			t.Fatalf("%v is changed to %v", a, b)
		}
		for _, row := range b {
			for _, x := range row {
				spoil(x)
			}
			clear(row)
		}
		clear(b)
		if !same(first, answers(a)) {
			t.Fatalf("%v: what was handed in was kept", a)
		}
	}
}

// One row, or one fraction, that stands in a table more than once stays as it is, too.
func TestRowsThatAreOne(t *testing.T) {
	row := []api.Rat{roomy(rat.Of(2)), roomy(frac(1, 3)), roomy(rat.Of(2))}
	other := []api.Rat{row[1], row[1], row[0]}
	a := table(row, other, row, other[:3:3])
	reduces(t, a, table(ints(1, 0, 0), ints(0, 1, 6), ints(0, 0, 0), ints(0, 0, 0)), []int{0, 1})
	if !equalRows(row, []api.Rat{rat.Of(2), frac(1, 3), rat.Of(2)}) || !equalRows(other, []api.Rat{frac(1, 3), frac(1, 3), rat.Of(2)}) {
		t.Fatalf("%v, %v", row, other)
	}
}

// What is handed out is memory of its own: it shares none with the table, and no two lists of it share any.
func TestMemoryIsNotShared(t *testing.T) {
	for _, a := range some(t) {
		b := apart(a)
		all, want := answers(b), answers(b)
		for k, l := range all.tables {
			for i, row := range l {
				for j, x := range row {
					if !rat.Same(x, want.tables[k][i][j]) {
						t.Fatalf("at %v: fractions of one answer share memory", a)
					}
					spoil(x)
				}
			}
		}
		spoil(all.det)
		for _, l := range all.tables {
			for i, row := range l {
				for j := range row[:cap(row)] {
					row[:cap(row)][j] = rat.Of(i)
				}
			}
		}
		for _, l := range all.tables {
			for i, row := range l {
				if slices.ContainsFunc(row, func(x api.Rat) bool { return !rat.Same(x, rat.Of(i)) }) {
					t.Fatalf("at %v: rows of one answer share memory", a)
				}
			}
			clear(l)
		}
		clear(all.pivots)
		if !equal(a, b) || !clean(b) || !same(want, answers(b)) {
			t.Fatalf("answers share memory with %v", a)
		}
	}
}
