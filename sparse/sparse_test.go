package sparse

import (
	"math"
	"math/big"
	"slices"
	"testing"

	"trivium/api"
	"trivium/matrix"
	"trivium/rat"
	"trivium/ratio"
)

// wrong are fractions that may not be.
var wrong = []api.Rat{
	{},
	{Den: api.Nat{}},
	{Den: api.Nat{0}},
	{Den: api.Nat{2, 0}},
	{Num: api.Int{Neg: true}, Den: api.Nat{1}},
	{Num: api.Int{Abs: api.Nat{1}}},
	{Num: api.Int{Neg: true, Abs: api.Nat{7}}, Den: api.Nat{}},
	{Num: api.Int{Abs: api.Nat{1}}, Den: api.Nat{0}},
	{Num: api.Int{Neg: true, Abs: api.Nat{3}}, Den: api.Nat{9}},
	{Num: api.Int{Abs: api.Nat{5, 0}}, Den: api.Nat{1}},
	{Num: api.Int{Abs: api.Nat{0, 0}}, Den: api.Nat{1}},
	{Num: api.Int{Abs: api.Nat{1 << 32}}, Den: api.Nat{1 << 32, 1}},
	{Num: api.Int{Neg: true, Abs: slices.Repeat(api.Nat{1<<64 - 1}, 7)}, Den: api.Nat{0, 1 << 40, 0}},
}

// bare is 0, with a list that is empty, but not nil.
var bare = api.Rat{Num: api.Int{Abs: api.Nat{}}, Den: api.Nat{1}}

// sizes are how many rows, and places a row, tables have.
var sizes = [][2]int{{0, 0}, {0, 1}, {0, 7}, {0, 200}, {1, 0}, {7, 0}, {200, 0}, {1, 1}, {1, 5}, {5, 1}, {2, 3}, {3, 2}, {4, 4}, {9, 13}, {1, 200}, {200, 1}, {40, 30}}

// frac is n over d, which is not 0.
func frac(n, d int) api.Rat {
	a, _ := rat.Frac(n, d)
	return a
}

// ints is a row of whole numbers.
func ints(l ...int) []api.Rat {
	row := make([]api.Rat, len(l))
	for i, n := range l {
		row[i] = rat.Of(n)
	}
	return row
}

// filled is a table of so many rows, and places a row, with n in each.
func filled(rows, places, n int) [][]api.Rat {
	t := make([][]api.Rat, rows)
	for i := range t {
		t[i] = ints(slices.Repeat([]int{n}, places)...)
	}
	return t
}

// of is a, which may be, as a fraction of math/big, by which the sums here are made.
func of(a api.Rat) *big.Rat {
	n, ok := new(big.Rat).SetString(ratio.Print(a))
	if !ok {
		panic("no fraction: " + ratio.Print(a))
	}
	return n
}

// nothing tells whether a is the zero value.
func nothing(a api.Rat) bool { return !a.Num.Neg && a.Num.Abs == nil && a.Den == nil }

// equalRows, equal and equalCells tell whether both have the same fractions, limb by limb, at the same places.
func equalRows(a, b []api.Rat) bool { return slices.EqualFunc(a, b, rat.Same) }
func equal(a, b [][]api.Rat) bool   { return slices.EqualFunc(a, b, equalRows) }
func equalCells(a, b []Cell) bool {
	return slices.EqualFunc(a, b, func(c, d Cell) bool { return c.At == d.At && rat.Same(c.V, d.V) })
}

// draws are numbers, for each seed others, always the same.
type draws uint64

func (x *draws) next() uint64 {
	*x ^= *x << 13
	*x ^= *x >> 7
	*x ^= *x << 17
	return uint64(*x)
}

func drawsOf(seed int) *draws {
	x := draws(uint64(seed+1) * 88172645463325252)
	return &x
}

// fraction is a nought for the most part, else a small or a great fraction.
func (x *draws) fraction() api.Rat {
	n := x.next()
	number, lower := int(n>>8)%1000, int(n>>40)%60+1
	switch n % 8 {
	case 0, 1, 2, 3:
		return rat.Of(0)
	case 4:
		return bare
	case 5:
		return frac(int(n>>1), math.MaxInt-lower)
	default:
		return frac(number-500, lower)
	}
}

// drawn is a table of so many rows, and places a row.
func drawn(rows, places, seed int) [][]api.Rat {
	t, x := make([][]api.Rat, rows), drawsOf(seed)
	for i := range t {
		t[i] = make([]api.Rat, places)
		for j := range t[i] {
			t[i][j] = x.fraction()
		}
	}
	return t
}

// laid is a sparse table of that size, into which t is put, from the last place to the first.
func laid(tb testing.TB, rows, places int, t [][]api.Rat) *Sparse {
	tb.Helper()
	s, e := New(rows, places)
	if e != api.OK || s == nil {
		tb.Fatalf("New(%d, %d): %v, %v", rows, places, s, e)
	}
	for i := range slices.Backward(t) {
		for j, v := range slices.Backward(t[i]) {
			if e := s.Put(i, j, v); e != api.OK {
				tb.Fatalf("Put(%d, %d, %v) of %d, %d: %v", i, j, v, rows, places, e)
			}
		}
	}
	return s
}

// from is From of a table that may be.
func from(tb testing.TB, t [][]api.Rat) *Sparse {
	tb.Helper()
	s, e := From(t)
	if e != api.OK || s == nil {
		tb.Fatalf("From(%v): %v, %v", t, s, e)
	}
	return s
}

// cellsOf are those of a row that are not 0.
func cellsOf(row []api.Rat) []Cell {
	var l []Cell
	for j, v := range row {
		if of(v).Sign() != 0 {
			l = append(l, Cell{At: j, V: v})
		}
	}
	return l
}

// holds fails, if what s tells by any call is not t, of so many rows, and places a row.
func holds(tb testing.TB, s *Sparse, rows, places int, t [][]api.Rat) {
	tb.Helper()
	if r, p := s.Size(); r != rows || p != places {
		tb.Fatalf("Size: %d, %d, want %d, %d", r, p, rows, places)
	}
	count := 0
	for i, row := range t {
		cells := cellsOf(row)
		count += len(cells)
		if got := s.Row(i); !equalCells(got, cells) {
			tb.Fatalf("Row(%d) of %v: %v", i, t, got)
		}
		for j, v := range row {
			if got := s.Get(i, j); !rat.Same(got, v) {
				tb.Fatalf("Get(%d, %d) of %v: %v", i, j, t, got)
			}
		}
	}
	if got := s.Count(); got != count {
		tb.Fatalf("Count of %v: %d, want %d", t, got, count)
	}
	if got := s.Full(); !equal(got, t) {
		tb.Fatalf("Full: %v, want %v", got, t)
	}
}

// outside are places that a table of so many rows, and places a row, has not.
func outside(rows, places int) [][2]int {
	return [][2]int{
		{-1, 0}, {0, -1}, {-1, -1}, {rows, 0}, {0, places}, {rows, places}, {rows, places - 1}, {rows - 1, places}, {rows, -1}, {-1, places},
		{math.MinInt, 0}, {0, math.MinInt}, {math.MaxInt, 0}, {0, math.MaxInt}, {math.MinInt, math.MaxInt}, {math.MaxInt, math.MinInt}, {1 << 32, 1 << 32}, {201, 201},
	}
}

// 13.1: New, From, Size, Put, More, Get.

func TestNew(t *testing.T) {
	for _, z := range append(sizes, [2]int{200, 200}) {
		s, e := New(z[0], z[1])
		if e != api.OK || s == nil {
			t.Fatalf("New(%d, %d): %v, %v", z[0], z[1], s, e)
		}
		holds(t, s, z[0], z[1], filled(z[0], z[1], 0))
	}
	for _, n := range []int{-1, -200, math.MinInt, 201, 1000, math.MaxInt} {
		for _, z := range [][2]int{{n, 0}, {0, n}, {n, 1}, {1, n}, {n, 200}, {200, n}, {n, n}} {
			if s, e := New(z[0], z[1]); e != api.ErrArg || s != nil {
				t.Errorf("New(%d, %d): %v, %v", z[0], z[1], s, e)
			}
		}
	}
}

func TestFrom(t *testing.T) {
	for _, a := range [][][]api.Rat{
		nil, {}, {nil}, {{}, nil, {}}, filled(200, 0, 0), filled(1, 200, 1), filled(200, 1, 0), filled(200, 200, 3),
		{ints(0, 4)}, {ints(1, 0), ints(0, 0), ints(0, -2)}, {{bare, frac(1, 2)}, {frac(-3, 4), bare}},
	} {
		rows, places := matrix.Size(a)
		holds(t, from(t, a), rows, places, a)
	}
	for seed, z := range sizes {
		a := drawn(z[0], z[1], seed)
		rows, places := matrix.Size(a)
		holds(t, from(t, a), rows, places, a)
	}
}

// mayNot are tables that may not be.
func mayNot() [][][]api.Rat {
	return [][][]api.Rat{
		{ints(1), ints(1, 2)},
		{ints(1, 2), ints(1)},
		{nil, ints(1)},
		{ints(1), nil},
		{ints(0), ints(0), nil},
		{ints(1, 2), ints(1, 2, 3), ints(1)},
		append(filled(199, 2, 1), ints(1)),
		filled(201, 1, 1),
		filled(201, 0, 0),
		filled(1, 201, 1),
		filled(2, 1000, 0),
		filled(201, 201, 0),
	}
}

func TestFromOfWhatMayNotBe(t *testing.T) {
	for _, a := range mayNot() {
		if s, e := From(a); e != api.ErrShape || s != nil {
			t.Errorf("From(%v): %v, %v", a, s, e)
		}
	}
}

func TestPutOfNoughtIsNothing(t *testing.T) {
	s, _ := New(2, 2)
	for _, zero := range []api.Rat{rat.Of(0), bare} {
		if e := s.Put(0, 1, rat.Of(5)); e != api.OK || s.Count() != 1 {
			t.Fatalf("Put of 5: %v, Count %d", e, s.Count())
		}
		if e := s.Put(0, 1, zero); e != api.OK || s.Count() != 0 || len(s.Row(0)) != 0 || !rat.Same(s.Get(0, 1), rat.Of(0)) {
			t.Fatalf("Put of 5, Put of %v: %v, Count %d, Row %v, Get %v", zero, e, s.Count(), s.Row(0), s.Get(0, 1))
		}
		if e := s.Put(1, 1, zero); e != api.OK || s.Count() != 0 {
			t.Fatalf("Put of %v: %v, Count %d", zero, e, s.Count())
		}
	}
}

func TestPutAndMore(t *testing.T) {
	s, _ := New(2, 3)
	for _, c := range []struct {
		more bool
		i, j int
		v    api.Rat
		want [][]api.Rat
	}{
		{false, 0, 2, rat.Of(5), [][]api.Rat{ints(0, 0, 5), ints(0, 0, 0)}},
		{true, 0, 2, rat.Of(-2), [][]api.Rat{ints(0, 0, 3), ints(0, 0, 0)}},
		{true, 1, 0, frac(1, 2), [][]api.Rat{ints(0, 0, 3), {frac(1, 2), rat.Of(0), rat.Of(0)}}},
		{true, 1, 0, frac(1, 6), [][]api.Rat{ints(0, 0, 3), {frac(2, 3), rat.Of(0), rat.Of(0)}}},
		{false, 1, 0, rat.Of(7), [][]api.Rat{ints(0, 0, 3), ints(7, 0, 0)}},
		{true, 1, 0, rat.Of(0), [][]api.Rat{ints(0, 0, 3), ints(7, 0, 0)}},
		{true, 1, 1, rat.Of(0), [][]api.Rat{ints(0, 0, 3), ints(7, 0, 0)}},
		{true, 0, 2, rat.Of(-3), [][]api.Rat{ints(0, 0, 0), ints(7, 0, 0)}},
		{false, 0, 0, rat.Of(1), [][]api.Rat{ints(1, 0, 0), ints(7, 0, 0)}},
		{false, 0, 1, rat.Of(2), [][]api.Rat{ints(1, 2, 0), ints(7, 0, 0)}},
		{false, 1, 0, rat.Of(0), [][]api.Rat{ints(1, 2, 0), ints(0, 0, 0)}},
		{true, 1, 2, rat.Of(-9), [][]api.Rat{ints(1, 2, 0), ints(0, 0, -9)}},
	} {
		call := s.Put
		if c.more {
			call = s.More
		}
		if e := call(c.i, c.j, c.v); e != api.OK {
			t.Fatalf("%v: %v", c, e)
		}
		holds(t, s, 2, 3, c.want)
	}
}

// A long row of calls leaves what they leave in a table that keeps its noughts.
func TestPutAndMoreOfMany(t *testing.T) {
	for seed, z := range [][2]int{{1, 1}, {1, 6}, {6, 1}, {3, 3}, {5, 8}} {
		s, x := laid(t, z[0], z[1], nil), drawsOf(seed)
		want := filled(z[0], z[1], 0)
		for range 400 {
			i, j, v := int(x.next()>>1)%z[0], int(x.next()>>1)%z[1], x.fraction()
			e := api.OK
			switch x.next() % 4 {
			case 0:
				e = s.Put(i, j, v)
				want[i][j] = v
			case 1: // what stood there is taken off
				e = s.More(i, j, rat.Neg(want[i][j]))
				want[i][j] = rat.Of(0)
			default:
				sum := new(big.Rat).Add(of(want[i][j]), of(v))
				e = s.More(i, j, v)
				want[i][j], _ = ratio.Parse(new(big.Rat).Abs(sum).String())
				if sum.Sign() < 0 {
					want[i][j] = rat.Neg(want[i][j])
				}
			}
			if e != api.OK {
				t.Fatalf("at %d, %d of %v: %v", i, j, z, e)
			}
			holds(t, s, z[0], z[1], want)
		}
	}
}

func TestWhereThereIsNoPlace(t *testing.T) {
	for seed, z := range sizes {
		a := drawn(z[0], z[1], seed)
		s := laid(t, z[0], z[1], a)
		for _, at := range outside(z[0], z[1]) {
			for _, v := range append(wrong, rat.Of(1), rat.Of(0), frac(-1, 3)) {
				if e, f := s.Put(at[0], at[1], v), s.More(at[0], at[1], v); e != api.ErrArg || f != api.ErrArg {
					t.Fatalf("Put and More at %v of %v: %v, %v", at, z, e, f)
				}
			}
			if v := s.Get(at[0], at[1]); !rat.Same(v, rat.Of(0)) {
				t.Fatalf("Get at %v of %v: %v", at, z, v)
			}
		}
		for _, i := range []int{-1, -200, math.MinInt, z[0], z[0] + 1, 201, math.MaxInt} {
			if row := s.Row(i); len(row) != 0 {
				t.Fatalf("Row(%d) of %v: %v", i, z, row)
			}
		}
		holds(t, s, z[0], z[1], a)
	}
}

// 13.2: Count, Row, Full, Apply, and what each does on nil. (holds asks for the first three, wherever it stands.)

func TestRowRises(t *testing.T) {
	s, _ := New(3, 200)
	for k := range 200 {
		j := k * 77 % 200
		s.Put(1, j, rat.Of(j+1))
		s.Put(2, 199-j, rat.Of(0))
	}
	row := s.Row(1)
	if len(row) != 200 || len(s.Row(0)) != 0 || len(s.Row(2)) != 0 || s.Count() != 200 {
		t.Fatalf("%d, %d, %d, of %d", len(row), len(s.Row(0)), len(s.Row(2)), s.Count())
	}
	for j, c := range row {
		if c.At != j || !rat.Same(c.V, rat.Of(j+1)) {
			t.Fatalf("cell %d: %v", j, c)
		}
	}
}

func TestApply(t *testing.T) {
	for _, c := range []struct {
		rows, places int
		t            [][]api.Rat
		v, want      []api.Rat
		e            api.Errno
	}{
		{0, 0, nil, nil, nil, api.OK},
		{0, 0, nil, []api.Rat{}, nil, api.OK},
		{2, 0, nil, nil, ints(0, 0), api.OK},
		{2, 3, nil, ints(1, 2, 3), ints(0, 0), api.OK},
		{2, 3, [][]api.Rat{ints(0, 0, 3), ints(7, 0, 0)}, ints(1, 2, 3), ints(9, 7), api.OK},
		{1, 3, [][]api.Rat{ints(1, 2, 3)}, ints(4, 5, 6), ints(32), api.OK},
		{2, 2, [][]api.Rat{ints(1, 1), {frac(1, 2), frac(1, 3)}}, []api.Rat{frac(-1, 2), frac(1, 2)}, []api.Rat{rat.Of(0), frac(-1, 12)}, api.OK},
		{3, 1, [][]api.Rat{ints(2), ints(0), ints(-3)}, []api.Rat{frac(1, 6)}, []api.Rat{frac(1, 3), frac(0, 1), frac(-1, 2)}, api.OK},
		{200, 200, filled(200, 200, 1), ints(slices.Repeat([]int{3}, 200)...), ints(slices.Repeat([]int{600}, 200)...), api.OK},
		{0, 0, nil, ints(1), nil, api.ErrShape},
		{1, 0, nil, ints(1), nil, api.ErrShape},
		{1, 1, nil, nil, nil, api.ErrShape},
		{2, 3, nil, nil, nil, api.ErrShape},
		{2, 3, nil, ints(1, 2), nil, api.ErrShape},
		{2, 3, nil, ints(1, 2, 3, 4), nil, api.ErrShape},
		{2, 3, nil, ints(slices.Repeat([]int{1}, 6)...), nil, api.ErrShape},
		{1, 200, nil, ints(slices.Repeat([]int{1}, 201)...), nil, api.ErrShape},
		{0, 3, nil, nil, nil, api.OK}, // as of the full table: without rows it has no places
		{0, 3, nil, ints(1, 2, 3), nil, api.ErrShape},
	} {
		s := laid(t, c.rows, c.places, c.t)
		if v, e := s.Apply(c.v); e != c.e || !equalRows(v, c.want) {
			t.Errorf("Apply(%v) of %d, %d, %v: %v, %v, want %v, %v", c.v, c.rows, c.places, c.t, v, e, c.want, c.e)
		}
	}
}

// appliedTo is, of each row of a, the sum of the products with v, by math/big.
func appliedTo(a [][]api.Rat, v []api.Rat) []*big.Rat {
	sums := make([]*big.Rat, len(a))
	for i, row := range a {
		sums[i] = new(big.Rat)
		for j, x := range row {
			sums[i].Add(sums[i], new(big.Rat).Mul(of(x), of(v[j])))
		}
	}
	return sums
}

func TestApplyOfMany(t *testing.T) {
	for seed, z := range sizes {
		if z[0] == 0 {
			continue
		}
		a, v := drawn(z[0], z[1], seed), drawn(1, z[1], seed+100)[0]
		got, e := laid(t, z[0], z[1], a).Apply(v)
		if e != api.OK || !slices.EqualFunc(got, appliedTo(a, v), func(x api.Rat, n *big.Rat) bool { return rat.May(x) && of(x).Cmp(n) == 0 }) {
			t.Fatalf("Apply(%v) of %v: %v, %v", v, a, got, e)
		}
	}
}

func TestOnNil(t *testing.T) {
	var s *Sparse
	for _, v := range append(wrong, rat.Of(0), rat.Of(5)) {
		for _, at := range append(outside(2, 2), [2]int{0, 0}, [2]int{1, 1}) {
			if e, f := s.Put(at[0], at[1], v), s.More(at[0], at[1], v); e != api.ErrNone || f != api.ErrNone {
				t.Fatalf("Put and More at %v: %v, %v", at, e, f)
			}
			if got := s.Get(at[0], at[1]); !rat.Same(got, rat.Of(0)) {
				t.Fatalf("Get at %v: %v", at, got)
			}
			if row := s.Row(at[0]); len(row) != 0 {
				t.Fatalf("Row(%d): %v", at[0], row)
			}
		}
	}
	for _, v := range [][]api.Rat{nil, {}, ints(1), ints(1, 2), wrong} {
		if got, e := s.Apply(v); e != api.ErrNone || len(got) != 0 {
			t.Fatalf("Apply(%v): %v, %v", v, got, e)
		}
	}
	rows, places := s.Size()
	if rows != 0 || places != 0 || s.Count() != 0 || len(s.Full()) != 0 {
		t.Fatalf("Size %d, %d, Count %d, Full %v", rows, places, s.Count(), s.Full())
	}
}

// 13.3 (full).

func TestFromOfFullIsTheSame(t *testing.T) {
	for seed, z := range append(sizes, [2]int{200, 200}) {
		a := drawn(z[0], z[1], seed)
		s := laid(t, z[0], z[1], a)
		u := from(t, s.Full())
		if z[0] == 0 {
			z[1] = 0 // a full table without rows has no places
		}
		holds(t, u, z[0], z[1], a)
		if !matrix.Same(u.Full(), s.Full()) || u.Count() != s.Count() {
			t.Fatalf("From of Full of %v: %v", a, u.Full())
		}
	}
}

func TestApplyIsThatOfTheFullTable(t *testing.T) {
	for seed, z := range append(sizes, [2]int{200, 200}) {
		s := laid(t, z[0], z[1], drawn(z[0], z[1], seed))
		for _, n := range []int{0, 1, 2, z[1] - 1, z[1], z[1] + 1, 201} {
			v := drawn(1, max(n, 0), seed+100)[0]
			got, e := s.Apply(v)
			want, f := matrix.Apply(s.Full(), v)
			if e != f || !equalRows(got, want) {
				t.Fatalf("Apply(%v) of %v: %v, %v, want %v, %v", v, s.Full(), got, e, want, f)
			}
		}
	}
}

// P1, P2, and the rules.

// told are the answers of all calls that ask, at one sparse table and one row.
type told struct {
	size    [2]int
	count   int
	numbers []api.Rat
	rows    [][]Cell
	full    [][]api.Rat
	applied []api.Rat
	e       api.Errno
}

func answers(s *Sparse, v []api.Rat) told {
	var all told
	all.size[0], all.size[1] = s.Size()
	all.count = s.Count()
	for i := -1; i <= all.size[0]; i++ {
		all.rows = append(all.rows, s.Row(i))
		for j := -1; j <= all.size[1]; j++ {
			all.numbers = append(all.numbers, s.Get(i, j))
		}
	}
	all.full = s.Full()
	all.applied, all.e = s.Apply(v)
	return all
}

func same(a, b told) bool {
	return a.size == b.size && a.count == b.count && a.e == b.e && equalRows(a.numbers, b.numbers) && equal(a.full, b.full) && equalRows(a.applied, b.applied) && slices.EqualFunc(a.rows, b.rows, equalCells)
}

// fractions are all fractions in these answers, as lists of pointers to them.
func (a told) fractions() []*api.Rat {
	var l []*api.Rat
	for _, list := range append(slices.Clone(a.full), a.numbers, a.applied) {
		for i := range list {
			l = append(l, &list[i])
		}
	}
	for _, row := range a.rows {
		for i := range row {
			l = append(l, &row[i].V)
		}
	}
	return l
}

// Every call ends, and none panics, at fractions that may not be as well; answers hang on no order.
func TestEveryCallAnswers(t *testing.T) {
	n := len(wrong)
	a := [][]api.Rat{wrong, slices.Repeat([]api.Rat{rat.Of(2)}, n), drawn(1, n, 3)[0], wrong}
	for _, v := range [][]api.Rat{wrong, drawn(1, n, 1)[0], ints(slices.Repeat([]int{3}, n)...), nil} {
		first := answers(laid(t, len(a), n, a), v)
		for range 5 {
			again := from(t, a)
			if !same(first, answers(again, v)) || !same(first, answers(again, v)) {
				t.Fatalf("at %v, %v: asked again, another answer", a, v)
			}
		}
	}
	s := laid(t, 2, 2, nil)
	for _, x := range append(wrong, rat.Of(1), frac(-1, 2)) {
		for _, y := range append(wrong, rat.Of(0), rat.Of(-1)) {
			if e, f, g := s.Put(0, 1, x), s.More(0, 1, y), s.More(1, 1, x); e != api.OK || f != api.OK || g != api.OK {
				t.Fatalf("Put of %v, More of %v: %v, %v, %v", x, y, e, f, g)
			}
			answers(s, []api.Rat{x, y})
			answers(s, nil)
		}
	}
}

func TestRefusedCallsChangeNothing(t *testing.T) {
	for seed, z := range sizes {
		a, v := drawn(z[0], z[1], seed), drawn(1, z[1], seed+100)[0]
		s := laid(t, z[0], z[1], a)
		before := answers(s, v)
		for _, at := range outside(z[0], z[1]) {
			s.Put(at[0], at[1], rat.Of(9))
			s.More(at[0], at[1], rat.Of(9))
			s.Put(at[0], at[1], rat.Of(0))
		}
		_, e := s.Apply(append(slices.Clone(v), rat.Of(1)))
		_, f := From(append(s.Full(), slices.Repeat([][]api.Rat{nil}, 201)...))
		if e != api.ErrShape || f != api.ErrShape {
			t.Fatalf("not refused: %v, %v", e, f)
		}
		if !same(before, answers(s, v)) {
			t.Fatalf("%v: other answers behind a refused call", a)
		}
	}
}

// roomy is a with room behind, in which nothing may be laid.
func roomy(a api.Rat) api.Rat {
	room := func(l api.Nat) api.Nat { return append(make(api.Nat, 0, len(l)+8), l...) }
	return api.Rat{Num: api.Int{Neg: a.Num.Neg, Abs: room(a.Num.Abs)}, Den: room(a.Den)}
}

// apart is a table of memory of its own, with room behind all lists.
func apart(a [][]api.Rat) [][]api.Rat {
	copies := make([][]api.Rat, 0, len(a)+4)
	for _, row := range a {
		own := make([]api.Rat, 0, len(row)+4)
		for _, x := range row {
			own = append(own, roomy(x))
		}
		copies = append(copies, own)
	}
	return copies
}

// clean tells whether nothing lies in the room behind a table's rows, its places and its fractions.
func clean(a [][]api.Rat) bool {
	for _, row := range a {
		for _, x := range row {
			for _, list := range []api.Nat{x.Num.Abs, x.Den} {
				if slices.ContainsFunc(list[len(list):cap(list)], func(x uint64) bool { return x != 0 }) {
					return false
				}
			}
		}
		if slices.ContainsFunc(row[len(row):cap(row)], func(x api.Rat) bool { return !nothing(x) }) {
			return false
		}
	}
	return !slices.ContainsFunc(a[len(a):cap(a)], func(row []api.Rat) bool { return row != nil })
}

// spoil fills all memory of this fraction.
func spoil(a api.Rat) {
	for _, list := range []api.Nat{a.Num.Abs[:cap(a.Num.Abs)], a.Den[:cap(a.Den)]} {
		for i := range list {
			list[i] = 77
		}
	}
}

// spoilRows fills all memory of these rows, and of their fractions.
func spoilRows(a [][]api.Rat) {
	for _, row := range a {
		for _, x := range row {
			spoil(x)
		}
		clear(row[:cap(row)])
	}
	clear(a)
}

// What is handed in is neither changed nor kept.
func TestWhatIsHandedInIsLeftAlone(t *testing.T) {
	for seed, z := range sizes {
		a, v := drawn(z[0], z[1], seed), drawn(1, z[1], seed+100)
		b, w := apart(a), apart(v)
		s, u := from(t, b), laid(t, z[0], z[1], b)
		first, second := answers(s, w[0]), answers(u, w[0])
		for i, row := range b {
			for j, x := range row {
				s.More(i, j, x)
				s.More(i, j, rat.Neg(x))
			}
		}
		if !equal(a, b) || !equal(v, w) || !clean(b) || !clean(w) {
			t.Fatalf("%v, %v are changed to %v, %v", a, v, b, w)
		}
		spoilRows(b)
		spoilRows(w)
		if !same(first, answers(s, v[0])) || !same(second, answers(u, v[0])) {
			t.Fatalf("%v: what was handed in was kept", a)
		}
	}
}

// One fraction that is put at more than one place stands apart at each.
func TestOneFractionAtManyPlaces(t *testing.T) {
	x := roomy(frac(22, 7))
	s, u := laid(t, 2, 2, nil), laid(t, 2, 2, nil)
	for _, at := range [][2]int{{0, 0}, {0, 1}, {1, 1}} {
		s.Put(at[0], at[1], x)
		u.More(at[0], at[1], x)
	}
	s.More(0, 1, frac(-1, 7))
	u.More(0, 1, frac(-1, 7))
	spoil(x)
	want := [][]api.Rat{{frac(22, 7), rat.Of(3)}, {rat.Of(0), frac(22, 7)}}
	holds(t, s, 2, 2, want)
	holds(t, u, 2, 2, want)
}

// What is handed out is memory of its own: it shares none with the sparse table or a row, and no two lists of it share any.
func TestMemoryIsNotShared(t *testing.T) {
	for seed, z := range sizes[:len(sizes)-1] {
		a, v := drawn(z[0], z[1], seed), drawn(1, z[1], seed+100)
		w := apart(v)
		s := from(t, a)
		all, want := answers(s, w[0]), answers(s, w[0])
		l, kept := all.fractions(), want.fractions()
		for i, x := range l {
			if !rat.Same(*x, *kept[i]) {
				t.Fatalf("at %v, %v: fractions of one answer share memory", a, v)
			}
			spoil(*x)
		}
		for _, row := range all.full {
			clear(row[:cap(row)])
		}
		for _, row := range all.rows {
			clear(row[:cap(row)])
		}
		clear(all.full)
		clear(all.applied)
		if !equal(v, w) || !same(want, answers(s, w[0])) {
			t.Fatalf("answers share memory with %v, %v", a, v)
		}
	}
}

// What was handed out stays as it is, whatever is put later; two sparse tables of one table are apart.
func TestAnswersAreNotChangedLater(t *testing.T) {
	for seed, z := range sizes {
		a, v := drawn(z[0], z[1], seed), drawn(1, z[1], seed+100)[0]
		s, u := from(t, a), from(t, a)
		all, want := answers(s, v), answers(u, v)
		for i := range z[0] {
			for j := range z[1] {
				s.More(i, j, rat.Of(1))
				s.Put(i, j, rat.Of((i+j)%3))
			}
		}
		if !same(all, want) || !same(answers(u, v), want) {
			t.Fatalf("%v: %v is %v by now", a, want, all)
		}
	}
}
