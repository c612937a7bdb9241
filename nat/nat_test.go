package nat

import (
	"encoding/binary"
	"math"
	"math/big"
	"slices"
	"testing"

	"trivium/api"
)

const top = 1<<32 - 1 // the greatest limb

// edges are numbers that may be, at the ends of limbs.
var edges = []api.Nat{
	nil, {}, {1}, {2}, {3}, {1 << 31}, {top - 1}, {top},
	{0, 1}, {1, 1}, {top, 1}, {0, top}, {top, 1<<31 - 1}, {0, 1 << 31}, {top, top},
	{0, 0, 1}, {1, 0, 1}, {0, top, 1}, {top, 0, 1 << 31}, {top, top, top},
	{0, 0, 0, 0, 1}, {5, 0, 0, 0, top}, {top, top, top, top, top, top, top, 1},
}

// wrong are lists of limbs that are no numbers.
var wrong = []api.Nat{
	{0}, {0, 0}, {0, 0, 0, 0}, {1, 0}, {top, top, 0}, {0, 1, 0}, {5, 1, 0, 0, 0},
	{1 << 32}, {1 << 63}, {1<<64 - 1}, {1 << 32, 1}, {7, 1 << 32}, {0, 1 << 32, 0},
	{1<<64 - 1, 1<<64 - 1}, {1<<64 - 1, 1<<64 - 1, 1<<64 - 1}, {1<<64 - 1, 0, 0},
}

// some are numbers that may be, many of them, always the same ones.
func some(n int) []api.Nat {
	l, x := make([]api.Nat, n), uint64(88172645463325252)
	next := func() uint64 {
		x ^= x << 13
		x ^= x >> 7
		x ^= x << 17
		return x
	}
	for i := range l {
		for range 1 + i%9 {
			switch next() % 5 {
			case 0:
				l[i] = append(l[i], 0)
			case 1:
				l[i] = append(l[i], top)
			default:
				l[i] = append(l[i], next()&top)
			}
		}
		l[i] = append(l[i], 1+next()%top)
	}
	return l
}

// samples are the edges and some others.
func samples(n int) []api.Nat { return append(some(n), edges...) }

// of is a as a number of math/big, so that nothing here reckons as the package does.
func of(a api.Nat) *big.Int {
	var l []byte
	for _, x := range slices.Backward(a) {
		l = binary.BigEndian.AppendUint32(l, uint32(x))
	}
	return new(big.Int).SetBytes(l)
}

// is tells whether a is the number n, and may be.
func is(a api.Nat, n *big.Int) bool {
	for _, x := range a {
		if x > top {
			return false
		}
	}
	return (len(a) == 0 || a[len(a)-1] != 0) && of(a).Cmp(n) == 0
}

// ones is the number of n limbs, all of them as great as can be.
func ones(n int) api.Nat {
	a := make(api.Nat, n)
	for i := range a {
		a[i] = top
	}
	return a
}

// 2.1: Make, May, Of, Small, Cmp.

func TestMake(t *testing.T) {
	for _, c := range []struct {
		l    []uint64
		want api.Nat
		e    api.Errno
	}{
		{nil, nil, api.OK},
		{[]uint64{}, nil, api.OK},
		{[]uint64{0}, nil, api.OK},
		{[]uint64{0, 0, 0}, nil, api.OK},
		{[]uint64{5}, api.Nat{5}, api.OK},
		{[]uint64{1, 2, 0, 0}, api.Nat{1, 2}, api.OK},
		{[]uint64{0, 0, 7}, api.Nat{0, 0, 7}, api.OK},
		{[]uint64{0, 7, 0}, api.Nat{0, 7}, api.OK},
		{[]uint64{top, top}, api.Nat{top, top}, api.OK},
		{[]uint64{1 << 32}, nil, api.ErrArg},
		{[]uint64{1, 1 << 32}, nil, api.ErrArg},
		{[]uint64{1 << 32, 1}, nil, api.ErrArg},
		{[]uint64{1, 1 << 63, 0}, nil, api.ErrArg},
		{[]uint64{0, 0, 1<<64 - 1}, nil, api.ErrArg},
	} {
		if a, e := Make(c.l...); !slices.Equal(a, c.want) || e != c.e {
			t.Errorf("Make(%v): %v, %v, want %v, %v", c.l, a, e, c.want, c.e)
		}
	}
}

func TestMay(t *testing.T) {
	for _, a := range samples(50) {
		if !May(a) {
			t.Errorf("%v may not be", a)
		}
	}
	for _, a := range wrong {
		if May(a) {
			t.Errorf("%v may be", a)
		}
	}
}

func TestOf(t *testing.T) {
	for _, c := range []struct {
		n    uint64
		want api.Nat
	}{
		{0, nil},
		{1, api.Nat{1}},
		{top, api.Nat{top}},
		{1 << 32, api.Nat{0, 1}},
		{1 << 40, api.Nat{0, 256}},
		{1<<32 + 7, api.Nat{7, 1}},
		{1 << 63, api.Nat{0, 1 << 31}},
		{1<<64 - 1, api.Nat{top, top}},
	} {
		if a := Of(c.n); !slices.Equal(a, c.want) {
			t.Errorf("Of(%d): %v, want %v", c.n, a, c.want)
		}
	}
}

func TestSmall(t *testing.T) {
	for _, c := range []struct {
		a    api.Nat
		want uint64
		ok   bool
	}{
		{nil, 0, true},
		{api.Nat{}, 0, true},
		{api.Nat{1}, 1, true},
		{api.Nat{top}, top, true},
		{api.Nat{5, 1}, 1<<32 + 5, true},
		{api.Nat{0, 1<<31 - 1}, 1<<63 - 1<<32, true},
		{api.Nat{top, 1<<31 - 1}, 1<<63 - 1, true},
		{api.Nat{0, 1 << 31}, 0, false},
		{api.Nat{1, 1 << 31}, 0, false},
		{api.Nat{top, top}, 0, false},
		{api.Nat{0, 0, 1}, 0, false},
		{api.Nat{5, 0, 1}, 0, false},
		{api.Nat{5, 0, 0, 0, 0, 1}, 0, false},
	} {
		if n, ok := Small(c.a); n != c.want || ok != c.ok {
			t.Errorf("Small(%v): %d, %v, want %d, %v", c.a, n, ok, c.want, c.ok)
		}
	}
}

func TestCmp(t *testing.T) {
	for _, c := range []struct {
		a, b api.Nat
		want int
	}{
		{nil, nil, 0},
		{nil, api.Nat{}, 0},
		{api.Nat{}, api.Nat{1}, -1},
		{api.Nat{1}, nil, 1},
		{api.Nat{7}, api.Nat{7}, 0},
		{api.Nat{top}, api.Nat{0, 1}, -1},
		{api.Nat{0, 1}, api.Nat{top}, 1},
		{api.Nat{9, 1}, api.Nat{0, 2}, -1}, // the last limb counts first
		{api.Nat{1, 5, 2}, api.Nat{9, 4, 2}, 1},
		{api.Nat{1, 5, 2}, api.Nat{2, 5, 2}, -1},
		{ones(4), api.Nat{0, 0, 0, 0, 1}, -1},
	} {
		if order := Cmp(c.a, c.b); order != c.want {
			t.Errorf("Cmp(%v, %v): %d, want %d", c.a, c.b, order, c.want)
		}
	}
}

func TestCmpOfMany(t *testing.T) {
	l := samples(60)
	for _, a := range l {
		for _, b := range l {
			if order, want := Cmp(a, b), of(a).Cmp(of(b)); order != want {
				t.Fatalf("Cmp(%v, %v): %d, want %d", a, b, order, want)
			}
		}
	}
}

// 2.2: Add, Sum, Sub.

func TestAdd(t *testing.T) {
	for _, c := range []struct{ a, b, want api.Nat }{
		{nil, nil, nil},
		{nil, api.Nat{5}, api.Nat{5}},
		{api.Nat{5}, api.Nat{}, api.Nat{5}},
		{api.Nat{2}, api.Nat{3}, api.Nat{5}},
		{api.Nat{top}, api.Nat{1}, api.Nat{0, 1}},
		{api.Nat{1}, ones(3), api.Nat{0, 0, 0, 1}},
		{ones(2), api.Nat{1}, api.Nat{0, 0, 1}},
		{ones(2), ones(2), api.Nat{top - 1, top, 1}},
		{api.Nat{0, 0, 4}, api.Nat{6}, api.Nat{6, 0, 4}},
		{api.Nat{top, 8}, api.Nat{1, 0, 4}, api.Nat{0, 9, 4}},
	} {
		if sum := Add(c.a, c.b); !slices.Equal(sum, c.want) {
			t.Errorf("Add(%v, %v): %v, want %v", c.a, c.b, sum, c.want)
		}
	}
}

func TestAddIsTheSum(t *testing.T) {
	l := samples(60)
	for _, a := range l {
		for _, b := range l {
			if sum := Add(a, b); !is(sum, new(big.Int).Add(of(a), of(b))) {
				t.Fatalf("Add(%v, %v): %v", a, b, sum)
			}
		}
	}
}

func TestSum(t *testing.T) {
	for _, c := range []struct {
		l    []api.Nat
		want api.Nat
	}{
		{nil, nil},
		{[]api.Nat{}, nil},
		{[]api.Nat{nil, {}, nil}, nil},
		{[]api.Nat{{7}}, api.Nat{7}},
		{[]api.Nat{{1, 2}, {1, 2}, {1, 2}}, api.Nat{3, 6}},
		{[]api.Nat{{top}, {top}, {top}, {3}}, api.Nat{0, 3}},
		{[]api.Nat{nil, {1}, ones(5), nil}, api.Nat{0, 0, 0, 0, 0, 1}},
		{[]api.Nat{ones(5), {1}, {9}}, api.Nat{9, 0, 0, 0, 0, 1}},
	} {
		if sum := Sum(c.l...); !slices.Equal(sum, c.want) {
			t.Errorf("Sum(%v): %v, want %v", c.l, sum, c.want)
		}
	}
}

func TestSumIsThatOfAll(t *testing.T) {
	l, want := samples(400), new(big.Int)
	for i := range l {
		if sum := Sum(l[:i]...); !is(sum, want) {
			t.Fatalf("of the first %d: %v, want %v", i, sum, want)
		}
		want.Add(want, of(l[i]))
	}
}

// What is carried runs all the way up, and past the longest number by more than one bit.
func TestSumCarries(t *testing.T) {
	const n = 70000
	l := make([]api.Nat, n)
	for i := range l {
		l[i] = api.Nat{top}
	}
	if sum := Sum(l...); !slices.Equal(sum, api.Nat{1<<32 - n, n - 1}) {
		t.Errorf("%d of the greatest limb: %v", n, sum)
	}
	sum := Add(ones(2000), api.Nat{1})
	if len(sum) != 2001 || sum[2000] != 1 || Zeros(sum) != 2000*32 {
		t.Errorf("one more than 2000 of the greatest limb: %v", sum)
	}
}

func TestSub(t *testing.T) {
	for _, c := range []struct{ a, b, want api.Nat }{
		{nil, nil, nil},
		{nil, api.Nat{}, nil},
		{api.Nat{5}, nil, api.Nat{5}},
		{api.Nat{5}, api.Nat{3}, api.Nat{2}},
		{api.Nat{5}, api.Nat{5}, nil},
		{api.Nat{0, 1}, api.Nat{1}, api.Nat{top}},
		{api.Nat{0, 0, 0, 1}, api.Nat{1}, ones(3)},
		{api.Nat{0, 0, 1}, ones(2), api.Nat{1}},
		{api.Nat{9, 7, 5}, api.Nat{1, 7, 5}, api.Nat{8}},
		{api.Nat{0, 7, 5}, api.Nat{1, 6, 5}, api.Nat{top}},
		{ones(3), ones(3), nil},
	} {
		if rest, e := Sub(c.a, c.b); !slices.Equal(rest, c.want) || e != api.OK {
			t.Errorf("Sub(%v, %v): %v, %v, want %v", c.a, c.b, rest, e, c.want)
		}
	}
}

func TestSubIsTheDifference(t *testing.T) {
	l := samples(60)
	for _, a := range l {
		for _, b := range l {
			rest, e := Sub(a, b)
			want := new(big.Int).Sub(of(a), of(b))
			if want.Sign() < 0 {
				if rest != nil || e != api.ErrLess {
					t.Fatalf("Sub(%v, %v): %v, %v, want %v", a, b, rest, e, api.ErrLess)
				}
			} else if !is(rest, want) || e != api.OK {
				t.Fatalf("Sub(%v, %v): %v, %v", a, b, rest, e)
			}
		}
	}
}

func TestSubIsRefused(t *testing.T) {
	for _, c := range []struct{ a, b api.Nat }{
		{nil, api.Nat{1}},
		{api.Nat{}, ones(3)},
		{api.Nat{4}, api.Nat{5}},
		{api.Nat{top}, api.Nat{0, 1}},
		{api.Nat{9, 9, 1}, api.Nat{0, 0, 2}},
		{api.Nat{8, 9, 2}, api.Nat{9, 9, 2}},
	} {
		if rest, e := Sub(c.a, c.b); rest != nil || e != api.ErrLess {
			t.Errorf("Sub(%v, %v): %v, %v, want %v", c.a, c.b, rest, e, api.ErrLess)
		}
	}
}

// 2.3: Shl, Shr, Bits, Zeros.

func TestShifts(t *testing.T) {
	for _, c := range []struct {
		a        api.Nat
		n        int
		up, down api.Nat
	}{
		{nil, 0, nil, nil},
		{api.Nat{}, 1, nil, nil},
		{nil, 100000, nil, nil},
		{api.Nat{5}, 0, api.Nat{5}, api.Nat{5}},
		{api.Nat{5}, 1, api.Nat{10}, api.Nat{2}},
		{api.Nat{5}, 2, api.Nat{20}, api.Nat{1}},
		{api.Nat{5}, 3, api.Nat{40}, nil},
		{api.Nat{1}, 31, api.Nat{1 << 31}, nil},
		{api.Nat{1}, 32, api.Nat{0, 1}, nil},
		{api.Nat{1}, 33, api.Nat{0, 2}, nil},
		{api.Nat{top}, 1, api.Nat{top - 1, 1}, api.Nat{1<<31 - 1}},
		{api.Nat{top}, 31, api.Nat{1 << 31, 1<<31 - 1}, api.Nat{1}},
		{api.Nat{top}, 33, api.Nat{0, top - 1, 1}, nil},
		{api.Nat{3, 6, 1}, 0, api.Nat{3, 6, 1}, api.Nat{3, 6, 1}},
		{api.Nat{3, 6, 1}, 1, api.Nat{6, 12, 2}, api.Nat{1, 1<<31 + 3}},
		{api.Nat{3, 6, 1}, 32, api.Nat{0, 3, 6, 1}, api.Nat{6, 1}},
		{api.Nat{3, 6, 1}, 33, api.Nat{0, 6, 12, 2}, api.Nat{1<<31 + 3}},
		{api.Nat{3, 6, 1}, 64, api.Nat{0, 0, 3, 6, 1}, api.Nat{1}},
		{api.Nat{3, 6, 1}, 65, api.Nat{0, 0, 6, 12, 2}, nil},
		{ones(2), 63, api.Nat{0, 1 << 31, top, 1<<31 - 1}, api.Nat{1}},
		{ones(2), 64, api.Nat{0, 0, top, top}, nil},
	} {
		if up, e := Shl(c.a, c.n); !slices.Equal(up, c.up) || e != api.OK {
			t.Errorf("Shl(%v, %d): %v, %v, want %v", c.a, c.n, up, e, c.up)
		}
		if down, e := Shr(c.a, c.n); !slices.Equal(down, c.down) || e != api.OK {
			t.Errorf("Shr(%v, %d): %v, %v, want %v", c.a, c.n, down, e, c.down)
		}
	}
}

func TestShiftsOfMany(t *testing.T) {
	shifts := []int{255, 256, 257, 1000, 3199, 3200, 3201, 99999, 100000}
	for n := range 100 {
		shifts = append(shifts, n)
	}
	for _, a := range append(samples(60), ones(3125), ones(3126)) {
		for _, n := range shifts {
			if up, e := Shl(a, n); !is(up, new(big.Int).Lsh(of(a), uint(n))) || e != api.OK {
				t.Fatalf("Shl(%v, %d): %v, %v", a, n, up, e)
			}
			if down, e := Shr(a, n); !is(down, new(big.Int).Rsh(of(a), uint(n))) || e != api.OK {
				t.Fatalf("Shr(%v, %d): %v, %v", a, n, down, e)
			}
		}
	}
}

func TestShiftsAreRefused(t *testing.T) {
	for _, a := range []api.Nat{nil, {1}, ones(3), ones(4000)} {
		for _, n := range []int{-1, -32, math.MinInt, 100001, 1 << 32, math.MaxInt} {
			if up, e := Shl(a, n); up != nil || e != api.ErrArg {
				t.Errorf("Shl(%v, %d): %v, %v, want %v", a, n, up, e, api.ErrArg)
			}
			if down, e := Shr(a, n); down != nil || e != api.ErrArg {
				t.Errorf("Shr(%v, %d): %v, %v, want %v", a, n, down, e, api.ErrArg)
			}
		}
	}
}

func TestBitsAndZeros(t *testing.T) {
	for _, c := range []struct {
		a           api.Nat
		bits, zeros int
	}{
		{nil, 0, 0},
		{api.Nat{}, 0, 0},
		{api.Nat{1}, 1, 0},
		{api.Nat{40}, 6, 3},
		{api.Nat{1 << 31}, 32, 31},
		{api.Nat{top}, 32, 0},
		{api.Nat{0, 1}, 33, 32},
		{api.Nat{0, top - 1, 1}, 65, 33},
		{api.Nat{8, 0, 1 << 31}, 96, 3},
		{api.Nat{0, 0, 0, 6}, 99, 97},
	} {
		if n := Bits(c.a); n != c.bits {
			t.Errorf("Bits(%v): %d, want %d", c.a, n, c.bits)
		}
		if n := Zeros(c.a); n != c.zeros {
			t.Errorf("Zeros(%v): %d, want %d", c.a, n, c.zeros)
		}
	}
}

func TestBitsAndZerosOfMany(t *testing.T) {
	for _, a := range samples(500) {
		if n := Bits(a); n != of(a).BitLen() {
			t.Fatalf("Bits(%v): %d", a, n)
		}
		if n := Zeros(a); n != int(of(a).TrailingZeroBits()) {
			t.Fatalf("Zeros(%v): %d", a, n)
		}
	}
}

// 2.4 (back).

func TestAddedIsTakenOff(t *testing.T) {
	l := samples(60)
	for _, a := range l {
		for _, b := range l {
			if back, e := Sub(Add(a, b), b); !slices.Equal(back, a) || e != api.OK {
				t.Fatalf("%v and %v, less %v: %v, %v", a, b, b, back, e)
			}
			if rest, e := Sub(a, b); e == api.OK && !slices.Equal(Add(rest, b), a) {
				t.Fatalf("%v less %v, and %v: %v", a, b, b, Add(rest, b))
			}
		}
	}
}

func TestShiftedUpComesDown(t *testing.T) {
	for _, a := range samples(60) {
		for _, n := range []int{0, 1, 5, 31, 32, 33, 63, 64, 65, 1000, 100000} {
			up, _ := Shl(a, n)
			if back, e := Shr(up, n); !slices.Equal(back, a) || e != api.OK {
				t.Fatalf("%v, up and down by %d: %v, %v", a, n, back, e)
			}
			if len(a) > 0 && (Bits(up) != Bits(a)+n || Zeros(up) != Zeros(a)+n) {
				t.Fatalf("%v, up by %d: %d bits, %d noughts", a, n, Bits(up), Zeros(up))
			}
		}
	}
}

func TestSmallComesBack(t *testing.T) {
	for _, n := range []uint64{0, 1, 7, top, 1 << 32, 1<<32 + 1, 1 << 40, 1 << 62, 1<<63 - 1} {
		if back, ok := Small(Of(n)); back != n || !ok {
			t.Errorf("Small(Of(%d)): %d, %v", n, back, ok)
		}
	}
	for _, n := range []uint64{1 << 63, 1<<63 + 1, 1<<64 - 1} {
		if back, ok := Small(Of(n)); back != 0 || ok {
			t.Errorf("Small(Of(%d)): %d, %v", n, back, ok)
		}
	}
}

// 2.5 (order).

func TestCmpIsAnOrder(t *testing.T) {
	l := samples(25)
	for _, a := range l {
		for _, b := range l {
			if Cmp(a, b) != -Cmp(b, a) || (Cmp(a, b) == 0) != slices.Equal(a, b) {
				t.Fatalf("Cmp(%v, %v): %d, and %d", a, b, Cmp(a, b), Cmp(b, a))
			}
			for _, c := range l {
				if Cmp(a, b) <= 0 && Cmp(b, c) <= 0 && Cmp(a, c) > 0 {
					t.Fatalf("%v, %v, %v: in no order", a, b, c)
				}
			}
		}
	}
}

func TestSumsKeepTheOrder(t *testing.T) {
	l := samples(25)
	for _, a := range l {
		for _, b := range l {
			for _, c := range l {
				if Cmp(Add(a, c), Add(b, c)) != Cmp(a, b) {
					t.Fatalf("%v, %v, and %v onto both: another order", a, b, c)
				}
			}
			if Cmp(Add(a, b), a) != min(len(b), 1) {
				t.Fatalf("%v and %v: less than one of them", a, b)
			}
		}
	}
}

// P1, P2, and the rules.

// answers are those of all calls at the same two numbers, and a shift.
func answers(a, b api.Nat, n int) ([]api.Nat, []int) {
	made, e := Make(a...)
	rest, f := Sub(a, b)
	up, g := Shl(a, n)
	down, h := Shr(a, n)
	small, ok := Small(a)
	numbers := []api.Nat{made, rest, up, down, Add(a, b), Sum(a, b, a), Sum(a), Of(small)}
	others := []int{int(e), int(f), int(g), int(h), Cmp(a, b), Bits(a), Zeros(a), 0, 0}
	if ok {
		others[7] = 1
	}
	if May(a) {
		others[8] = 1
	}
	return numbers, others
}

// Every call ends, and none panics, at lists of limbs that are no numbers as well.
func TestEveryCallAnswers(t *testing.T) {
	l := append(samples(15), wrong...)
	for _, a := range l {
		for _, b := range l {
			for _, n := range []int{math.MinInt, -1, 0, 1, 31, 32, 33, 100000, 100001, math.MaxInt} {
				first, others := answers(a, b, n)
				again, same := answers(a, b, n)
				if !slices.EqualFunc(first, again, slices.Equal) || !slices.Equal(others, same) {
					t.Fatalf("at %v, %v, %d: twice asked, two answers", a, b, n)
				}
				for i, e := range others[:4] {
					if e != 0 && first[i] != nil {
						t.Fatalf("at %v, %v, %d: %v beside error %d", a, b, n, first[i], e)
					}
				}
			}
		}
	}
}

// What is handed in stays as it is, and what is handed out is memory of its own.
func TestMemoryIsNotShared(t *testing.T) {
	for _, a := range samples(15) {
		for _, b := range samples(15) {
			for _, n := range []int{0, 1, 32, 33} {
				room := make(api.Nat, len(a), len(a)+8) // room behind, in which nothing may be laid
				copy(room, a)
				other := slices.Clone(b)
				numbers, _ := answers(room, other, n)
				if slices.ContainsFunc(room[len(a):cap(room)], func(x uint64) bool { return x != 0 }) {
					t.Fatalf("at %v, %v, %d: something is laid behind what is handed in", a, b, n)
				}
				for i, number := range numbers {
					kept := slices.Clone(numbers[(i+1)%len(numbers)])
					for j := range number[:cap(number)] {
						number[:cap(number)][j] = 77
					}
					if !slices.Equal(room, a) || !slices.Equal(other, b) {
						t.Fatalf("at %v, %v, %d: answer %d is what is handed in", a, b, n, i)
					}
					if !slices.Equal(numbers[(i+1)%len(numbers)], kept) {
						t.Fatalf("at %v, %v, %d: answer %d is the next one", a, b, n, i)
					}
				}
			}
		}
	}
}

func TestRefusedCallsChangeNothing(t *testing.T) {
	for _, a := range samples(15) {
		for _, b := range samples(15) {
			before, others := answers(a, b, 33)
			_, e := Make(1, 1<<32)
			_, f := Sub(nil, api.Nat{1})
			_, g := Shl(a, -1)
			_, h := Shr(a, 100001)
			if e != api.ErrArg || f != api.ErrLess || g != api.ErrArg || h != api.ErrArg {
				t.Fatalf("not refused: %v, %v, %v, %v", e, f, g, h)
			}
			after, same := answers(a, b, 33)
			if !slices.EqualFunc(before, after, slices.Equal) || !slices.Equal(others, same) {
				t.Fatalf("at %v, %v other answers behind a refused call", a, b)
			}
		}
	}
}
