package divide

import (
	"encoding/binary"
	"math/big"
	"slices"
	"testing"

	"trivium/api"
	"trivium/limb"
)

const top = 1<<32 - 1 // the greatest limb

// edges are numbers that may be, at the ends of limbs, and those of which a guess is wrong.
var edges = []api.Nat{
	nil, {}, {1}, {2}, {3}, {10}, {1 << 16}, {1<<31 - 1}, {1 << 31}, {top - 1}, {top},
	{0, 1}, {1, 1}, {top, 1}, {0, 1 << 31}, {top, 1 << 31}, {1, 1 << 31}, {0, top}, {top, top}, {top - 1, top},
	{0, 0, 1}, {5, 0, 1}, {0, 0, 1 << 31}, {1, 0, 1 << 31}, {0, top, 1 << 31}, {top, top, 1<<31 - 1}, ones(3),
	{3, 0, 1 << 31}, {1, 0, 1 << 29}, {0, 0, 1 << 31, 1<<31 - 1}, {0, top - 1, 1 << 31}, {top, 0, 1 << 31},
	{0, 0, 0, 1}, {0, 0, 7, 1}, {0, top, 0, top}, {top, 0, top, top}, ones(4), {0, 0, 0, 0, 1}, ones(7),
}

// wrong are lists of limbs that are no numbers.
var wrong = []api.Nat{
	{0}, {0, 0, 0, 0, 0}, {7, 0}, {1, 2, 3, 4, 0}, {1, 2, 0, 0, 0, 0, 0, 0}, {1 << 32}, {1<<64 - 1}, {0, 1 << 32},
	{5, 1 << 32}, {5, 1 << 63}, {1, 1, 1, 1 << 32, 1 << 32}, {1 << 63, 1 << 63, 1 << 63, 1 << 63}, {top, 1<<33 + 1},
	slices.Repeat(api.Nat{1<<64 - 1}, 7), make(api.Nat, 40), slices.Repeat(api.Nat{1<<64 - 1}, 40),
	slices.Repeat(api.Nat{1 << 32}, 41), append(make(api.Nat, 9), 1<<32), append(ones(9), 0, 0),
}

// ones is the number of n limbs, all of them as great as can be.
func ones(n int) api.Nat { return slices.Repeat(api.Nat{top}, n) }

// drawn is a number of n limbs, for each seed above 0 another one, always the same; many of its limbs are at the ends.
func drawn(n int, seed uint64) api.Nat {
	a, x := make(api.Nat, n), seed*88172645463325252
	for i := range a {
		x ^= x << 13
		x ^= x >> 7
		x ^= x << 17
		switch x % 7 {
		case 0: // left as it is
		case 1:
			a[i] = top
		case 2:
			a[i] = 1 << 31
		default:
			a[i] = x >> 32
		}
	}
	if n > 0 {
		a[n-1] = max(a[n-1], 1)
	}
	return a
}

// samples are the edges, and three numbers of each length up to longest.
func samples(longest int) []api.Nat {
	l := slices.Clone(edges)
	for n := 1; n <= longest; n++ {
		for i := range uint64(3) {
			l = append(l, drawn(n, uint64(n)+1000*i))
		}
	}
	return l
}

// of is a as a number of math/big, so that nothing here reckons as the package does.
func of(a api.Nat) *big.Int {
	var l []byte
	for _, x := range slices.Backward(a) {
		l = binary.BigEndian.AppendUint32(l, uint32(x))
	}
	return new(big.Int).SetBytes(l)
}

// back is the number n of math/big as it may be here.
func back(n *big.Int) api.Nat {
	var a api.Nat
	for n = new(big.Int).Set(n); n.Sign() > 0; n.Rsh(n, 32) {
		a = append(a, new(big.Int).And(n, big.NewInt(top)).Uint64())
	}
	return a
}

// is tells whether a is the number n, and may be.
func is(a api.Nat, n *big.Int) bool {
	if slices.ContainsFunc(a, func(x uint64) bool { return x > top }) {
		return false
	}
	return (len(a) == 0 || a[len(a)-1] != 0) && of(a).Cmp(n) == 0
}

// way is one of the calls that divide two numbers.
type way struct {
	name   string
	divide func(a, b api.Nat) (api.Nat, api.Nat, api.Errno)
}

func ways() []way { return []way{{"Div", Div}, {"Plain", Plain}} }

// 4.1: Div, Plain.

func TestQuotients(t *testing.T) {
	for _, c := range []struct{ a, b, quotient, left api.Nat }{
		{api.Nat{7}, api.Nat{2}, api.Nat{3}, api.Nat{1}},
		{nil, api.Nat{1}, nil, nil},
		{api.Nat{}, ones(5), nil, nil},
		{api.Nat{6}, api.Nat{7}, nil, api.Nat{6}},
		{api.Nat{7}, api.Nat{7}, api.Nat{1}, nil},
		{api.Nat{8}, api.Nat{7}, api.Nat{1}, api.Nat{1}},
		{ones(5), api.Nat{1}, ones(5), nil},
		{ones(5), ones(5), api.Nat{1}, nil},
		{ones(4), ones(5), nil, ones(4)},
		{api.Nat{0, 1}, api.Nat{1, 1}, nil, api.Nat{0, 1}},
		{api.Nat{1, 1}, api.Nat{0, 1}, api.Nat{1}, api.Nat{1}},
		{api.Nat{0, 0, 1}, api.Nat{top}, api.Nat{1, 1}, api.Nat{1}},
		{api.Nat{5, 0, 1}, api.Nat{0, 1}, api.Nat{0, 1}, api.Nat{5}},
		{ones(6), ones(2), api.Nat{1, 0, 1, 0, 1}, nil},
		{ones(6), ones(3), api.Nat{1, 0, 0, 1}, nil},
		{api.Nat{0, top, top, top}, api.Nat{1, top, top}, api.Nat{0, 1}, api.Nat{0, top - 1}},
		{api.Nat{top - 1, top, top, top - 1}, ones(3), api.Nat{top}, api.Nat{top - 2}},
		// The highest limbs are the same: the greatest limb is guessed.
		{api.Nat{top, top, 1<<31 - 1}, api.Nat{0, 1 << 31}, api.Nat{top}, api.Nat{top, 1<<31 - 1}},
		{api.Nat{0, 0, 1 << 31}, api.Nat{1, 1 << 31}, api.Nat{top}, api.Nat{1, 1<<31 - 1}},
		{api.Nat{0, 0, 1 << 31}, api.Nat{top, 1 << 31}, api.Nat{top - 1}, api.Nat{top - 1, 2}},
		// A guess from two limbs of the divisor is one too much.
		{api.Nat{0, 0, 1 << 31, 1<<31 - 1}, api.Nat{1, 0, 1 << 31}, api.Nat{top - 1}, api.Nat{2, top, 1<<31 - 1}},
		{api.Nat{0, top - 1, 1 << 31}, api.Nat{top, 1 << 31}, api.Nat{top}, api.Nat{top, 1<<31 - 1}},
		{api.Nat{3, 0, 1 << 31}, api.Nat{1, 0, 1 << 29}, api.Nat{3}, api.Nat{0, 0, 1 << 29}},
	} {
		for _, w := range ways() {
			if q, r, e := w.divide(c.a, c.b); !slices.Equal(q, c.quotient) || !slices.Equal(r, c.left) || e != api.OK {
				t.Errorf("%s(%v, %v): %v, %v, %v, want %v, %v", w.name, c.a, c.b, q, r, e, c.quotient, c.left)
			}
		}
	}
}

// 4.4 (one): both ways lead to the quotient, and to what is left.
func TestEachWayLeadsToTheQuotient(t *testing.T) {
	l := samples(9)
	for _, b := range l {
		if len(b) == 0 {
			continue
		}
		for _, a := range l {
			quotient, left := new(big.Int).QuoRem(of(a), of(b), new(big.Int))
			for _, w := range ways() {
				if q, r, e := w.divide(a, b); !is(q, quotient) || !is(r, left) || e != api.OK {
					t.Fatalf("%s(%v, %v): %v, %v, %v, want %v, %v", w.name, a, b, q, r, e, quotient, left)
				}
			}
		}
	}
}

func TestLongNumbers(t *testing.T) {
	var l []api.Nat
	for i, n := range []int{1, 2, 3, 31, 100, 199, 400} {
		l = append(l, drawn(n, uint64(i)+1), ones(n), append(make(api.Nat, n-1), 1), append(ones(n-1), 1<<31))
	}
	for _, a := range l {
		for _, b := range l {
			quotient, left := new(big.Int).QuoRem(of(a), of(b), new(big.Int))
			if q, r, e := Div(a, b); !is(q, quotient) || !is(r, left) || e != api.OK {
				t.Fatalf("Div(%v, %v): %v, %v, %v", a, b, q, r, e)
			}
		}
	}
	a, b := drawn(300, 1), drawn(120, 2)
	quotient, left := new(big.Int).QuoRem(of(a), of(b), new(big.Int))
	if q, r, e := Plain(a, b); !is(q, quotient) || !is(r, left) || e != api.OK {
		t.Errorf("Plain of 300 limbs by 120: %v, %v, %v", q, r, e)
	}
}

// A quotient just below a whole one, and at it: there a guess is wrong most often.
func TestNeighboursOfProducts(t *testing.T) {
	l := samples(6)
	for _, b := range l {
		if len(b) == 0 {
			continue
		}
		for _, c := range l {
			product := new(big.Int).Mul(of(b), of(c))
			for _, more := range []int64{-2, -1, 0, 1} {
				n := new(big.Int).Add(product, big.NewInt(more))
				if n.Sign() < 0 {
					continue
				}
				quotient, left := new(big.Int).QuoRem(n, of(b), new(big.Int))
				if q, r, e := Div(back(n), b); !is(q, quotient) || !is(r, left) || e != api.OK {
					t.Fatalf("Div(%v, %v): %v, %v, %v, want %v, %v", n, b, q, r, e, quotient, left)
				}
			}
		}
	}
}

// A guess from the highest limbs is the limb of the quotient, or one too much, and both come up.
func TestGuessesArePutRight(t *testing.T) {
	right, more := 0, 0
	for _, b := range samples(6) {
		if len(b) < 2 || limb.Bits(b[len(b)-1]) < 32 {
			continue
		}
		for i := range uint64(200) {
			left := new(big.Int).Mod(of(drawn(len(b)+1, i+1)), of(b))
			part := new(big.Int).Lsh(left, 32)
			part.Add(part, of(drawn(1, i+5)))
			quotient, rest := new(big.Int).QuoRem(part, of(b), new(big.Int))
			limbs := make(api.Nat, len(b)+1)
			copy(limbs, back(part))
			guessed := guess(limbs, b)
			switch {
			case guessed == quotient.Uint64():
				right++
			case guessed == quotient.Uint64()+1:
				more++
			default:
				t.Fatalf("%v by %v: guessed %d, want %v", limbs, b, guessed, quotient)
			}
			if times := step(limbs, b); times != quotient.Uint64() || of(limbs).Cmp(rest) != 0 {
				t.Fatalf("%v by %v: %d, want %v", part, b, times, quotient)
			}
		}
	}
	if right == 0 || more == 0 {
		t.Errorf("%d guesses are right, %d one too much", right, more)
	}
}

// What is left is laid into new memory bit by bit by Plain, and in one piece by Div.
func TestDivGoesByLimbsAndPlainByBits(t *testing.T) {
	asked := func(w way, n int) float64 {
		a, b := drawn(n, 1), ones(9)
		return testing.AllocsPerRun(3, func() { w.divide(a, b) })
	}
	for _, n := range []int{30, 60, 120} {
		if asked(ways()[0], 2*n) != asked(ways()[0], n) {
			t.Errorf("of %d limbs Div does not divide in one piece", 2*n)
		}
		if bits := float64(32 * n); asked(ways()[1], 2*n)-asked(ways()[1], n) < bits {
			t.Errorf("of %d limbs Plain does not go by bits", 2*n)
		}
	}
}

// 4.1: Small.

func TestSmall(t *testing.T) {
	for _, c := range []struct {
		a        api.Nat
		d        uint64
		quotient api.Nat
		left     uint64
	}{
		{api.Nat{7}, 2, api.Nat{3}, 1},
		{nil, 1, nil, 0},
		{api.Nat{}, top, nil, 0},
		{api.Nat{6}, 7, nil, 6},
		{api.Nat{7}, 7, api.Nat{1}, 0},
		{api.Nat{1, 1}, 10, api.Nat{429496729}, 7},
		{ones(3), 1, ones(3), 0},
		{ones(3), top, api.Nat{1, 1, 1}, 0},
		{ones(3), top - 1, api.Nat{4, 2, 1}, 7},
		{api.Nat{0, 1}, 1 << 31, api.Nat{2}, 0},
		{api.Nat{5, 0, 6}, 3, api.Nat{1, 0, 2}, 2},
		{api.Nat{7}, 1<<32 + 2, api.Nat{3}, 1},
		{api.Nat{1, 1}, 1<<64 - 1<<32 + 10, api.Nat{429496729}, 7},
		{ones(2), 1<<64 - 1, api.Nat{1, 1}, 0},
	} {
		if q, r, e := Small(c.a, c.d); !slices.Equal(q, c.quotient) || r != c.left || e != api.OK {
			t.Errorf("Small(%v, %d): %v, %d, %v, want %v, %d", c.a, c.d, q, r, e, c.quotient, c.left)
		}
	}
}

func TestSmallOfMany(t *testing.T) {
	for _, a := range append(samples(12), drawn(500, 1)) {
		for _, d := range []uint64{1, 2, 3, 10, 1 << 16, 1 << 31, top - 1, top, 1<<32 + 7, 1<<63 + 1<<31, 1<<64 - 1, 0xdeadbeef_12345678} {
			quotient, left := new(big.Int).QuoRem(of(a), new(big.Int).SetUint64(d&top), new(big.Int))
			if q, r, e := Small(a, d); !is(q, quotient) || r != left.Uint64() || e != api.OK {
				t.Fatalf("Small(%v, %d): %v, %d, %v, want %v, %v", a, d, q, r, e, quotient, left)
			}
		}
	}
}

// 4.1, 4.2: ErrZero.

func TestDivisionsByZeroAreRefused(t *testing.T) {
	for _, a := range samples(3) {
		for _, zero := range []api.Nat{nil, {}} {
			for _, w := range ways() {
				if q, r, e := w.divide(a, zero); q != nil || r != nil || e != api.ErrZero {
					t.Errorf("%s(%v, 0): %v, %v, %v, want %v", w.name, a, q, r, e, api.ErrZero)
				}
			}
			if q, e := Exact(a, zero); q != nil || e != api.ErrZero {
				t.Errorf("Exact(%v, 0): %v, %v, want %v", a, q, e, api.ErrZero)
			}
			if r, e := Mod(a, zero); r != nil || e != api.ErrZero {
				t.Errorf("Mod(%v, 0): %v, %v, want %v", a, r, e, api.ErrZero)
			}
		}
		for _, zero := range []uint64{0, 1 << 32, 1 << 63, 1<<64 - 1<<32} {
			if q, r, e := Small(a, zero); q != nil || r != 0 || e != api.ErrZero {
				t.Errorf("Small(%v, %d): %v, %d, %v, want %v", a, zero, q, r, e, api.ErrZero)
			}
		}
	}
}

// 4.2: Exact, Mod, Divides.

func TestExact(t *testing.T) {
	for _, c := range []struct {
		a, b, want api.Nat
		e          api.Errno
	}{
		{api.Nat{0, 6}, api.Nat{3}, api.Nat{0, 2}, api.OK},
		{nil, api.Nat{7}, nil, api.OK},
		{nil, ones(4), nil, api.OK},
		{ones(4), ones(4), api.Nat{1}, api.OK},
		{ones(6), ones(2), api.Nat{1, 0, 1, 0, 1}, api.OK},
		{ones(4), api.Nat{1}, ones(4), api.OK},
		{api.Nat{7}, api.Nat{2}, nil, api.ErrRest},
		{api.Nat{2}, api.Nat{7}, nil, api.ErrRest},
		{api.Nat{1}, ones(4), nil, api.ErrRest},
		{api.Nat{0, 0, 1}, ones(2), nil, api.ErrRest},
		{api.Nat{1, 0, 1}, api.Nat{0, 1}, nil, api.ErrRest},
	} {
		if q, e := Exact(c.a, c.b); !slices.Equal(q, c.want) || e != c.e {
			t.Errorf("Exact(%v, %v): %v, %v, want %v, %v", c.a, c.b, q, e, c.want, c.e)
		}
	}
}

func TestMod(t *testing.T) {
	for _, c := range []struct{ a, b, want api.Nat }{
		{api.Nat{7}, api.Nat{2}, api.Nat{1}},
		{nil, api.Nat{7}, nil},
		{api.Nat{7}, api.Nat{7}, nil},
		{api.Nat{7}, ones(4), api.Nat{7}},
		{ones(6), ones(2), nil},
		{api.Nat{0, 0, 1}, ones(2), api.Nat{1}},
		{api.Nat{5, 6, 7}, api.Nat{0, 1}, api.Nat{5}},
		{api.Nat{5, 6, 7}, api.Nat{0, 0, 1}, api.Nat{5, 6}},
	} {
		if r, e := Mod(c.a, c.b); !slices.Equal(r, c.want) || e != api.OK {
			t.Errorf("Mod(%v, %v): %v, %v, want %v", c.a, c.b, r, e, c.want)
		}
	}
}

func TestDivides(t *testing.T) {
	for _, c := range []struct {
		a, b api.Nat
		want bool
	}{
		{nil, nil, true},
		{api.Nat{}, nil, true},
		{nil, api.Nat{1}, false},
		{nil, ones(3), false},
		{api.Nat{1}, nil, true},
		{ones(3), nil, true},
		{api.Nat{1}, ones(3), true},
		{api.Nat{3}, api.Nat{0, 3}, true},
		{api.Nat{0, 3}, api.Nat{3}, false},
		{api.Nat{2}, api.Nat{7}, false},
		{api.Nat{7}, api.Nat{7}, true},
		{ones(2), ones(6), true},
		{ones(6), ones(2), false},
		{ones(2), ones(5), false},
		{api.Nat{0, 1}, api.Nat{0, 0, 9}, true},
		{api.Nat{0, 1}, api.Nat{1, 0, 9}, false},
	} {
		if is := Divides(c.a, c.b); is != c.want {
			t.Errorf("Divides(%v, %v): %v", c.a, c.b, is)
		}
	}
}

func TestExactModAndDividesOfMany(t *testing.T) {
	l := samples(6)
	for _, b := range l {
		if len(b) == 0 {
			continue
		}
		for _, a := range l {
			left := new(big.Int).Rem(of(a), of(b))
			if r, e := Mod(a, b); !is(r, left) || e != api.OK {
				t.Fatalf("Mod(%v, %v): %v, %v, want %v", a, b, r, e, left)
			}
			if Divides(b, a) != (left.Sign() == 0) {
				t.Fatalf("Divides(%v, %v), where %v is left", b, a, left)
			}
			if q, e := Exact(a, b); left.Sign() != 0 && (q != nil || e != api.ErrRest) {
				t.Fatalf("Exact(%v, %v): %v, %v, where %v is left", a, b, q, e, left)
			}
			product := back(new(big.Int).Mul(of(a), of(b)))
			if q, e := Exact(product, b); !slices.Equal(q, a) || e != api.OK || !Divides(b, product) {
				t.Fatalf("Exact(%v, %v): %v, %v, want %v", product, b, q, e, a)
			}
		}
	}
}

// 4.3 (whole).

func TestTheQuotientMakesTheWhole(t *testing.T) {
	l := samples(9)
	for _, b := range l {
		if len(b) == 0 {
			continue
		}
		for _, a := range l {
			for _, w := range ways() {
				q, r, e := w.divide(a, b)
				whole := new(big.Int).Mul(of(q), of(b))
				if e != api.OK || whole.Add(whole, of(r)).Cmp(of(a)) != 0 || of(r).Cmp(of(b)) >= 0 {
					t.Fatalf("%s(%v, %v): %v, %v, %v, which do not make the whole", w.name, a, b, q, r, e)
				}
			}
			q, r, e := Small(a, b[0])
			if b[0] == 0 {
				continue
			}
			whole := new(big.Int).Mul(of(q), of(b[:1]))
			if e != api.OK || whole.Add(whole, of(api.Nat{r})).Cmp(of(a)) != 0 || r >= b[0] {
				t.Fatalf("Small(%v, %d): %v, %d, %v, which do not make the whole", a, b[0], q, r, e)
			}
		}
	}
}

// P1, P2, and the rules.

// told are the answers of all calls at the same two numbers.
type told struct {
	numbers []api.Nat
	errors  [6]api.Errno
	divides bool
}

func answers(a, b api.Nat) told {
	d := uint64(0)
	if len(b) > 0 {
		d = b[0]
	}
	l, n := told{numbers: make([]api.Nat, 7)}, uint64(0)
	l.numbers[0], l.numbers[1], l.errors[0] = Div(a, b)
	l.numbers[2], l.numbers[3], l.errors[1] = Plain(a, b)
	l.numbers[4], n, l.errors[2] = Small(a, d)
	l.numbers[5], l.errors[3] = Exact(a, b)
	l.numbers[6], l.errors[4] = Mod(a, b)
	l.divides = Divides(a, b)
	l.errors[5] = api.Errno(n)
	return l
}

func same(a, b told) bool {
	return slices.EqualFunc(a.numbers, b.numbers, slices.Equal) && a.errors == b.errors && a.divides == b.divides
}

// Every call ends, and none panics, at lists of limbs that are no numbers as well; with an error all else is nothing.
func TestEveryCallAnswers(t *testing.T) {
	l := append(samples(6), wrong...)
	for _, a := range l {
		for _, b := range l {
			first := answers(a, b)
			if !same(first, answers(a, b)) {
				t.Fatalf("at %v, %v: twice asked, two answers", a, b)
			}
			for i, of := range [][]int{{0, 1}, {2, 3}, {4}, {5}, {6}} {
				for _, n := range of {
					if first.errors[i] != api.OK && first.numbers[n] != nil {
						t.Fatalf("at %v, %v: %v beside error %d", a, b, first.numbers[n], first.errors[i])
					}
				}
			}
		}
	}
}

// What is handed in stays as it is, and what is handed out is memory of its own.
func TestMemoryIsNotShared(t *testing.T) {
	for _, a := range samples(6) {
		for _, b := range samples(4) {
			room := append(make(api.Nat, 0, len(a)+8), a...) // room behind, in which nothing may be laid
			other := append(make(api.Nat, 0, len(b)+8), b...)
			numbers := answers(room, other).numbers
			behind := slices.Concat(room[len(a):cap(room)], other[len(b):cap(other)])
			if slices.ContainsFunc(behind, func(x uint64) bool { return x != 0 }) {
				t.Fatalf("at %v, %v: something is laid behind what is handed in", a, b)
			}
			for i, number := range numbers {
				next := numbers[(i+1)%len(numbers)]
				kept := slices.Clone(next)
				for j := range number[:cap(number)] {
					number[:cap(number)][j] = 77
				}
				if !slices.Equal(room, a) || !slices.Equal(other, b) {
					t.Fatalf("at %v, %v: answer %d is what is handed in", a, b, i)
				}
				if !slices.Equal(next, kept) {
					t.Fatalf("at %v, %v: answer %d is the next one", a, b, i)
				}
			}
		}
	}
}

// One number handed in twice is no worse than two.
func TestANumberByItself(t *testing.T) {
	for _, a := range samples(9) {
		if len(a) == 0 {
			continue
		}
		kept := slices.Clone(a)
		for _, w := range ways() {
			if q, r, e := w.divide(a, a); !slices.Equal(q, api.Nat{1}) || len(r) != 0 || e != api.OK {
				t.Fatalf("%s(%v, %v): %v, %v, %v", w.name, a, a, q, r, e)
			}
		}
		if q, e := Exact(a, a); !slices.Equal(q, api.Nat{1}) || e != api.OK || !Divides(a, a) {
			t.Fatalf("Exact(%v, %v): %v, %v", a, a, q, e)
		}
		if !slices.Equal(a, kept) {
			t.Fatalf("%v is changed to %v", kept, a)
		}
	}
}

func TestRefusedCallsChangeNothing(t *testing.T) {
	for _, a := range samples(4) {
		for _, b := range samples(2) {
			before := answers(a, b)
			_, _, zero := Div(a, nil)
			_, _, plain := Plain(a, nil)
			_, _, small := Small(a, 0)
			_, exact := Exact(a, nil)
			_, rest := Exact(api.Nat{1, 1}, api.Nat{0, 1})
			_, mod := Mod(a, nil)
			if got := [6]api.Errno{zero, plain, small, exact, rest, mod}; got != [6]api.Errno{api.ErrZero, api.ErrZero, api.ErrZero, api.ErrZero, api.ErrRest, api.ErrZero} {
				t.Fatalf("not refused: %v", got)
			}
			if !same(before, answers(a, b)) {
				t.Fatalf("at %v, %v: other answers behind a refused call", a, b)
			}
		}
	}
}
