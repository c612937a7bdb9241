package mul

import (
	"encoding/binary"
	"math"
	"math/big"
	"slices"
	"testing"

	"trivium/api"
)

const top = 1<<32 - 1 // the greatest limb

// edges are numbers that may be, at the ends of limbs, and about the length at which Short begins to cut.
var edges = []api.Nat{
	nil, {}, {1}, {2}, {10}, {1 << 16}, {1 << 31}, {top},
	{0, 1}, {1, 1}, {top, 1}, {0, top}, {top, top}, {0, 0, 1}, {5, 0, 1}, ones(3),
	{0, 0, 0, 1}, {1, 0, 0, 1}, {0, 0, 7, 1}, {0, top, 0, top}, ones(4), {0, 0, 0, 0, 1}, ones(5), ones(6), ones(7),
}

// wrong are lists of limbs that are no numbers.
var wrong = []api.Nat{
	{0}, {0, 0, 0, 0, 0}, {7, 0}, {1, 2, 3, 4, 0}, {1, 2, 0, 0, 0, 0, 0, 0}, {1 << 32}, {1<<64 - 1},
	{5, 1 << 32}, {1, 1, 1, 1 << 32, 1 << 32}, {1 << 63, 1 << 63, 1 << 63, 1 << 63},
	{1<<64 - 1, 1<<64 - 1, 1<<64 - 1, 1<<64 - 1, 1<<64 - 1, 1<<64 - 1, 1<<64 - 1}, make(api.Nat, 400),
	slices.Repeat(api.Nat{1<<64 - 1}, 400), slices.Repeat(api.Nat{1 << 32}, 401),
}

// ones is the number of n limbs, all of them as great as can be.
func ones(n int) api.Nat { return slices.Repeat(api.Nat{top}, n) }

// drawn is a number of n limbs, for each seed above 0 another one, always the same; many of its limbs are at the ends.
func drawn(n int, seed uint64) api.Nat {
	a, x := make(api.Nat, n), seed*88172645463325252
	for i := range a {
		x ^= x << 13
		x ^= x >> 7
		x ^= x << 17
		switch x % 7 {
		case 0: // left as it is
		case 1:
			a[i] = top
		default:
			a[i] = x >> 32
		}
	}
	if n > 0 {
		a[n-1] |= 1
	}
	return a
}

// samples are the edges, and two numbers of each length up to longest.
func samples(longest int) []api.Nat {
	l := slices.Clone(edges)
	for n := 1; n <= longest; n++ {
		l = append(l, drawn(n, uint64(n)), drawn(n, uint64(n)+1000))
	}
	return l
}

// long are numbers about the lengths at which Mul begins to cut, and beyond.
func long() []api.Nat {
	var l []api.Nat
	for i, n := range []int{1, 3, 20, worth - 1, worth, worth + 1, 2 * worth, 2*worth + 1, 1000, 3203} {
		l = append(l, drawn(n, uint64(i)+1), ones(n), append(make(api.Nat, n-1), 1))
	}
	return l
}

// of is a as a number of math/big, so that nothing here reckons as the package does.
func of(a api.Nat) *big.Int {
	var l []byte
	for _, x := range slices.Backward(a) {
		l = binary.BigEndian.AppendUint32(l, uint32(x))
	}
	return new(big.Int).SetBytes(l)
}

// is tells whether a is the number n, and may be.
func is(a api.Nat, n *big.Int) bool {
	if slices.ContainsFunc(a, func(x uint64) bool { return x > top }) {
		return false
	}
	return (len(a) == 0 || a[len(a)-1] != 0) && of(a).Cmp(n) == 0
}

// sum is that of both, reckoned by math/big.
func sum(a, b api.Nat) api.Nat {
	n := new(big.Int).Add(of(a), of(b))
	var l api.Nat
	for ; n.Sign() > 0; n.Rsh(n, 32) {
		l = append(l, new(big.Int).And(n, big.NewInt(top)).Uint64())
	}
	return l
}

// way is one of the calls that multiply two numbers.
type way struct {
	name    string
	product func(a, b api.Nat) api.Nat
}

func ways() []way {
	return []way{{"Long", Long}, {"Short", Short}, {"Mul", Mul}}
}

// 3.1: Long, Short, Mul.

func TestProducts(t *testing.T) {
	for _, c := range []struct{ a, b, want api.Nat }{
		{nil, nil, nil},
		{nil, api.Nat{7}, nil},
		{api.Nat{}, ones(9), nil},
		{api.Nat{1}, ones(9), ones(9)},
		{api.Nat{6}, api.Nat{7}, api.Nat{42}},
		{api.Nat{top}, api.Nat{top}, api.Nat{1, top - 1}},
		{api.Nat{1 << 16}, api.Nat{1 << 16}, api.Nat{0, 1}},
		{api.Nat{0, 1}, api.Nat{0, 0, 7}, api.Nat{0, 0, 0, 7}},
		{api.Nat{1, 2}, api.Nat{3, 4}, api.Nat{3, 10, 8}},
		{ones(4), ones(4), api.Nat{1, 0, 0, 0, top - 1, top, top, top}},
		{ones(5), ones(3), api.Nat{1, 0, 0, top, top, top - 1, top, top}},
		{api.Nat{0, 0, 0, 0, 5}, api.Nat{0, 0, 0, 6}, api.Nat{0, 0, 0, 0, 0, 0, 0, 30}},
		{api.Nat{1, 2, 3, 4}, api.Nat{5, 6, 7, 8}, api.Nat{5, 16, 34, 60, 61, 52, 32}},
	} {
		for _, w := range ways() {
			if product := w.product(c.a, c.b); !slices.Equal(product, c.want) {
				t.Errorf("%s(%v, %v): %v, want %v", w.name, c.a, c.b, product, c.want)
			}
			if product := w.product(c.b, c.a); !slices.Equal(product, c.want) {
				t.Errorf("%s(%v, %v): %v, want %v", w.name, c.b, c.a, product, c.want)
			}
		}
	}
}

// 3.3 (one): all ways lead to the product.
func TestEachWayLeadsToTheProduct(t *testing.T) {
	for _, l := range [][]api.Nat{samples(24), long()} {
		for _, a := range l {
			for _, b := range l {
				want := new(big.Int).Mul(of(a), of(b))
				for _, w := range ways() {
					if product := w.product(a, b); !is(product, want) {
						t.Fatalf("%s(%v, %v): %v", w.name, a, b, product)
					}
				}
			}
		}
	}
}

// A product is made in memory of its own, so what is asked for grows as the number of products does.
func TestShortMakesThreeProducts(t *testing.T) {
	asked := func(w way, n int) float64 {
		a, b := drawn(n, 1), drawn(n, 2)
		return testing.AllocsPerRun(3, func() { w.product(a, b) })
	}
	long, short := ways()[0], ways()[1]
	for n := range 4 {
		if asked(short, n) != asked(long, n) {
			t.Errorf("of %d limbs Short is not Long", n)
		}
	}
	for _, n := range []int{4, 5, 6, 7} {
		if asked(short, n) <= asked(long, n) {
			t.Errorf("of %d limbs Short does not cut", n)
		}
	}
	for _, n := range []int{64, 128, 256} {
		if more := asked(short, 2*n) / asked(short, n); more < 2.5 || more > 3.5 {
			t.Errorf("of %d limbs Short makes %.2f times as many products as of %d", 2*n, more, n)
		}
	}
}

// 3.2: Small, Square, Pow, Product.

func TestSmall(t *testing.T) {
	for _, c := range []struct {
		a    api.Nat
		m, c uint64
		want api.Nat
	}{
		{api.Nat{5}, 3, 1, api.Nat{16}},
		{nil, 0, 0, nil},
		{api.Nat{}, 9, 7, api.Nat{7}},
		{nil, 9, 1<<40 + 7, api.Nat{7}},
		{nil, 9, 1 << 32, nil},
		{ones(3), 0, 0, nil},
		{ones(3), 0, 8, api.Nat{8}},
		{ones(3), 1, 0, ones(3)},
		{ones(3), 1, 1, api.Nat{0, 0, 0, 1}},
		{api.Nat{top}, top, top, api.Nat{0, top}},
		{ones(3), top, top, api.Nat{0, 0, 0, top}},
		{api.Nat{7}, 1<<32 + 2, 1<<63 + 3, api.Nat{17}},
		{api.Nat{7}, 1 << 32, 1 << 33, nil},
		{api.Nat{1, 1}, 1<<64 - 1, 1<<64 - 1, api.Nat{top - 1, 0, 1}},
	} {
		if product := Small(c.a, c.m, c.c); !slices.Equal(product, c.want) {
			t.Errorf("Small(%v, %d, %d): %v, want %v", c.a, c.m, c.c, product, c.want)
		}
	}
}

func TestSmallOfMany(t *testing.T) {
	limbs := []uint64{0, 1, 2, 10, 1 << 31, top, 1 << 32, 1<<32 + 7, 1 << 63, 1<<64 - 1, 0xdeadbeef_12345678}
	for _, a := range append(samples(10), long()...) {
		for _, m := range limbs {
			for _, c := range limbs {
				want := new(big.Int).Mul(of(a), new(big.Int).SetUint64(m&top))
				want.Add(want, new(big.Int).SetUint64(c&top))
				if product := Small(a, m, c); !is(product, want) {
					t.Fatalf("Small(%v, %d, %d): %v", a, m, c, product)
				}
			}
		}
	}
}

func TestSquare(t *testing.T) {
	for _, a := range append(samples(24), long()...) {
		if square := Square(a); !is(square, new(big.Int).Mul(of(a), of(a))) {
			t.Fatalf("Square(%v): %v", a, square)
		}
	}
}

func TestPow(t *testing.T) {
	for _, c := range []struct {
		a    api.Nat
		n    int
		want api.Nat
	}{
		{nil, 0, api.Nat{1}},
		{api.Nat{}, 0, api.Nat{1}},
		{nil, 1, nil},
		{nil, 10000, nil},
		{ones(3), 0, api.Nat{1}},
		{ones(3), 1, ones(3)},
		{api.Nat{1}, 10000, api.Nat{1}},
		{api.Nat{10}, 20, api.Nat{1661992960, 1808227885, 5}},
		{api.Nat{0, 1}, 3, api.Nat{0, 0, 0, 1}},
		{api.Nat{2}, 9999, append(make(api.Nat, 312), 1<<15)},
		{api.Nat{2}, 10000, append(make(api.Nat, 312), 1<<16)},
	} {
		if p, e := Pow(c.a, c.n); !slices.Equal(p, c.want) || e != api.OK {
			t.Errorf("Pow(%v, %d): %v, %v, want %v", c.a, c.n, p, e, c.want)
		}
	}
}

func TestPowIsTheProductOfSoMany(t *testing.T) {
	for _, a := range append(samples(6), drawn(400, 1)) {
		want := big.NewInt(1)
		for n := range 20 {
			if p, e := Pow(a, n); !is(p, want) || e != api.OK {
				t.Fatalf("Pow(%v, %d): %v, %v", a, n, p, e)
			}
			want.Mul(want, of(a))
		}
	}
	for _, a := range []api.Nat{{3}, {top}, {top, top, 1}} {
		for _, n := range []int{255, 256, 1000, 8191, 9999, 10000} {
			want := new(big.Int).Exp(of(a), big.NewInt(int64(n)), nil)
			if p, e := Pow(a, n); !is(p, want) || e != api.OK {
				t.Errorf("Pow(%v, %d): %d limbs, %v", a, n, len(p), e)
			}
		}
	}
}

func TestPowIsRefused(t *testing.T) {
	for _, a := range []api.Nat{nil, {1}, {10}, ones(4)} {
		for _, n := range []int{-1, -2, math.MinInt, 10001, 1 << 32, math.MaxInt} {
			if p, e := Pow(a, n); p != nil || e != api.ErrArg {
				t.Errorf("Pow(%v, %d): %v, %v, want %v", a, n, p, e, api.ErrArg)
			}
		}
	}
}

func TestProduct(t *testing.T) {
	for _, c := range []struct {
		l    []api.Nat
		want api.Nat
	}{
		{nil, api.Nat{1}},
		{[]api.Nat{}, api.Nat{1}},
		{[]api.Nat{nil}, nil},
		{[]api.Nat{{7}}, api.Nat{7}},
		{[]api.Nat{ones(5)}, ones(5)},
		{[]api.Nat{{6}, {7}}, api.Nat{42}},
		{[]api.Nat{{2}, {3}, {5}, {7}, {11}}, api.Nat{2310}},
		{[]api.Nat{{1}, {1}, {1}}, api.Nat{1}},
		{[]api.Nat{{3}, ones(9), {}, {4}}, nil},
		{[]api.Nat{{0, 1}, {0, 1}, {0, 0, 5}}, api.Nat{0, 0, 0, 0, 5}},
	} {
		if product := Product(c.l...); !slices.Equal(product, c.want) {
			t.Errorf("Product(%v): %v, want %v", c.l, product, c.want)
		}
	}
}

func TestProductIsThatOfAll(t *testing.T) {
	var l []api.Nat
	want := big.NewInt(1)
	for i := range uint64(90) {
		if product := Product(l...); !is(product, want) {
			t.Fatalf("of %d: %v, want %v", i, product, want)
		}
		l = append(l, drawn(int(1+i%12), i+1))
		want.Mul(want, of(l[i]))
	}
	l = nil
	for i := range uint64(20000) {
		l = append(l, api.Nat{i + 1})
	}
	if product := Product(l...); !is(product, new(big.Int).MulRange(1, 20000)) {
		t.Errorf("of 1 to 20000: %d limbs", len(product))
	}
}

// 3.4 (laws).

func TestProductsArePutTogetherInAnyOrder(t *testing.T) {
	l := append(samples(9), drawn(worth, 1), drawn(3*worth, 2))
	for _, a := range l {
		for _, b := range l {
			for _, w := range ways() {
				if !slices.Equal(w.product(a, b), w.product(b, a)) {
					t.Fatalf("%s: %v and %v: one way round is not the other", w.name, a, b)
				}
				c := l[(len(a)+2*len(b))%len(l)]
				if !slices.Equal(w.product(w.product(a, b), c), w.product(a, w.product(b, c))) {
					t.Fatalf("%s: %v, %v, %v: the first two first is not the last two first", w.name, a, b, c)
				}
				if !slices.Equal(Product(c, a, b), w.product(a, w.product(b, c))) {
					t.Fatalf("Product of %v, %v, %v is not that by %s", c, a, b, w.name)
				}
			}
		}
	}
}

func TestProductsOfSumsAreSumsOfProducts(t *testing.T) {
	l := append(samples(9), drawn(worth, 1), drawn(3*worth, 2))
	for _, a := range l {
		for _, b := range l {
			c := l[(3*len(a)+len(b))%len(l)]
			for _, w := range ways() {
				if !slices.Equal(w.product(a, sum(b, c)), sum(w.product(a, b), w.product(a, c))) {
					t.Fatalf("%s: %v times the sum of %v and %v: not the sum of both products", w.name, a, b, c)
				}
			}
		}
	}
}

func TestPowersArePutTogether(t *testing.T) {
	for _, a := range samples(6) {
		for _, n := range []int{0, 1, 2, 3, 7, 16} {
			for _, m := range []int{0, 1, 5, 12} {
				p, _ := Pow(a, n)
				q, _ := Pow(a, m)
				both, _ := Pow(a, n+m)
				if !slices.Equal(Mul(p, q), both) {
					t.Fatalf("%v to the %d, and to the %d: not to the %d", a, n, m, n+m)
				}
			}
		}
	}
}

// P1, P2, and the rules.

// answers are those of all calls at the same two numbers, and the same power.
func answers(a, b api.Nat, n int) ([]api.Nat, api.Errno) {
	p, e := Pow(a, n)
	return []api.Nat{
		p, Long(a, b), Short(a, b), Mul(a, b), Small(a, 1, 0), Small(a, uint64(n), uint64(n)), Square(a),
		Product(), Product(a), Product(a, b), Product(b, a, b),
	}, e
}

// Every call ends, and none panics, at lists of limbs that are no numbers as well.
func TestEveryCallAnswers(t *testing.T) {
	l := append(samples(6), wrong...)
	for _, a := range l {
		for _, b := range l {
			for _, n := range []int{math.MinInt, -1, 0, 1, 2, 5, 10001, math.MaxInt} {
				first, e := answers(a, b, n)
				again, same := answers(a, b, n)
				if !slices.EqualFunc(first, again, slices.Equal) || e != same {
					t.Fatalf("at %v, %v, %d: twice asked, two answers", a, b, n)
				}
				if e != api.OK && first[0] != nil {
					t.Fatalf("at %v, %v, %d: %v beside error %d", a, b, n, first[0], e)
				}
			}
		}
	}
}

// What is handed in stays as it is, and what is handed out is memory of its own.
func TestMemoryIsNotShared(t *testing.T) {
	for _, a := range append(samples(6), drawn(worth, 1), drawn(2*worth, 2)) {
		for _, b := range append(samples(6), drawn(worth+1, 3)) {
			room := append(make(api.Nat, 0, len(a)+8), a...) // room behind, in which nothing may be laid
			other := slices.Clone(b)
			numbers, _ := answers(room, other, 1)
			if slices.ContainsFunc(room[len(a):cap(room)], func(x uint64) bool { return x != 0 }) {
				t.Fatalf("at %v, %v: something is laid behind what is handed in", a, b)
			}
			for i, number := range numbers {
				next := numbers[(i+1)%len(numbers)]
				kept := slices.Clone(next)
				for j := range number[:cap(number)] {
					number[:cap(number)][j] = 77
				}
				if !slices.Equal(room, a) || !slices.Equal(other, b) {
					t.Fatalf("at %v, %v: answer %d is what is handed in", a, b, i)
				}
				if !slices.Equal(next, kept) {
					t.Fatalf("at %v, %v: answer %d is the next one", a, b, i)
				}
			}
		}
	}
}

func TestRefusedCallsChangeNothing(t *testing.T) {
	for _, a := range samples(6) {
		for _, b := range samples(3) {
			before, _ := answers(a, b, 3)
			_, e := Pow(a, -1)
			_, f := Pow(b, 10001)
			if e != api.ErrArg || f != api.ErrArg {
				t.Fatalf("not refused: %v, %v", e, f)
			}
			if after, _ := answers(a, b, 3); !slices.EqualFunc(before, after, slices.Equal) {
				t.Fatalf("at %v, %v: other answers behind a refused call", a, b)
			}
		}
	}
}
