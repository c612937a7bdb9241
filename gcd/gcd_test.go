package gcd

import (
	"encoding/binary"
	"math/big"
	"slices"
	"testing"

	"trivium/api"
)

const top = 1<<32 - 1 // the greatest limb

// edges are numbers that may be, at the ends of limbs.
var edges = []api.Nat{
	nil, {}, {1}, {2}, {3}, {6}, {1 << 16}, {1 << 31}, {top - 1}, {top},
	{0, 1}, {1, 1}, {top, 1}, {0, 6}, {0, 1 << 31}, {1, 1 << 31}, {0, top}, {top, top}, {top - 1, top},
	{0, 0, 1}, {5, 0, 1}, {0, 0, 3}, {0, 0, 1 << 31}, {0, top, 1 << 31}, ones(3),
	{0, 0, 0, 1}, {0, 0, 7, 1}, {top, 0, top, top}, ones(4), {0, 0, 0, 0, 1}, ones(6),
}

// wrong are lists of limbs that are no numbers.
var wrong = []api.Nat{
	{0}, {0, 0, 0, 0, 0}, {7, 0}, {6, 0, 0, 0}, {1, 2, 3, 4, 0}, {1 << 32}, {1<<64 - 1}, {1 << 63}, {0, 1 << 32},
	{5, 1 << 32}, {5, 1 << 63}, {6, 1<<33 + 2}, {1, 1, 1, 1 << 32, 1 << 32}, slices.Repeat(api.Nat{1 << 63}, 4),
	slices.Repeat(api.Nat{1<<64 - 1}, 7), make(api.Nat, 40), slices.Repeat(api.Nat{1 << 32}, 41),
	append(make(api.Nat, 9), 1<<32), append(ones(9), 0, 0), append(make(api.Nat, 3200), 0), append(make(api.Nat, 3200), 1<<40),
}

// ones is the number of n limbs, all of them as great as can be.
func ones(n int) api.Nat { return slices.Repeat(api.Nat{top}, n) }

// drawn is a number of n limbs, for each seed above 0 another one, always the same; many of its limbs are at the ends.
func drawn(n int, seed uint64) api.Nat {
	a, x := make(api.Nat, n), seed*88172645463325252
	for i := range a {
		x ^= x << 13
		x ^= x >> 7
		x ^= x << 17
		switch x % 7 {
		case 0: // left as it is
		case 1:
			a[i] = top
		case 2:
			a[i] = 1 << 31
		default:
			a[i] = x >> 32
		}
	}
	if n > 0 {
		a[n-1] = max(a[n-1], 1)
	}
	return a
}

// samples are the edges, two numbers of each length up to longest, and some with much in common.
func samples(longest int) []api.Nat {
	l := slices.Clone(edges)
	for n := 1; n <= longest; n++ {
		for i := range uint64(2) {
			l = append(l, drawn(n, uint64(n)+1000*i))
		}
		common := of(drawn(n, 5))
		for _, times := range []int64{12, 18, 35, 1 << 40} {
			l = append(l, back(new(big.Int).Mul(common, big.NewInt(times))))
		}
	}
	return l
}

// of is a as a number of math/big, so that nothing here reckons as the package does.
func of(a api.Nat) *big.Int {
	var l []byte
	for _, x := range slices.Backward(a) {
		l = binary.BigEndian.AppendUint32(l, uint32(x))
	}
	return new(big.Int).SetBytes(l)
}

// back is the number n of math/big as it may be here.
func back(n *big.Int) api.Nat {
	var a api.Nat
	for n = new(big.Int).Set(n); n.Sign() > 0; n.Rsh(n, 32) {
		a = append(a, new(big.Int).And(n, big.NewInt(top)).Uint64())
	}
	return a
}

// is tells whether a is the number n, and may be.
func is(a api.Nat, n *big.Int) bool {
	if slices.ContainsFunc(a, func(x uint64) bool { return x > top }) {
		return false
	}
	return (len(a) == 0 || a[len(a)-1] != 0) && of(a).Cmp(n) == 0
}

// divisor is the greatest common divisor, as math/big has it.
func divisor(a, b api.Nat) *big.Int { return new(big.Int).GCD(nil, nil, of(a), of(b)) }

// above is a with n limbs of 0 below it.
func above(n int, a ...uint64) api.Nat { return append(make(api.Nat, n), a...) }

// way is one of the calls that lead to the divisor of two numbers.
type way struct {
	name    string
	divisor func(a, b api.Nat) api.Nat
}

func ways() []way {
	return []way{{"Euclid", Euclid}, {"Binary", Binary}, {"Gcd", func(a, b api.Nat) api.Nat { return Gcd(a, b) }}}
}

// 5.1: Euclid, Binary, and Gcd of two.

func TestDivisors(t *testing.T) {
	for _, c := range []struct{ a, b, want api.Nat }{
		{api.Nat{12}, api.Nat{18}, api.Nat{6}},
		{nil, nil, nil},
		{api.Nat{}, nil, nil},
		{nil, api.Nat{8}, api.Nat{8}},
		{nil, api.Nat{1}, api.Nat{1}},
		{nil, ones(5), ones(5)},
		{api.Nat{}, api.Nat{0, 0, 6}, api.Nat{0, 0, 6}},
		{api.Nat{1}, api.Nat{1}, api.Nat{1}},
		{api.Nat{1}, ones(5), api.Nat{1}},
		{api.Nat{7}, api.Nat{7}, api.Nat{7}},
		{api.Nat{35}, api.Nat{22}, api.Nat{1}},
		{api.Nat{2}, api.Nat{4}, api.Nat{2}},
		{api.Nat{1 << 31}, api.Nat{0, 1}, api.Nat{1 << 31}},
		{api.Nat{0, 1}, api.Nat{0, 1 << 31}, api.Nat{0, 1}},
		{api.Nat{0, 0, 3}, api.Nat{0, 6}, api.Nat{0, 6}},
		{api.Nat{0, 0, 9}, api.Nat{0, 6}, api.Nat{0, 6}},
		{api.Nat{0, 0, 2}, api.Nat{0, 0, 3}, api.Nat{0, 0, 1}},
		{api.Nat{0, 1}, api.Nat{1, 1}, api.Nat{1}},
		{ones(6), ones(4), ones(2)},
		{ones(6), ones(5), ones(1)},
		{ones(5), ones(5), ones(5)},
		{ones(4), api.Nat{15}, api.Nat{15}},
		{api.Nat{210, 210}, api.Nat{132, 132}, api.Nat{6, 6}},
	} {
		for _, w := range ways() {
			if g := w.divisor(c.a, c.b); !slices.Equal(g, c.want) {
				t.Errorf("%s(%v, %v): %v, want %v", w.name, c.a, c.b, g, c.want)
			}
			if g := w.divisor(c.b, c.a); !slices.Equal(g, c.want) {
				t.Errorf("%s(%v, %v): %v, want %v", w.name, c.b, c.a, g, c.want)
			}
		}
	}
}

// 5.4 (one): each way leads to the number.
func TestEachWayLeadsToTheDivisor(t *testing.T) {
	l := samples(8)
	for _, a := range l {
		for _, b := range l {
			want := divisor(a, b)
			for _, w := range ways() {
				if g := w.divisor(a, b); !is(g, want) {
					t.Fatalf("%s(%v, %v): %v, want %v", w.name, a, b, g, want)
				}
			}
		}
	}
}

func TestLongNumbers(t *testing.T) {
	common := of(drawn(40, 9))
	l := []api.Nat{drawn(1, 1), drawn(70, 2), ones(64), ones(96), above(50, 1), above(60, 7, 1<<31), back(common)}
	for i := range uint64(3) {
		l = append(l, back(new(big.Int).Mul(common, of(drawn(30, 11+i)))))
	}
	for _, a := range l {
		for _, b := range l {
			want := divisor(a, b)
			for _, w := range ways() {
				if g := w.divisor(a, b); !is(g, want) {
					t.Fatalf("%s(%v, %v): %v, want %v", w.name, a, b, g, want)
				}
			}
		}
	}
}

// A number may be halved more often than one shift goes.
func TestMoreTwosThanAShiftTakes(t *testing.T) {
	for _, c := range []struct{ a, b, want api.Nat }{
		{above(3200, 12), above(3130, 18), above(3130, 6)},
		{above(3125, 2), above(3125, 2), above(3125, 2)},
		{above(3125, 2), above(3124, 1<<31), above(3124, 1<<31)},
		{above(3300, 5), api.Nat{15}, api.Nat{5}},
		{above(3300, 5), nil, above(3300, 5)},
		{above(6300, 35), above(6260, 0, 40), above(6261, 40)},
	} {
		for _, w := range ways() {
			if g := w.divisor(c.a, c.b); !slices.Equal(g, c.want) {
				t.Errorf("%s: %d limbs, %v at the end, want %d, %v", w.name, len(g), g[max(0, len(g)-2):], len(c.want), c.want[len(c.want)-1])
			}
			if g := w.divisor(c.b, c.a); !slices.Equal(g, c.want) {
				t.Errorf("%s, the other way round: %d limbs, want %d", w.name, len(g), len(c.want))
			}
		}
	}
}

// Each division, and each taking off, asks for memory: that tells how many there are.
// By divisions a long number and a short one are done at once, and by halving with each few bits.
func TestEuclidDividesAndBinaryHalves(t *testing.T) {
	asked := func(w way, a, b api.Nat) float64 { return testing.AllocsPerRun(3, func() { w.divisor(a, b) }) }
	for _, n := range []int{20, 40, 80} {
		if asked(ways()[0], ones(2*n), api.Nat{77}) != asked(ways()[0], ones(n), api.Nat{77}) {
			t.Errorf("of %d limbs Euclid does not divide", 2*n)
		}
		if more := asked(ways()[1], drawn(2*n, 1), api.Nat{77}) - asked(ways()[1], drawn(n, 1), api.Nat{77}); more < float64(8*n) {
			t.Errorf("of %d limbs Binary does not go by bits", 2*n)
		}
		for _, long := range []api.Nat{ones(n), ones(2 * n)} {
			if asked(ways()[2], long, api.Nat{77}) > 99 || asked(ways()[2], api.Nat{77}, long) > 99 {
				t.Errorf("of %d limbs Gcd does not divide ahead", len(long))
			}
		}
	}
	// Of neighbours of Fibonacci each quotient is 1: of all numbers of their length they are divided most often.
	a, b := big.NewInt(1), big.NewInt(1)
	for range 900 {
		a, b = b, a.Add(a, b)
	}
	if asked(ways()[0], back(b), back(a)) < 900 {
		t.Error("of neighbours of Fibonacci Euclid does not divide again and again")
	}
}

// 5.1: Gcd of as many as there are.

func TestGcd(t *testing.T) {
	for _, c := range []struct {
		l    []api.Nat
		want api.Nat
	}{
		{nil, nil},
		{[]api.Nat{}, nil},
		{[]api.Nat{nil}, nil},
		{[]api.Nat{nil, {}, nil}, nil},
		{[]api.Nat{{9}}, api.Nat{9}},
		{[]api.Nat{{0, 7}}, api.Nat{0, 7}},
		{[]api.Nat{{12}, {18}}, api.Nat{6}},
		{[]api.Nat{nil, {12}, nil, {18}, {}}, api.Nat{6}},
		{[]api.Nat{{12}, {18}, {8}}, api.Nat{2}},
		{[]api.Nat{{12}, {18}, {1}, nil}, api.Nat{1}},
		{[]api.Nat{{6}, {10}, {15}}, api.Nat{1}},
		{[]api.Nat{{30}, {42}, {70}, {105}}, api.Nat{1}},
		{[]api.Nat{{210, 210}, {132, 132}, {9}}, api.Nat{3}},
		{[]api.Nat{{0, 0, 0, 4}, {0, 0, 6}, {0, 10}}, api.Nat{0, 2}},
		{[]api.Nat{ones(24), ones(36), ones(30)}, ones(6)},
		{slices.Repeat([]api.Nat{{0, 0, 3}}, 1000), api.Nat{0, 0, 3}},
	} {
		if g := Gcd(c.l...); !slices.Equal(g, c.want) {
			t.Errorf("Gcd(%v): %v, want %v", c.l, g, c.want)
		}
	}
}

func TestGcdOfManyInAnyOrder(t *testing.T) {
	common := big.NewInt(2 * 3 * 5 * 7 * 11)
	var l []api.Nat
	for i := range uint64(30) {
		l = append(l, back(new(big.Int).Mul(common, of(drawn(1+int(i)%9, i+1)))))
	}
	for n := range len(l) + 1 {
		want := new(big.Int)
		for _, a := range l[:n] {
			want.GCD(nil, nil, want, of(a))
		}
		turned := slices.Clone(l[:n])
		slices.Reverse(turned)
		if g, r := Gcd(l[:n]...), Gcd(turned...); !is(g, want) || !is(r, want) {
			t.Fatalf("Gcd of %d: %v, and %v the other way round, want %v", n, g, r, want)
		}
	}
}

// 5.2: Lcm, Coprime.

func TestLcm(t *testing.T) {
	for _, c := range []struct{ a, b, want api.Nat }{
		{api.Nat{4}, api.Nat{6}, api.Nat{12}},
		{nil, nil, nil},
		{api.Nat{}, nil, nil},
		{nil, api.Nat{1}, nil},
		{nil, ones(4), nil},
		{api.Nat{1}, api.Nat{1}, api.Nat{1}},
		{api.Nat{1}, ones(4), ones(4)},
		{api.Nat{7}, api.Nat{7}, api.Nat{7}},
		{api.Nat{3}, api.Nat{5}, api.Nat{15}},
		{api.Nat{2}, api.Nat{0, 1}, api.Nat{0, 1}},
		{api.Nat{0, 6}, api.Nat{0, 0, 3}, api.Nat{0, 0, 3}},
		{api.Nat{0, 4}, api.Nat{0, 6}, api.Nat{0, 12}},
		{ones(2), ones(6), ones(6)},
		{api.Nat{top}, api.Nat{0, 1}, api.Nat{0, top}},
		{api.Nat{top}, api.Nat{top - 1}, api.Nat{2, top - 2}},
		{above(3200, 12), above(3130, 18), above(3200, 36)},
	} {
		if m := Lcm(c.a, c.b); !slices.Equal(m, c.want) {
			t.Errorf("Lcm(%v, %v): %v, want %v", c.a, c.b, m, c.want)
		}
		if m := Lcm(c.b, c.a); !slices.Equal(m, c.want) {
			t.Errorf("Lcm(%v, %v): %v, want %v", c.b, c.a, m, c.want)
		}
	}
}

func TestCoprime(t *testing.T) {
	for _, c := range []struct {
		a, b api.Nat
		want bool
	}{
		{nil, nil, false},
		{nil, api.Nat{}, false},
		{nil, api.Nat{1}, true},
		{nil, api.Nat{2}, false},
		{nil, api.Nat{0, 1}, false},
		{nil, ones(4), false},
		{api.Nat{1}, api.Nat{1}, true},
		{api.Nat{1}, ones(4), true},
		{api.Nat{2}, api.Nat{2}, false},
		{api.Nat{35}, api.Nat{22}, true},
		{api.Nat{35}, api.Nat{21}, false},
		{api.Nat{4}, api.Nat{6}, false},
		{api.Nat{top}, api.Nat{0, 1}, true},
		{api.Nat{0, 3}, api.Nat{0, 5}, false},
		{ones(5), ones(7), false},
		{api.Nat{1, 1}, api.Nat{0, 1}, true},
	} {
		if is := Coprime(c.a, c.b); is != c.want {
			t.Errorf("Coprime(%v, %v): %v", c.a, c.b, is)
		}
		if is := Coprime(c.b, c.a); is != c.want {
			t.Errorf("Coprime(%v, %v): %v", c.b, c.a, is)
		}
	}
}

func TestLcmAndCoprimeOfMany(t *testing.T) {
	l := samples(8)
	for _, a := range l {
		for _, b := range l {
			g, want := divisor(a, b), new(big.Int).Mul(of(a), of(b))
			if g.Sign() > 0 {
				want.Quo(want, g)
			}
			if m := Lcm(a, b); !is(m, want) {
				t.Fatalf("Lcm(%v, %v): %v, want %v", a, b, m, want)
			}
			if Coprime(a, b) != (g.Cmp(big.NewInt(1)) == 0) {
				t.Fatalf("Coprime(%v, %v), where %v divides both", a, b, g)
			}
		}
	}
}

// 5.3 (greatest).

func TestTheDivisorIsTheGreatest(t *testing.T) {
	l := samples(8)
	for _, a := range l {
		for _, b := range l {
			for _, w := range ways() {
				g := w.divisor(a, b)
				if len(g) == 0 {
					if len(a)+len(b) > 0 {
						t.Fatalf("%s(%v, %v): 0", w.name, a, b)
					}
					continue
				}
				partA, leftA := new(big.Int).QuoRem(of(a), of(g), new(big.Int))
				partB, leftB := new(big.Int).QuoRem(of(b), of(g), new(big.Int))
				if leftA.Sign() != 0 || leftB.Sign() != 0 {
					t.Fatalf("%s(%v, %v): %v, which does not divide both", w.name, a, b, g)
				}
				if !Coprime(back(partA), back(partB)) {
					t.Fatalf("%s(%v, %v): %v, and what is left of both is not coprime", w.name, a, b, g)
				}
			}
		}
	}
}

// P1, P2, and the rules.

// answers are the numbers that all calls answer at the same two, and whether those are coprime.
func answers(a, b api.Nat) ([]api.Nat, bool) {
	return []api.Nat{Euclid(a, b), Binary(a, b), Gcd(a), Gcd(a, b), Gcd(b, a, b), Gcd(nil, a), Lcm(a, b)}, Coprime(a, b)
}

// Every call ends, and none panics, at lists of limbs that are no numbers as well; asked again, it answers the same.
func TestEveryCallAnswers(t *testing.T) {
	l := append(samples(3), wrong...)
	for _, a := range l {
		for _, b := range l {
			first, coprime := answers(a, b)
			second, again := answers(a, b)
			if !slices.EqualFunc(first, second, slices.Equal) || coprime != again {
				t.Fatalf("at %v, %v: twice asked, two answers", a, b)
			}
		}
	}
}

// What is handed in stays as it is, and what is handed out is memory of its own.
func TestMemoryIsNotShared(t *testing.T) {
	for _, a := range samples(4) {
		for _, b := range samples(3) {
			room := append(make(api.Nat, 0, len(a)+8), a...) // room behind, in which nothing may be laid
			other := append(make(api.Nat, 0, len(b)+8), b...)
			numbers, _ := answers(room, other)
			behind := slices.Concat(room[len(a):cap(room)], other[len(b):cap(other)])
			if slices.ContainsFunc(behind, func(x uint64) bool { return x != 0 }) {
				t.Fatalf("at %v, %v: something is laid behind what is handed in", a, b)
			}
			for i, number := range numbers {
				next := numbers[(i+1)%len(numbers)]
				kept := slices.Clone(next)
				for j := range number[:cap(number)] {
					number[:cap(number)][j] = 77
				}
				if !slices.Equal(room, a) || !slices.Equal(other, b) {
					t.Fatalf("at %v, %v: answer %d is what is handed in", a, b, i)
				}
				if !slices.Equal(next, kept) {
					t.Fatalf("at %v, %v: answer %d is the next one", a, b, i)
				}
			}
		}
	}
}

// The list itself stays as it is, as its numbers do.
func TestTheListIsNotChanged(t *testing.T) {
	l := []api.Nat{{12}, nil, {18}, {0, 6}, {12}}
	Gcd(l...)
	if want := []api.Nat{{12}, nil, {18}, {0, 6}, {12}}; !slices.EqualFunc(l, want, slices.Equal) {
		t.Errorf("%v, want %v", l, want)
	}
}

// One number handed in twice is no worse than two.
func TestANumberByItself(t *testing.T) {
	for _, a := range samples(8) {
		kept := slices.Clone(a)
		for _, w := range ways() {
			if g := w.divisor(a, a); !slices.Equal(g, a) {
				t.Fatalf("%s(%v, %v): %v", w.name, a, a, g)
			}
		}
		if m := Lcm(a, a); !slices.Equal(m, a) {
			t.Fatalf("Lcm(%v, %v): %v", a, a, m)
		}
		if Coprime(a, a) != slices.Equal(a, api.Nat{1}) {
			t.Fatalf("Coprime(%v, %v): %v", a, a, Coprime(a, a))
		}
		if !slices.Equal(a, kept) {
			t.Fatalf("%v is changed to %v", kept, a)
		}
	}
}
