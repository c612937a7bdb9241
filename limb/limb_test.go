package limb

import (
	"math/big"
	"testing"

	"trivium/api"
)

const top = 1<<32 - 1 // the greatest limb

// edges are limbs at the ends of what a limb may be, and numbers with bits above the lowest 32.
var edges = []uint64{
	0, 1, 2, 3, 5, 40, 1<<16 - 1, 1 << 16, 1<<31 - 1, 1 << 31, 1<<31 + 1, top - 1, top,
	1 << 32, 1<<32 + 7, 1 << 63, 1<<64 - 1, 0xdeadbeef_00000000, 0xdeadbeef_80000001,
}

// some are limbs, many of them, always the same ones.
func some(n int) []uint64 {
	l, x := make([]uint64, n), uint64(88172645463325252)
	for i := range l {
		x ^= x << 13
		x ^= x >> 7
		x ^= x << 17
		l[i] = x >> (x % 33)
	}
	return l
}

// samples are the edges and some others.
func samples(n int) []uint64 { return append(some(n), edges...) }

// of is the limb that counts of n, as a number of math/big, so that nothing here reckons as the package does.
func of(n uint64) *big.Int { return new(big.Int).SetUint64(n & top) }

// two are the limb lo, and what is above it, as one number.
func two(lo, hi uint64) *big.Int {
	n := new(big.Int).Lsh(new(big.Int).SetUint64(hi), 32)
	return n.Add(n, new(big.Int).SetUint64(lo))
}

func sum(l ...*big.Int) *big.Int {
	n := new(big.Int)
	for _, x := range l {
		n.Add(n, x)
	}
	return n
}

// 1.1: Add.

func TestAdd(t *testing.T) {
	for _, c := range []struct{ a, b, c, low, up uint64 }{
		{0, 0, 0, 0, 0},
		{1, 2, 3, 6, 0},
		{top, 0, 0, top, 0},
		{top, 1, 0, 0, 1},
		{top, 0, 1, 0, 1},
		{0, top, 1, 0, 1},
		{top, top, 1, top, 1},
		{top, top, top, top - 2, 2},
		{1 << 32, 1 << 63, 1<<33 + 4, 4, 0},
		{1<<64 - 1, 1<<64 - 1, 1<<64 - 1, top - 2, 2},
	} {
		if low, up := Add(c.a, c.b, c.c); low != c.low || up != c.up {
			t.Errorf("Add(%d, %d, %d): %d, %d, want %d, %d", c.a, c.b, c.c, low, up, c.low, c.up)
		}
	}
}

func TestAddIsTheSum(t *testing.T) {
	l := samples(15)
	for _, a := range l {
		for _, b := range l {
			for _, c := range l {
				low, up := Add(a, b, c)
				if low > top || two(low, up).Cmp(sum(of(a), of(b), of(c))) != 0 {
					t.Fatalf("Add(%d, %d, %d): %d, %d", a, b, c, low, up)
				}
			}
		}
	}
}

// 1.1: Sub.

func TestSub(t *testing.T) {
	for _, c := range []struct{ a, b, c, low, lent uint64 }{
		{0, 0, 0, 0, 0},
		{9, 4, 2, 3, 0},
		{7, 4, 3, 0, 0},
		{top, top, 0, 0, 0},
		{3, 5, 1, top - 2, 1},
		{0, 1, 0, top, 1},
		{0, 0, 1, top, 1},
		{0, top, 0, 1, 1},
		{0, top, 1, 0, 1},
		{0, top, 2, top, 2},
		{0, top, 5, top - 3, 2},
		{0, top, top, 2, 2},
		{top, top, top, 1, 1},
		{1<<32 + 1, 1 << 40, 1 << 63, 1, 0},
		{1 << 32, 1<<64 - 1, 1<<64 - 1, 2, 2},
	} {
		if low, lent := Sub(c.a, c.b, c.c); low != c.low || lent != c.lent {
			t.Errorf("Sub(%d, %d, %d): %d, %d, want %d, %d", c.a, c.b, c.c, low, lent, c.low, c.lent)
		}
	}
}

// Less than 2 to the 32 is left, so it is never lent once too often.
func TestSubIsTheDifference(t *testing.T) {
	l := samples(15)
	for _, a := range l {
		for _, b := range l {
			for _, c := range l {
				low, lent := Sub(a, b, c)
				if low > top || sum(two(low, 0), of(b), of(c)).Cmp(sum(of(a), two(0, lent))) != 0 {
					t.Fatalf("Sub(%d, %d, %d): %d, %d", a, b, c, low, lent)
				}
			}
		}
	}
}

// 1.1: Mul.

func TestMul(t *testing.T) {
	for _, c := range []struct{ a, b, c, d, low, next uint64 }{
		{0, 0, 0, 0, 0, 0},
		{6, 7, 0, 0, 42, 0},
		{6, 7, 8, 9, 59, 0},
		{0, top, top, 0, top, 0},
		{0, 0, top, 1, 0, 1},
		{1 << 16, 1 << 16, 0, 0, 0, 1},
		{top, top, 0, 0, 1, top - 1},
		{top, top, top, 0, 0, top},
		{top, top, 0, top, 0, top},
		{top, top, top, top, top, top},
		{1<<32 + 2, 1<<33 + 3, 1<<34 + 4, 1<<63 + 5, 15, 0},
		{1<<64 - 1, 1<<64 - 1, 1<<64 - 1, 1<<64 - 1, top, top},
	} {
		if low, next := Mul(c.a, c.b, c.c, c.d); low != c.low || next != c.next {
			t.Errorf("Mul(%d, %d, %d, %d): %d, %d, want %d, %d", c.a, c.b, c.c, c.d, low, next, c.low, c.next)
		}
	}
}

func TestMulIsTheProduct(t *testing.T) {
	l := samples(6)
	for _, a := range l {
		for _, b := range l {
			product := new(big.Int).Mul(of(a), of(b))
			for _, c := range l {
				for _, d := range l {
					low, next := Mul(a, b, c, d)
					if low > top || next > top || two(low, next).Cmp(sum(product, of(c), of(d))) != 0 {
						t.Fatalf("Mul(%d, %d, %d, %d): %d, %d", a, b, c, d, low, next)
					}
				}
			}
		}
	}
}

// 1.2: Div.

func TestDiv(t *testing.T) {
	for _, c := range []struct{ hi, lo, d, quotient, left uint64 }{
		{0, 0, 1, 0, 0},
		{0, 7, 2, 3, 1},
		{0, 7, 8, 0, 7},
		{0, top, 1, top, 0},
		{0, top, top, 1, 0},
		{5, 7, 6, 3579139414, 3},
		{1, 0, 2, 1 << 31, 0},
		{1, 0, top, 1, 1},
		{top - 1, top, top, top, top - 1},
		{top - 1, 1, top, top, 0},
		{1 << 32, 1<<32 + 7, 1<<63 + 2, 3, 1},
		{1<<40 + 5, 1<<40 + 7, 1<<40 + 6, 3579139414, 3},
	} {
		if quotient, left, e := Div(c.hi, c.lo, c.d); quotient != c.quotient || left != c.left || e != api.OK {
			t.Errorf("Div(%d, %d, %d): %d, %d, %v, want %d, %d", c.hi, c.lo, c.d, quotient, left, e, c.quotient, c.left)
		}
	}
}

func TestDivIsRefused(t *testing.T) {
	for _, c := range []struct {
		hi, lo, d uint64
		want      api.Errno
	}{
		{0, 0, 0, api.ErrZero},
		{0, 7, 0, api.ErrZero},
		{top, top, 0, api.ErrZero}, // hi is more than d as well, but that is named later
		{0, 7, 1 << 32, api.ErrZero},
		{9, 7, 1 << 63, api.ErrZero},
		{1, 0, 1, api.ErrArg},
		{6, 7, 6, api.ErrArg},
		{7, 7, 6, api.ErrArg},
		{top, 0, top, api.ErrArg},
		{top, top, 1, api.ErrArg},
		{6, 7, 1<<32 + 6, api.ErrArg},
		{1<<32 + 6, 7, 6, api.ErrArg},
	} {
		if quotient, left, e := Div(c.hi, c.lo, c.d); quotient != 0 || left != 0 || e != c.want {
			t.Errorf("Div(%d, %d, %d): %d, %d, %v, want 0, 0, %v", c.hi, c.lo, c.d, quotient, left, e, c.want)
		}
	}
}

func TestDivIsTheQuotient(t *testing.T) {
	l := samples(15)
	for _, hi := range l {
		for _, lo := range l {
			for _, d := range l {
				quotient, left, e := Div(hi, lo, d)
				switch {
				case of(d).Sign() == 0:
					if e != api.ErrZero || quotient != 0 || left != 0 {
						t.Fatalf("Div(%d, %d, %d): %d, %d, %v", hi, lo, d, quotient, left, e)
					}
				case of(hi).Cmp(of(d)) >= 0:
					if e != api.ErrArg || quotient != 0 || left != 0 {
						t.Fatalf("Div(%d, %d, %d): %d, %d, %v", hi, lo, d, quotient, left, e)
					}
				default:
					q, r := new(big.Int).QuoRem(two(lo&top, hi&top), of(d), new(big.Int))
					if e != api.OK || q.Cmp(two(quotient, 0)) != 0 || r.Cmp(two(left, 0)) != 0 {
						t.Fatalf("Div(%d, %d, %d): %d, %d, %v", hi, lo, d, quotient, left, e)
					}
				}
			}
		}
	}
}

// 1.2: Bits, Zeros.

func TestBitsAndZeros(t *testing.T) {
	for _, c := range []struct {
		a           uint64
		bits, zeros int
	}{
		{0, 0, 32},
		{1, 1, 0},
		{2, 2, 1},
		{3, 2, 0},
		{40, 6, 3},
		{1 << 31, 32, 31},
		{1<<31 + 1, 32, 0},
		{1<<31 - 1, 31, 0},
		{top - 1, 32, 1},
		{top, 32, 0},
		{1 << 32, 0, 32},
		{1 << 63, 0, 32},
		{1<<33 + 8, 4, 3},
		{1<<64 - 1, 32, 0},
	} {
		if n := Bits(c.a); n != c.bits {
			t.Errorf("Bits(%d): %d, want %d", c.a, n, c.bits)
		}
		if n := Zeros(c.a); n != c.zeros {
			t.Errorf("Zeros(%d): %d, want %d", c.a, n, c.zeros)
		}
	}
}

func TestBitsAndZerosOfMany(t *testing.T) {
	for _, a := range samples(5000) {
		if n := Bits(a); n != of(a).BitLen() {
			t.Fatalf("Bits(%d): %d", a, n)
		}
		zeros := 32
		if of(a).Sign() != 0 {
			zeros = int(of(a).TrailingZeroBits())
		}
		if n := Zeros(a); n != zeros {
			t.Fatalf("Zeros(%d): %d", a, n)
		}
	}
}

// 1.3: Gcd.

func TestGcd(t *testing.T) {
	for _, c := range []struct{ a, b, want uint64 }{
		{0, 0, 0},
		{0, 5, 5},
		{5, 0, 5},
		{1, top, 1},
		{12, 18, 6},
		{18, 12, 6},
		{17, 5, 1},
		{7, 7, 7},
		{top, top, top},
		{top, 1 << 31, 1},
		{top, 65537, 65537},
		{1 << 31, 1 << 20, 1 << 20},
		{2971215073, 1836311903, 1}, // neighbours of Fibonacci's: the most steps
		{1 << 32, 1 << 63, 0},
		{1<<32 + 12, 1<<63 + 18, 6},
		{1 << 32, 9, 9},
	} {
		if g := Gcd(c.a, c.b); g != c.want {
			t.Errorf("Gcd(%d, %d): %d, want %d", c.a, c.b, g, c.want)
		}
	}
}

func TestGcdIsTheGreatest(t *testing.T) {
	l := samples(300)
	for _, a := range l {
		for _, b := range l {
			want := new(big.Int).GCD(nil, nil, of(a), of(b))
			if g := Gcd(a, b); want.Cmp(two(g, 0)) != 0 {
				t.Fatalf("Gcd(%d, %d): %d, want %v", a, b, g, want)
			}
		}
	}
}

// 1.4 (back).

// What Add carries is just what Sub has to be lent.
func TestAddedIsTakenOff(t *testing.T) {
	l := samples(15)
	for _, a := range l {
		for _, b := range l {
			for _, c := range l {
				low, up := Add(a, b, c)
				if back, lent := Sub(low, b, c); back != a&top || lent != up {
					t.Fatalf("of %d, and %d and %d: %d, %d; taken off: %d, %d", a, b, c, low, up, back, lent)
				}
				low, lent := Sub(a, b, c)
				if back, up := Add(low, b, c); back != a&top || up != lent {
					t.Fatalf("of %d, less %d and %d: %d, %d; added: %d, %d", a, b, c, low, lent, back, up)
				}
			}
		}
	}
}

func TestMultipliedIsDivided(t *testing.T) {
	l := samples(15)
	for _, a := range l {
		for _, b := range l {
			for _, c := range l {
				if c&top >= b&top {
					continue // what is left is less than what is divided by
				}
				low, next := Mul(a, b, c, 0)
				if back, left, e := Div(next, low, b); back != a&top || left != c&top || e != api.OK {
					t.Fatalf("%d times %d, and %d: %d, %d; divided: %d, %d, %v", a, b, c, low, next, back, left, e)
				}
			}
		}
	}
}

func TestDividedIsMultiplied(t *testing.T) {
	l := samples(15)
	for _, hi := range l {
		for _, lo := range l {
			for _, d := range l {
				quotient, left, e := Div(hi, lo, d)
				if e != api.OK {
					continue
				}
				if low, next := Mul(quotient, d, left, 0); low != lo&top || next != hi&top || left >= d&top {
					t.Fatalf("%d, %d divided by %d: %d, %d; multiplied: %d, %d", hi, lo, d, quotient, left, low, next)
				}
			}
		}
	}
}

// P1, P2.

// answers are those of all calls at the same four numbers.
func answers(a, b, c, d uint64) [14]uint64 {
	var l [14]uint64
	var e api.Errno
	l[0], l[1] = Add(a, b, c)
	l[2], l[3] = Sub(a, b, c)
	l[4], l[5] = Mul(a, b, c, d)
	l[6], l[7], e = Div(a, b, c)
	l[8] = uint64(e)
	l[9] = uint64(Bits(a))
	l[10] = uint64(Zeros(a))
	l[11] = Gcd(a, b)
	l[12] = Gcd(c, d)
	l[13] = uint64(Bits(d))
	return l
}

// Every call ends, and none panics; the bits above the lowest 32 count nowhere; with an error all else is 0.
func TestEveryCallAnswers(t *testing.T) {
	l := samples(6)
	for _, a := range l {
		for _, b := range l {
			for _, c := range l {
				for _, d := range l {
					all := answers(a, b, c, d)
					if all != answers(a&top, b&top, c&top, d&top) {
						t.Fatalf("at %d, %d, %d, %d the high bits count", a, b, c, d)
					}
					if all[8] != 0 && (all[6] != 0 || all[7] != 0) {
						t.Fatalf("Div(%d, %d, %d): %d, %d beside an error", a, b, c, all[6], all[7])
					}
				}
			}
		}
	}
}

func TestRefusedCallsChangeNothing(t *testing.T) {
	l := edges
	for _, a := range l {
		for _, b := range l {
			for _, c := range l {
				before := answers(a, b, c, a)
				_, _, zero := Div(a, b, 0)
				_, _, more := Div(top, b, top)
				if zero != api.ErrZero || more != api.ErrArg {
					t.Fatalf("not refused: %v, %v", zero, more)
				}
				if answers(a, b, c, a) != before {
					t.Fatalf("at %d, %d, %d other answers behind a refused call", a, b, c)
				}
			}
		}
	}
}
