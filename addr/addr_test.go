package addr

import (
	"fmt"
	"net/netip"
	"regexp"
	"strconv"
	"strings"
	"testing"

	"trivium/api"
)

// A number, an address, and a prefix of these texts, told once more.
const numeral = `(0|[1-9][0-9]{0,2})`

var (
	addressForm = regexp.MustCompile(`\A` + strings.Repeat(numeral+`\.`, 3) + numeral + `\z`)
	prefixForm  = regexp.MustCompile(`\A` + strings.Repeat(numeral+`\.`, 3) + numeral + `/` + numeral + `\z`)
)

// goodAddresses are texts of addresses, with these.
var goodAddresses = map[string]uint32{
	"0.0.0.0":         0,
	"0.0.0.1":         1,
	"0.0.1.0":         1 << 8,
	"0.1.0.0":         1 << 16,
	"1.0.0.0":         1 << 24,
	"1.2.3.4":         1<<24 + 2<<16 + 3<<8 + 4,
	"10.0.0.1":        10<<24 + 1,
	"9.99.100.109":    9<<24 + 99<<16 + 100<<8 + 109,
	"127.255.255.255": 1<<31 - 1,
	"128.0.0.0":       1 << 31,
	"192.168.20.199":  192<<24 + 168<<16 + 20<<8 + 199,
	"200.201.249.250": 200<<24 + 201<<16 + 249<<8 + 250,
	"0.0.0.255":       255,
	"0.0.255.0":       255 << 8,
	"0.255.0.0":       255 << 16,
	"255.0.0.0":       255 << 24,
	"255.255.255.254": 1<<32 - 2,
	"255.255.255.255": 1<<32 - 1,
}

// noAddresses are texts of none.
var noAddresses = []string{
	"", " ", ".", "..", "...", "....", "0", "1", "1.2", "1.2.3", "1.2.3.4.5", "1.2.3.4.", ".1.2.3.4", ".1.2.3", "1.2.3.", "1..2.3", "1.2..3", "1..3.4", "1.2.3..4", "1...4", "0.0.0", "0.0.0.0.0", "16909060", "4294967295",
	"01.2.3.4", "1.02.3.4", "1.2.03.4", "1.2.3.04", "00.0.0.0", "0.00.0.0", "0.0.00.0", "0.0.0.00", "0.0.0.000", "001.2.3.4", "1.2.3.010", "1.2.3.0255", "1.2.3.0256",
	"1.2.3.1000", "1000.2.3.4", "1.1000.3.4", "1.2.1000.4", "1.2.3.2550", "1.2.3.4294967296", "1.2.3.4294967300", "1.2.3.18446744073709551616", "1.2.3.18446744073709551620",
	"-1.2.3.4", "+1.2.3.4", "1.2.3.-4", "1.2.3.+4", "-0.0.0.0", "1.2.3.4e", "1.2.3.x", "a.b.c.d", "0x1.2.3.4", "1.2.3.0x4", "1_0.2.3.4", "1.2.3.1_0", "1.2.3.4%", "1.2.3.:", "1.2.3./", "1.2.3.4/", "1.2.3.4/32", "1/2/3/4", "1,2,3,4", "1:2:3:4", "::1", "::ffff:1.2.3.4",
	" 1.2.3.4", "1.2.3.4 ", "1. 2.3.4", "1.2.3. 4", "1.2.3.4\n", "\t1.2.3.4", "1.2.3.4\x00", "\x001.2.3.4", "1.2.3.\x00", "1.2.3.4\r",
	"١.2.3.4", "1.2.3.٤", "1.2.3.４", "1.2.3.²", "1。2。3。4", "1․2․3․4", "\xff.2.3.4", "1.2.3.\xff", "1.2.3.4\x80", "\ufeff1.2.3.4",
	"256.1.1", "256.1.1.1.1", "256.1.1.x", "x.1.1.256", "256.256.256.01", "999.999.999", "256.1..1", "256.1.1.1000", "1000.1.1.256", "256.1.1.1 ", "256", "300.00.0.0",
	strings.Repeat("1", 100000), strings.Repeat(".", 100000), strings.Repeat("1.", 100000), strings.Repeat("0", 100000) + "1.2.3.4", "1.2.3." + strings.Repeat("9", 100000), "1.2.3.4" + strings.Repeat("/", 100000), strings.Repeat("256.", 100000) + "256",
}

// highAddresses have the form of addresses, but a number above 255.
var highAddresses = []string{
	"256.1.1.1", "1.256.1.1", "1.1.256.1", "1.1.1.256", "256.0.0.0", "0.0.0.256", "256.256.256.256", "999.999.999.999", "999.0.0.0", "0.0.0.999", "257.1.1.1", "300.1.1.1", "512.1.1.1", "1.1.1.511", "260.255.255.255", "255.255.255.256", "768.0.0.0", "0.0.256.255", "0.256.255.256",
}

// sampled are addresses with few bits, with many, at both sides of each power of two, and many beside.
func sampled() []uint32 {
	l := []uint32{0, 1<<32 - 1, 0x55555555, 0xaaaaaaaa, 0x01020304, 0xff00ff00, 0x00ff00ff, 10 << 24}
	for bit := range 32 {
		l = append(l, 1<<bit, 1<<bit-1, ^uint32(1<<bit), ^uint32(1<<bit-1), 1<<bit+1)
	}
	a := uint32(1)
	for range 200 {
		a = a*1664525 + 1013904223
		l = append(l, a, a>>(a%32), a<<(a%32))
	}
	return l
}

// top is the n highest bits, one by one.
func top(n int) uint32 {
	var m uint32
	for bit := range n {
		m |= 1 << (31 - bit)
	}
	return m
}

// prefixes are some that may be, of each length.
func prefixes() []api.Prefix {
	var l []api.Prefix
	for n := range 33 {
		for _, a := range sampled()[:60] {
			l = append(l, api.Prefix{Addr: a & top(n), Len: n})
		}
	}
	return l
}

// badPrefixes are some that may not be.
func badPrefixes() []api.Prefix {
	l := []api.Prefix{{Addr: 1, Len: 0}, {Addr: 1, Len: 8}, {Addr: 1 << 31, Len: 0}, {Addr: 1<<32 - 1, Len: 31}, {Addr: 10<<24 + 1, Len: 8}, {Addr: 10<<24 + 1<<23, Len: 8}}
	for _, n := range []int{-1, -2, -8, -31, -32, -33, -1 << 31, -1 << 62, -1 << 63, 33, 34, 40, 64, 65, 256, 1<<31 - 1, 1 << 32, 1<<32 + 8, 1<<62 + 8, 1<<63 - 1} {
		l = append(l, api.Prefix{Len: n}, api.Prefix{Addr: 10 << 24, Len: n}, api.Prefix{Addr: 1<<32 - 1, Len: n})
	}
	for n := range 32 {
		for bit := range 32 - n {
			l = append(l, api.Prefix{Addr: 1 << bit, Len: n}, api.Prefix{Addr: top(n) | 1<<bit, Len: n})
		}
	}
	return l
}

// wantedAddress is what Parse is to answer of s.
func wantedAddress(s string) (uint32, api.Errno) {
	found := addressForm.FindStringSubmatch(s)
	if found == nil {
		return 0, api.ErrText
	}
	var a uint32
	for _, text := range found[1:] {
		n, err := strconv.ParseUint(text, 10, 8)
		if err != nil {
			return 0, api.ErrForm
		}
		a = a<<8 | uint32(n)
	}
	return a, api.OK
}

// wantedPrefix is what Prefix is to answer of s.
func wantedPrefix(s string) (api.Prefix, api.Errno) {
	found := prefixForm.FindStringSubmatch(s)
	if found == nil {
		return api.Prefix{}, api.ErrText
	}
	a, e := wantedAddress(s[:strings.Index(s, "/")])
	n, _ := strconv.Atoi(found[5])
	if e != api.OK || n > 32 || a&top(n) != a {
		return api.Prefix{}, api.ErrForm
	}
	return api.Prefix{Addr: a, Len: n}, api.OK
}

// checkText holds what is read of s, as an address and as a prefix, against what is known of it.
func checkText(t *testing.T, s string) {
	t.Helper()
	a, wrong := wantedAddress(s)
	if got, e := Parse(s); got != a || e != wrong {
		t.Errorf("Parse(%.60q): %d, %v, want %d, %v", s, got, e, a, wrong)
	}
	p, wrong := wantedPrefix(s)
	if got, e := Prefix(s); got != p || e != wrong {
		t.Errorf("Prefix(%.60q): %v, %v, want %v, %v", s, got, e, p, wrong)
	}
}

// 18.1: Parse, Print, Prefix, Text.

func TestParse(t *testing.T) {
	for s, want := range goodAddresses {
		if a, e := Parse(s); a != want || e != api.OK {
			t.Errorf("Parse(%q): %d, %v, want %d", s, a, e, want)
		}
	}
	for _, s := range noAddresses {
		if a, e := Parse(s); a != 0 || e != api.ErrText {
			t.Errorf("Parse(%.60q): %d, %v, want ErrText", s, a, e)
		}
	}
	for _, s := range highAddresses {
		if a, e := Parse(s); a != 0 || e != api.ErrForm {
			t.Errorf("Parse(%q): %d, %v, want ErrForm", s, a, e)
		}
	}
}

// Each number of up to four digits, noughts ahead or not, stands for what it is at each place.
func TestParseOfAllNumbers(t *testing.T) {
	for place := range 4 {
		for n := range 1200 {
			for _, form := range []string{"%d", "%02d", "%03d", "%04d"} {
				texts := []string{"1", "20", "0", "255"}
				texts[place] = fmt.Sprintf(form, n)
				s := strings.Join(texts, ".")
				checkText(t, s)
				if a, e := Parse(s); n < 256 && form == "%d" && (e != api.OK || a>>(24-8*place)&255 != uint32(n)) {
					t.Errorf("Parse(%q): %d, %v", s, a, e)
				}
			}
		}
	}
}

func TestAllShortTexts(t *testing.T) {
	texts := []string{""}
	for range 6 {
		var longer []string
		for _, s := range texts {
			for _, piece := range []string{"0.0.", "0", "1", "256", ".", "/"} {
				longer = append(longer, s+piece)
			}
		}
		for _, s := range longer {
			checkText(t, s)
		}
		texts = longer
	}
}

// Each byte stands for what it is, at each place of a text, in place of what is there or beside it.
func TestAllBytes(t *testing.T) {
	for _, s := range []string{"1.2.3.4", "10.200.30.255", "0.0.0.0", "10.0.0.0/8", "0.0.0.0/0", "1.2.3.4/32", "255.255.255.0/24"} {
		for b := range 256 {
			one := string([]byte{byte(b)})
			for at := range len(s) + 1 {
				checkText(t, s[:at]+one+s[at:])
				if at < len(s) {
					checkText(t, s[:at]+one+s[at+1:])
				}
			}
		}
	}
}

func TestPrint(t *testing.T) {
	for want, a := range goodAddresses {
		if s := Print(a); s != want {
			t.Errorf("Print(%d): %q, want %q", a, s, want)
		}
	}
	for _, a := range sampled() {
		want := netip.AddrFrom4([4]byte{byte(a >> 24), byte(a >> 16), byte(a >> 8), byte(a)}).String()
		if s := Print(a); s != want {
			t.Errorf("Print(%d): %q, want %q", a, s, want)
		}
	}
}

func TestPrefix(t *testing.T) {
	for _, c := range []struct {
		s    string
		want api.Prefix
	}{
		{"0.0.0.0/0", api.Prefix{}},
		{"10.0.0.0/8", api.Prefix{Addr: 10 << 24, Len: 8}},
		{"128.0.0.0/1", api.Prefix{Addr: 1 << 31, Len: 1}},
		{"0.0.0.0/1", api.Prefix{Len: 1}},
		{"0.0.0.0/9", api.Prefix{Len: 9}},
		{"0.0.0.0/10", api.Prefix{Len: 10}},
		{"10.128.0.0/9", api.Prefix{Addr: 10<<24 + 1<<23, Len: 9}},
		{"10.1.0.0/16", api.Prefix{Addr: 10<<24 + 1<<16, Len: 16}},
		{"10.2.0.0/15", api.Prefix{Addr: 10<<24 + 2<<16, Len: 15}},
		{"192.168.1.0/24", api.Prefix{Addr: 192<<24 + 168<<16 + 1<<8, Len: 24}},
		{"255.255.255.254/31", api.Prefix{Addr: 1<<32 - 2, Len: 31}},
		{"255.255.255.255/32", api.Prefix{Addr: 1<<32 - 1, Len: 32}},
		{"1.2.3.4/32", api.Prefix{Addr: 1<<24 + 2<<16 + 3<<8 + 4, Len: 32}},
		{"0.0.0.0/32", api.Prefix{Len: 32}},
	} {
		if p, e := Prefix(c.s); p != c.want || e != api.OK {
			t.Errorf("Prefix(%q): %v, %v, want %v", c.s, p, e, c.want)
		}
	}
}

func TestPrefixOfNone(t *testing.T) {
	texts := []string{
		"10.0.0.0", "10.0.0.0/", "/8", "/", "//", "8", "10.0.0.0//8", "10.0.0.0/8/", "/10.0.0.0/8", "10.0.0.0/8/8", "10.0.0.0/8/x", "10.0.0/8", "10.0.0.0.0/8", "10/8", "10./8", "10.0.0./8", ".10.0.0.0/8",
		"10.0.0.0/08", "10.0.0.0/00", "10.0.0.0/008", "10.0.0.0/033", "10.0.0.0/0000", "0.0.0.0/00", "010.0.0.0/8", "10.0.0.00/8", "10.0.0.0/1000", "10.0.0.0/4294967304", "10.0.0.0/18446744073709551624", "10.0.0.0/" + strings.Repeat("9", 100000), "0.0.0.0/" + strings.Repeat("0", 100000),
		"10.0.0.0/-8", "10.0.0.0/+8", "10.0.0.0/-1", "10.0.0.0/8.0", "10.0.0.0/x", "10.0.0.0/0x8", "10.0.0.0/8 ", "10.0.0.0/ 8", "10.0.0.0 /8", " 10.0.0.0/8", "10.0.0.0/8\n", "10.0.0.0\\8", "10.0.0.0:8", "10.0.0.0/255.0.0.0", "10.0.0.0/8%", "10.0.0.0/８", "10.0.0.0/٨", "10.0.0.0/\xff", "10.0.0.0/8\x00", "10.0.0.0∕8",
		"256.0.0.0/x", "256.0.0.0/", "256.0.0.0", "256.0.0.0/08", "256.0.0.0/1000", "256.0.0/8", "256.0.0.0/8/8", "10.0.0.1/x", "10.0.0.1/08", "10.0.0.1/", "x/33", "10.0.0/33", "10.0.0.01/33", "01.0.0.0/999", "10.0.0.0/33/8", // what is no text is told ahead of what may not be
	}
	for _, s := range noAddresses {
		texts = append(texts, s+"/8", s+"/0", s+"/33")
	}
	for _, s := range texts {
		if p, e := Prefix(s); p != (api.Prefix{}) || e != api.ErrText {
			t.Errorf("Prefix(%.60q): %v, %v, want ErrText", s, p, e)
		}
	}
}

func TestPrefixThatMayNotBe(t *testing.T) {
	texts := []string{
		"10.0.0.1/8", "10.128.0.0/8", "10.0.0.0/33", "10.0.0.0/6", "10.0.0.0/0", "0.0.0.1/0", "0.0.0.1/31", "128.0.0.0/0", "255.255.255.255/31", "255.255.255.255/0", "1.2.3.4/29", "0.0.0.0/33", "0.0.0.0/34", "0.0.0.0/40", "0.0.0.0/64", "0.0.0.0/99", "0.0.0.0/100", "0.0.0.0/128", "0.0.0.0/255", "0.0.0.0/256", "0.0.0.0/264", "0.0.0.0/999", "1.2.3.4/33", "1.2.3.4/999",
	}
	for _, s := range highAddresses {
		texts = append(texts, s+"/0", s+"/8", s+"/24", s+"/32", s+"/33", s+"/999")
	}
	for _, s := range texts {
		if p, e := Prefix(s); p != (api.Prefix{}) || e != api.ErrForm {
			t.Errorf("Prefix(%q): %v, %v, want ErrForm", s, p, e)
		}
	}
}

// Of each Len, as much as an address has behind it is told.
func TestPrefixOfAllLens(t *testing.T) {
	for _, a := range sampled() {
		for n := range 40 {
			checkText(t, Print(a)+"/"+strconv.Itoa(n))
			checkText(t, Print(a&top(min(n, 32)))+"/"+strconv.Itoa(n))
		}
	}
}

func TestText(t *testing.T) {
	for _, c := range []struct {
		p    api.Prefix
		want string
	}{
		{api.Prefix{}, "0.0.0.0/0"},
		{api.Prefix{Addr: 10 << 24, Len: 8}, "10.0.0.0/8"},
		{api.Prefix{Addr: 10 << 24, Len: 32}, "10.0.0.0/32"},
		{api.Prefix{Addr: 1<<32 - 1, Len: 32}, "255.255.255.255/32"},
		{api.Prefix{Addr: 1 << 31, Len: 1}, "128.0.0.0/1"},
		{api.Prefix{Addr: 172<<24 + 16<<16, Len: 12}, "172.16.0.0/12"},
		{api.Prefix{Addr: 1, Len: 8}, ""},
		{api.Prefix{Addr: 1, Len: 31}, ""},
		{api.Prefix{Len: 33}, ""},
		{api.Prefix{Len: -1}, ""},
	} {
		if s := Text(c.p); s != c.want {
			t.Errorf("Text(%v): %q, want %q", c.p, s, c.want)
		}
	}
	for _, p := range prefixes() {
		if want := Print(p.Addr) + "/" + strconv.Itoa(p.Len); Text(p) != want {
			t.Errorf("Text(%v): %q, want %q", p, Text(p), want)
		}
	}
}

// 18.2: May, Mask, Has, Range, Within.

func TestMay(t *testing.T) {
	for _, p := range prefixes() {
		if !May(p) {
			t.Errorf("May(%v): false", p)
		}
	}
	for _, p := range badPrefixes() {
		if May(p) {
			t.Errorf("May(%v): true", p)
		}
	}
	for _, a := range sampled() {
		for n := -40; n <= 80; n++ {
			want := n >= 0 && n <= 32 && a&top(n) == a
			if p := (api.Prefix{Addr: a, Len: n}); May(p) != want {
				t.Errorf("May(%v): %v", p, !want)
			}
		}
	}
}

func TestMask(t *testing.T) {
	for n := range 33 {
		if got := Mask(n); got != top(n) {
			t.Errorf("Mask(%d): %x, want %x", n, got, top(n))
		}
	}
	for _, n := range []int{0, -1, -2, -31, -32, -33, -64, -1 << 31, -1<<31 - 1, -1 << 32, -1<<32 + 8, -1 << 62, -1<<63 + 1, -1 << 63} {
		if got := Mask(n); got != 0 {
			t.Errorf("Mask(%d): %x, want none", n, got)
		}
	}
	for _, n := range []int{32, 33, 34, 63, 64, 65, 96, 128, 256, 1<<31 - 1, 1 << 31, 1 << 32, 1<<32 + 8, 1 << 62, 1<<63 - 1} {
		if got := Mask(n); got != 1<<32-1 {
			t.Errorf("Mask(%d): %x, want all", n, got)
		}
	}
}

func TestHas(t *testing.T) {
	p := api.Prefix{Addr: 10 << 24, Len: 8}
	for s, want := range map[string]bool{"10.1.2.3": true, "10.0.0.0": true, "10.255.255.255": true, "9.255.255.255": false, "11.0.0.0": false, "0.0.0.0": false, "0.0.0.10": false, "138.0.0.0": false, "255.255.255.255": false} {
		a, e := Parse(s)
		if e != api.OK || Has(p, a) != want {
			t.Errorf("Has(10.0.0.0/8, %s): %v", s, !want)
		}
	}
	for _, a := range sampled() {
		if !Has(api.Prefix{}, a) || !Has(api.Prefix{Addr: a, Len: 32}, a) || Has(api.Prefix{Addr: a ^ 1, Len: 32}, a) || Has(api.Prefix{Addr: a ^ 1<<31, Len: 32}, a) {
			t.Errorf("Has of no bits, or of all, of %d", a)
		}
	}
}

// Of each Len, just what stands within its bits is told apart.
func TestHasBitByBit(t *testing.T) {
	for _, p := range prefixes() {
		for _, a := range []uint32{p.Addr, p.Addr | ^top(p.Len), p.Addr | 0x55555555&^top(p.Len)} {
			if !Has(p, a) {
				t.Errorf("Has(%v, %x): false", p, a)
			}
			for bit := range 32 {
				if got := Has(p, a^1<<(31-bit)); got != (bit >= p.Len) {
					t.Errorf("Has(%v, %x), but for the bit %d: %v", p, a, bit, got)
				}
			}
		}
	}
}

func TestRange(t *testing.T) {
	for _, c := range []struct {
		p    api.Prefix
		want api.Range
	}{
		{api.Prefix{}, api.Range{First: 0, Last: 1<<32 - 1}},
		{api.Prefix{Len: 1}, api.Range{First: 0, Last: 1<<31 - 1}},
		{api.Prefix{Addr: 1 << 31, Len: 1}, api.Range{First: 1 << 31, Last: 1<<32 - 1}},
		{api.Prefix{Addr: 10 << 24, Len: 8}, api.Range{First: 10 << 24, Last: 11<<24 - 1}},
		{api.Prefix{Addr: 10 << 24, Len: 31}, api.Range{First: 10 << 24, Last: 10<<24 + 1}},
		{api.Prefix{Addr: 7, Len: 32}, api.Range{First: 7, Last: 7}},
		{api.Prefix{Len: 32}, api.Range{}},
		{api.Prefix{Addr: 1<<32 - 1, Len: 32}, api.Range{First: 1<<32 - 1, Last: 1<<32 - 1}},
	} {
		if r := Range(c.p); r != c.want {
			t.Errorf("Range(%v): %v, want %v", c.p, r, c.want)
		}
	}
}

func TestWithin(t *testing.T) {
	for _, c := range []struct {
		p, q     string
		pq, back bool
	}{
		{"10.0.0.0/8", "10.0.0.0/8", true, true},
		{"10.1.0.0/16", "10.0.0.0/8", true, false},
		{"10.0.0.0/16", "10.0.0.0/8", true, false},
		{"10.0.0.0/9", "10.0.0.0/8", true, false},
		{"10.128.0.0/9", "10.0.0.0/9", false, false},
		{"11.0.0.0/8", "10.0.0.0/8", false, false},
		{"11.0.0.0/8", "10.0.0.0/7", true, false},
		{"1.2.3.4/32", "0.0.0.0/0", true, false},
		{"0.0.0.0/0", "0.0.0.0/0", true, true},
		{"0.0.0.0/1", "0.0.0.0/0", true, false},
		{"128.0.0.0/1", "0.0.0.0/1", false, false},
		{"0.0.0.0/32", "0.0.0.0/31", true, false},
		{"0.0.0.1/32", "0.0.0.0/31", true, false},
		{"0.0.0.1/32", "0.0.0.0/32", false, false},
		{"255.255.255.255/32", "255.255.255.255/32", true, true},
	} {
		p, _ := Prefix(c.p)
		q, _ := Prefix(c.q)
		if got, back := Within(p, q), Within(q, p); got != c.pq || back != c.back {
			t.Errorf("Within of %s, %s: %v, %v", c.p, c.q, got, back)
		}
	}
}

// One that may not be has no address and no range, and is not within anything, nor anything within it.
func TestWhatMayNotBe(t *testing.T) {
	fit := []api.Prefix{{}, {Addr: 10 << 24, Len: 8}, {Len: 8}, {Len: 32}, {Addr: 1, Len: 32}, {Addr: 1<<32 - 1, Len: 32}}
	for _, p := range badPrefixes() {
		if Text(p) != "" || Range(p) != (api.Range{}) {
			t.Errorf("%v: Text %q, Range %v", p, Text(p), Range(p))
		}
		for _, a := range []uint32{0, 1, p.Addr, p.Addr & top(8), 10 << 24, 1<<32 - 1} {
			if Has(p, a) {
				t.Errorf("Has(%v, %d): true", p, a)
			}
		}
		if Within(p, p) {
			t.Errorf("Within(%v, itself): true", p)
		}
		for _, q := range fit {
			if Within(p, q) || Within(q, p) {
				t.Errorf("Within of %v, %v: %v, %v", p, q, Within(p, q), Within(q, p))
			}
		}
	}
}

func TestTwoThatMayNotBe(t *testing.T) {
	l := badPrefixes()
	for _, p := range l {
		for _, q := range l[:70] {
			if Within(p, q) || Within(q, p) {
				t.Errorf("Within of %v, %v: %v, %v", p, q, Within(p, q), Within(q, p))
			}
		}
	}
}

// 18.3.

func TestWhatWasPrintedIsRead(t *testing.T) {
	for _, a := range sampled() {
		if got, e := Parse(Print(a)); got != a || e != api.OK {
			t.Errorf("Parse(%q): %d, %v, want %d", Print(a), got, e, a)
		}
	}
	for _, p := range prefixes() {
		if got, e := Prefix(Text(p)); got != p || e != api.OK {
			t.Errorf("Prefix(%q): %v, %v, want %v", Text(p), got, e, p)
		}
	}
	for _, p := range badPrefixes() {
		if got, e := Prefix(Text(p)); got != (api.Prefix{}) || e != api.ErrText {
			t.Errorf("Prefix(%q): %v, %v", Text(p), got, e)
		}
	}
}

// What is read has no other text.
func TestWhatIsReadHasOneText(t *testing.T) {
	for s := range goodAddresses {
		a, e := Parse(s)
		if back := Print(a); e != api.OK || back != s {
			t.Errorf("%q is printed as %q, %v", s, back, e)
		}
	}
	for _, s := range []string{"0.0.0.0/0", "10.0.0.0/8", "172.16.0.0/12", "255.255.255.255/32", "128.0.0.0/1"} {
		p, e := Prefix(s)
		if back := Text(p); e != api.OK || back != s {
			t.Errorf("%q is printed as %q, %v", s, back, e)
		}
	}
}

// 18.4.

// The range is as long as the Len asks, and ends where it has to; what lies at its ends, between them and beside them is told apart.
func TestAPrefixHasJustItsRange(t *testing.T) {
	for _, p := range prefixes() {
		r := Range(p)
		if r.First != p.Addr || uint64(r.Last)-uint64(r.First)+1 != 1<<(32-p.Len) {
			t.Errorf("Range(%v): %v", p, r)
		}
		for _, a := range append(sampled(), r.First, r.Last, r.First-1, r.Last+1, r.First+1, r.Last-1, r.First+(r.Last-r.First)/2) {
			if got := Has(p, a); got != (r.First <= a && a <= r.Last) {
				t.Errorf("Has(%v, %d), of the range %v: %v", p, a, r, got)
			}
		}
	}
}

// Of short ranges each address is asked for.
func TestAllAddressesOfShortRanges(t *testing.T) {
	for n := 24; n <= 32; n++ {
		for at := range 256 >> (32 - n) {
			p := api.Prefix{Addr: 10<<24 + uint32(at)<<(32-n), Len: n}
			has := 0
			for a := uint32(10<<24 - 300); a < 10<<24+600; a++ {
				if Has(p, a) {
					has++
				}
			}
			if has != 1<<(32-n) {
				t.Errorf("%v has %d addresses", p, has)
			}
		}
	}
}

func TestOfTwoPrefixes(t *testing.T) {
	l := prefixes()
	for _, p := range l {
		for _, q := range l {
			r, s := Range(p), Range(q)
			inside, around := s.First <= r.First && r.Last <= s.Last, r.First <= s.First && s.Last <= r.Last
			if Within(p, q) != inside || Within(q, p) != around {
				t.Fatalf("Within of %v, %v: %v, %v", p, q, Within(p, q), Within(q, p))
			}
			if apart := r.Last < s.First || s.Last < r.First; apart == (inside || around) {
				t.Fatalf("%v, %v: the ranges %v, %v", p, q, r, s)
			}
			if inside && around != (p == q) {
				t.Fatalf("%v, %v: within one another", p, q)
			}
		}
	}
}

// P1, P2.

// A refused call, and any other, leaves nothing behind: asked again, each answers the same.
func TestEveryCallAnswersAgain(t *testing.T) {
	for range 2 {
		for _, s := range noAddresses {
			checkText(t, s)
		}
		for _, s := range highAddresses {
			checkText(t, s)
			checkText(t, s+"/8")
		}
		for s := range goodAddresses {
			checkText(t, s)
			checkText(t, s+"/32")
		}
	}
}
