package nat_test

import (
	"math"
	"math/big"
	"math/rand"
	"slices"
	"strings"
	"testing"

	"zellige/api"
	"zellige/nat"
)

const full = math.MaxUint32

// toBig is the sum of a's words times 2^(32 i), reckoned by another library.
func toBig(a api.Nat) *big.Int {
	n := new(big.Int)
	for i := len(a) - 1; i >= 0; i-- {
		n.Lsh(n, 32)
		n.Add(n, new(big.Int).SetUint64(uint64(a[i])))
	}
	return n
}

// fromBig is the words of n, which is not below nought, without noughts at the end.
func fromBig(n *big.Int) api.Nat {
	var a api.Nat
	for rest := new(big.Int).Set(n); rest.Sign() > 0; rest.Rsh(rest, 32) {
		a = append(a, uint32(rest.Uint64()))
	}
	return a
}

// power is b^n.
func power(b, n int64) *big.Int {
	return new(big.Int).Exp(big.NewInt(b), big.NewInt(n), nil)
}

// random is a number of up to so many words; some of its words are the least and the greatest ones, where carries go on.
func random(r *rand.Rand, words int) api.Nat {
	a := make(api.Nat, r.Intn(words+1))
	for i := range a {
		a[i] = []uint32{0, 1, full, full - 1, 1 << 31, r.Uint32(), r.Uint32(), r.Uint32() >> uint(r.Intn(32))}[r.Intn(8)]
	}
	return a
}

// nats are numbers at which something changes, and some between, many of them with noughts at the end.
func nats() []api.Nat {
	list := []api.Nat{
		nil, {}, {0}, {0, 0, 0}, {1}, {1, 0}, {2}, {3}, {9}, {10}, {full}, {full, 0, 0}, {full - 1}, {1 << 31}, {1<<31 - 1},
		{0, 1}, {1, 1}, {full, full}, {full, full, 0}, {0, 1 << 31}, {full, 1<<31 - 1}, {0, full},
		{0, 0, 1}, {full, full, full}, {1, 0, 1}, {0, 0, 1 << 31}, {full, 0, full}, {0, full, full - 1}, {0, 0, full},
		{0, 0, 0, 1}, {full, full, full, full, 0}, {0, 0, 0, 0, 1 << 31}, {1, 0, 0, 0, 0, 0, 1}, {0, 0, 0, 0, 0, 0, 1, 0, 0},
		fromBig(power(10, 9)), fromBig(power(10, 18)), fromBig(power(10, 20)), fromBig(power(10, 100)), fromBig(power(3, 200)),
	}
	r := rand.New(rand.NewSource(3))
	for i := 0; i < 70; i++ {
		list = append(list, random(r, 3+i/4))
	}
	return list
}

// same tells an error, if a is not the number n with no nought at its end.
func same(t *testing.T, what string, a api.Nat, n *big.Int) {
	t.Helper()
	if !slices.Equal(a, fromBig(n)) {
		t.Error(what, a, fromBig(n))
	}
}

// P3.1: Trim is the number without noughts at the end.
func TestTrim(t *testing.T) {
	for _, x := range []struct{ a, want api.Nat }{
		{nil, nil}, {api.Nat{}, nil}, {api.Nat{0}, nil}, {api.Nat{0, 0, 0}, nil},
		{api.Nat{5, 0, 0}, api.Nat{5}}, {api.Nat{0, 7, 0}, api.Nat{0, 7}}, {api.Nat{0, 0, 1}, api.Nat{0, 0, 1}}, {api.Nat{full}, api.Nat{full}},
	} {
		if a := nat.Trim(x.a); !slices.Equal(a, x.want) {
			t.Error(x.a, a, x.want)
		}
	}
	for _, a := range nats() {
		same(t, "trim", nat.Trim(a), toBig(a))
	}
}

// P3.1: Of is n, of no word, one, or two.
func TestOf(t *testing.T) {
	for _, x := range []struct {
		n    uint64
		want api.Nat
	}{
		{0, nil}, {1, api.Nat{1}}, {full, api.Nat{full}}, {1 << 32, api.Nat{0, 1}}, {1<<32 + 5, api.Nat{5, 1}}, {1 << 63, api.Nat{0, 1 << 31}}, {math.MaxUint64, api.Nat{full, full}},
	} {
		if a := nat.Of(x.n); !slices.Equal(a, x.want) {
			t.Error(x.n, a, x.want)
		}
	}
}

// P3.1: Bits is how many bits the number needs.
func TestBits(t *testing.T) {
	for _, x := range []struct {
		a    api.Nat
		want int
	}{
		{nil, 0}, {api.Nat{0, 0}, 0}, {api.Nat{1}, 1}, {api.Nat{5, 0, 0}, 3}, {api.Nat{full}, 32}, {api.Nat{0, 1}, 33}, {api.Nat{0, 1 << 31}, 64}, {api.Nat{0, 0, 1, 0}, 65},
	} {
		if n := nat.Bits(x.a); n != x.want {
			t.Error(x.a, n, x.want)
		}
	}
	for _, a := range nats() {
		if n, want := nat.Bits(a), toBig(a).BitLen(); n != want {
			t.Error(a, n, want)
		}
	}
}

// P3.1: Cmp is the order of the numbers, whatever noughts are at their ends.
func TestCmp(t *testing.T) {
	for _, a := range nats() {
		for _, b := range nats() {
			if c, want := nat.Cmp(a, b), toBig(a).Cmp(toBig(b)); c != want {
				t.Error(a, b, c, want)
			}
		}
		longer := append(slices.Clone(a), 0, 0)
		if nat.Cmp(a, longer) != 0 || nat.Cmp(longer, a) != 0 {
			t.Error(a)
		}
	}
	for _, x := range []struct {
		a, b api.Nat
		want int
	}{
		{nil, api.Nat{0, 0}, 0}, {nil, api.Nat{1}, -1}, {api.Nat{1}, api.Nat{0}, 1}, {api.Nat{2, 1}, api.Nat{1, 2}, -1}, {api.Nat{full, 0}, api.Nat{0, 1}, -1}, {api.Nat{0, 0, 1}, api.Nat{full, full, 0}, 1},
	} {
		if c := nat.Cmp(x.a, x.b); c != x.want {
			t.Error(x.a, x.b, c, x.want)
		}
	}
}

// P3.2: Add and Mul are the sum and the product.
func TestAddMul(t *testing.T) {
	for _, a := range nats() {
		for _, b := range nats() {
			same(t, "add", nat.Add(a, b), new(big.Int).Add(toBig(a), toBig(b)))
			same(t, "mul", nat.Mul(a, b), new(big.Int).Mul(toBig(a), toBig(b)))
		}
	}
	if a := nat.Add(api.Nat{full, full, full}, api.Nat{1}); !slices.Equal(a, api.Nat{0, 0, 0, 1}) {
		t.Error(a)
	}
	if a := nat.Mul(api.Nat{full, full}, api.Nat{full, full, 0}); !slices.Equal(a, api.Nat{1, 0, full - 1, full}) {
		t.Error(a)
	}
}

// P3.2: Sub is the difference, where there is one.
func TestSub(t *testing.T) {
	for _, a := range nats() {
		for _, b := range nats() {
			d, ok := nat.Sub(a, b)
			want := new(big.Int).Sub(toBig(a), toBig(b))
			if ok != (want.Sign() >= 0) {
				t.Error(a, b, d, ok)
			}
			if !ok && len(d) != 0 {
				t.Error("none", a, b, d)
			}
			if ok {
				same(t, "sub", d, want)
			}
		}
	}
	if d, ok := nat.Sub(api.Nat{0, 0, 1}, api.Nat{1, 0, 0, 0}); !ok || !slices.Equal(d, api.Nat{full, full}) {
		t.Error(d, ok)
	}
	if d, ok := nat.Sub(nil, api.Nat{0, 0}); !ok || len(d) != 0 {
		t.Error(d, ok)
	}
	if d, ok := nat.Sub(api.Nat{0, 0}, api.Nat{1}); ok || len(d) != 0 {
		t.Error(d, ok)
	}
}

// divides tells an error, if DivMod is not the quotient and the rest, or breaks P3.4.
func divides(t *testing.T, a, b api.Nat) {
	t.Helper()
	q, r, e := nat.DivMod(a, b)
	if e != api.OK {
		t.Fatal(a, b, e)
	}
	quotient, rest := new(big.Int).QuoRem(toBig(a), toBig(b), new(big.Int))
	same(t, "quotient", q, quotient)
	same(t, "rest", r, rest)
	if back := nat.Add(nat.Mul(q, b), r); nat.Cmp(back, a) != 0 || nat.Cmp(r, b) >= 0 {
		t.Error("back", a, b, q, r)
	}
}

// P3.2, P3.4: quotient times b, and the rest, are a; the rest is below b.
func TestDivMod(t *testing.T) {
	for _, a := range nats() {
		for _, b := range nats() {
			if nat.Bits(b) > 0 {
				divides(t, a, b)
				divides(t, nat.Mul(a, b), b)
				divides(t, nat.Add(nat.Mul(a, b), nat.Of(1)), b)
			}
		}
	}
	q, r, e := nat.DivMod(fromBig(power(10, 20)), nat.Of(3))
	if nat.Show(q) != "33333333333333333333" || nat.Show(r) != "1" || e != api.OK {
		t.Error(q, r, e)
	}
}

// P3.4: words of the quotient that the first words of both guess too high, by one and by two, and beyond a word.
func TestDivModGuesses(t *testing.T) {
	words := []uint32{0, 1, 2, 1<<31 - 1, 1 << 31, 1<<31 + 1, full - 1, full}
	for _, high := range words {
		for _, low := range words {
			for _, first := range words {
				for _, second := range words {
					for _, third := range []uint32{0, 1, full} {
						if first == 0 && second == 0 {
							continue
						}
						divides(t, api.Nat{third, low, high, first, second}, api.Nat{third, second, first})
						divides(t, api.Nat{0, 0, low, high}, api.Nat{third, second, first})
						divides(t, api.Nat{full, third, low, high}, api.Nat{second, first, 0})
					}
				}
			}
		}
	}
	r := rand.New(rand.NewSource(4))
	for i := 0; i < 20000; i++ {
		if a, b := random(r, 12), random(r, 6); nat.Bits(b) > 0 {
			divides(t, a, b)
		}
	}
}

// P3.2: by nought nothing is divided, however many words that has.
func TestDivModNought(t *testing.T) {
	for _, a := range nats() {
		for _, b := range []api.Nat{nil, {}, {0}, {0, 0, 0}} {
			if q, r, e := nat.DivMod(a, b); e != api.ErrZero || len(q) != 0 || len(r) != 0 {
				t.Error(a, b, q, r, e)
			}
		}
	}
}

// hasGcd tells an error, if Gcd is not the greatest that divides both, or breaks P3.5.
func hasGcd(t *testing.T, a, b api.Nat) {
	t.Helper()
	g := nat.Gcd(a, b)
	same(t, "gcd", g, new(big.Int).GCD(nil, nil, toBig(a), toBig(b)))
	if nat.Bits(a) == 0 && nat.Bits(b) == 0 {
		return
	}
	x, restX, _ := nat.DivMod(a, g)
	y, restY, _ := nat.DivMod(b, g)
	if len(restX) != 0 || len(restY) != 0 || nat.Cmp(nat.Gcd(x, y), nat.Of(1)) != 0 {
		t.Error(a, b, g, x, y)
	}
}

// P3.2, P3.5: Gcd divides both, and both divided by it have Gcd 1.
func TestGcd(t *testing.T) {
	factors := []api.Nat{{1}, {6}, {full}, {0, 1}, {0, 0, 0, 1}, {5, 0, 7}, {full, full, full, full, full}}
	for _, a := range nats() {
		for _, b := range nats() {
			hasGcd(t, a, b)
		}
		for i, f := range factors {
			for _, g := range factors[i:] {
				hasGcd(t, nat.Mul(a, f), nat.Mul(a, g))
			}
		}
	}
}

// P3.2, P3.5: numbers of many words, of like and of unlike lengths, with and without a common divisor.
func TestGcdMany(t *testing.T) {
	r := rand.New(rand.NewSource(5))
	for i := 0; i < 3000; i++ {
		a, b, c := random(r, 40), random(r, 1+r.Intn(40)), random(r, 1+r.Intn(12))
		hasGcd(t, a, b)
		hasGcd(t, nat.Mul(a, c), nat.Mul(b, c))
		hasGcd(t, nat.Add(nat.Mul(a, c), nat.Of(1)), c)
		hasGcd(t, a, nat.Add(a, nat.Of(uint64(i))))
	}
}

// P3.5: all quotients are 1, or just one is great: where the most is foreseen, and the least.
func TestGcdQuotients(t *testing.T) {
	a, b := nat.Of(1), nat.Of(1)
	for i := 0; i < 1500; i++ {
		a, b = nat.Add(a, b), a
		if i%50 == 0 {
			hasGcd(t, a, b)
			hasGcd(t, b, nat.Mul(a, api.Nat{7, 0, 3}))
			hasGcd(t, nat.Add(nat.Mul(a, api.Nat{0, full}), b), a)
		}
	}
	for _, times := range []api.Nat{{full}, {0, 1}, {full, full}, {0, 0, 1}, {0, 0, 0, 0, 1}} {
		a, b = nat.Of(1), nil
		for i := 0; i < 12; i++ {
			a, b = nat.Add(nat.Mul(a, times), b), a
			hasGcd(t, a, b)
		}
	}
}

// P3.2: of nought and a number Gcd is that, without noughts at its end; of nought and nought it is nought.
func TestGcdNought(t *testing.T) {
	for _, nought := range []api.Nat{nil, {}, {0}, {0, 0, 0}} {
		for _, a := range nats() {
			same(t, "left", nat.Gcd(nought, a), toBig(a))
			same(t, "right", nat.Gcd(a, nought), toBig(a))
		}
	}
}

// P3.3: Show is decimal digits without noughts ahead.
func TestShow(t *testing.T) {
	for _, x := range []struct {
		a    api.Nat
		want string
	}{
		{nil, "0"}, {api.Nat{0, 0}, "0"}, {api.Nat{7, 0}, "7"}, {api.Nat{999999999}, "999999999"}, {api.Nat{1000000000}, "1000000000"}, {api.Nat{full}, "4294967295"}, {api.Nat{0, 1}, "4294967296"},
		{fromBig(power(10, 18)), "1" + strings.Repeat("0", 18)}, {fromBig(power(10, 27)), "1" + strings.Repeat("0", 27)},
	} {
		if s := nat.Show(x.a); s != x.want {
			t.Error(x.a, s, x.want)
		}
	}
	for _, a := range nats() {
		if s, want := nat.Show(a), toBig(a).String(); s != want {
			t.Error(a, s, want)
		}
	}
	// Show has no bound of digits: only reading has.
	if s, want := nat.Show(fromBig(power(7, 9000))), power(7, 9000).String(); s != want {
		t.Error(len(s), len(want))
	}
}

// P3.3: a text that is a Show is read, each length of it up to MaxDigits.
func TestParse(t *testing.T) {
	for digits := 1; digits <= api.MaxDigits; digits++ {
		if digits > 100 && digits < api.MaxDigits-20 && digits%97 != 0 {
			continue
		}
		low := "1" + strings.Repeat("0", digits-1)
		high := strings.Repeat("9", digits)
		mixed := strings.Repeat("9070000000001", 200)[:digits]
		for _, s := range []string{low, high, mixed} {
			want, _ := new(big.Int).SetString(s, 10)
			a, e := nat.Parse(s)
			if e != api.OK {
				t.Fatal(s, e)
			}
			same(t, s, a, want)
		}
	}
	if a, e := nat.Parse("0"); e != api.OK || len(a) != 0 {
		t.Error(a, e)
	}
}

// P3.3: what is no number's Show is ErrForm, however long; only of digits alone is it ErrLong.
func TestParseErrors(t *testing.T) {
	many := strings.Repeat("1", api.MaxDigits)
	for _, x := range []struct {
		s    string
		want api.Errno
	}{
		{"", api.ErrForm}, {"00", api.ErrForm}, {"01", api.ErrForm}, {"-1", api.ErrForm}, {"-0", api.ErrForm}, {"+1", api.ErrForm}, {"-", api.ErrForm},
		{" 1", api.ErrForm}, {"1 ", api.ErrForm}, {"1\n", api.ErrForm}, {"1 2", api.ErrForm}, {"x", api.ErrForm}, {"0x1", api.ErrForm}, {"1_0", api.ErrForm}, {"1.0", api.ErrForm}, {"1e3", api.ErrForm},
		{"/", api.ErrForm}, {":", api.ErrForm}, {"12\x00", api.ErrForm}, {"\xff", api.ErrForm}, {"٣", api.ErrForm}, {"１", api.ErrForm}, {"²", api.ErrForm},
		{"0" + many[1:], api.ErrForm}, {many[1:] + "x", api.ErrForm},
		{many + "1", api.ErrLong}, {strings.Repeat("9", 5000), api.ErrLong},
		{"0" + many, api.ErrForm}, {strings.Repeat("0", api.MaxDigits+1), api.ErrForm}, {"-" + many, api.ErrForm}, {"-" + many + "1", api.ErrForm},
		{many + "x", api.ErrForm}, {"x" + many, api.ErrForm}, {many + " ", api.ErrForm}, {many + "111x", api.ErrForm}, {many[:100] + "." + many, api.ErrForm},
	} {
		if a, e := nat.Parse(x.s); e != x.want || len(a) != 0 {
			t.Errorf("%.20q of %d: %v %v", x.s, len(x.s), a, e)
		}
	}
}

// P3.6: Parse of Show is the number, without noughts at the end.
func TestShowParse(t *testing.T) {
	list := append(nats(), fromBig(power(10, 1999)), fromBig(new(big.Int).Sub(power(10, 2000), big.NewInt(1))))
	for _, a := range list {
		b, e := nat.Parse(nat.Show(a))
		if e != api.OK || !slices.Equal(b, nat.Trim(a)) {
			t.Error(a, b, e)
		}
	}
	if a, e := nat.Parse(nat.Show(fromBig(power(10, 2000)))); e != api.ErrLong || len(a) != 0 {
		t.Error(a, e)
	}
}

// P3.6: Sub(Add(a, b), b) is a.
func TestAddSub(t *testing.T) {
	for _, a := range nats() {
		for _, b := range nats() {
			if d, ok := nat.Sub(nat.Add(a, b), b); !ok || !slices.Equal(d, nat.Trim(a)) {
				t.Error(a, b, d, ok)
			}
		}
	}
}

// spoil writes over all that a list has room for.
func spoil(list api.Nat) {
	list = list[:cap(list)]
	for i := range list {
		list[i] = ^list[i]
	}
}

// answers are all lists that all calls answer of a and b.
func answers(a, b api.Nat) []api.Nat {
	d, _ := nat.Sub(a, b)
	q, r, _ := nat.DivMod(a, b)
	return []api.Nat{nat.Trim(a), nat.Add(a, b), d, nat.Mul(a, b), q, r, nat.Gcd(a, b)}
}

// P3.1 to P3.3: an argument is left as it is, with its spare room, and no answer shares memory with it, or with another answer.
func TestMemory(t *testing.T) {
	for _, x := range nats() {
		for _, y := range nats() {
			a, b := append(slices.Clone(x), 3, 4, 5)[:len(x)], append(slices.Clone(y), 6, 7)[:len(y)]
			allA, allB := slices.Clone(a[:len(a)+3]), slices.Clone(b[:len(b)+2])
			list := answers(a, b)
			nat.Cmp(a, b)
			nat.Bits(a)
			nat.Show(a)
			want := make([]api.Nat, len(list))
			for i, l := range list {
				want[i] = slices.Clone(l)
			}
			for i, l := range list {
				if !slices.Equal(l, want[i]) {
					t.Fatal("shared by answers", i, x, y)
				}
				spoil(l)
			}
			if !slices.Equal(a[:len(a)+3], allA) || !slices.Equal(b[:len(b)+2], allB) {
				t.Fatal("changed", x, y)
			}
		}
	}
}

// P3.1, P3.2: one list that is handed in twice is two numbers.
func TestSameList(t *testing.T) {
	for _, a := range nats() {
		n := toBig(a)
		same(t, "add", nat.Add(a, a), new(big.Int).Add(n, n))
		same(t, "mul", nat.Mul(a, a), new(big.Int).Mul(n, n))
		same(t, "gcd", nat.Gcd(a, a), n)
		if d, ok := nat.Sub(a, a); !ok || len(d) != 0 || nat.Cmp(a, a) != 0 {
			t.Error(a, d, ok)
		}
		if n.Sign() > 0 {
			divides(t, a, a)
		}
	}
}

// P3.3: whatever is read is written as it stood; nothing else is read.
func FuzzParse(f *testing.F) {
	for _, s := range []string{"0", "1", "00", "-1", "4294967296", "1000000000", "", "x", strings.Repeat("9", 2001)} {
		f.Add(s)
	}
	f.Fuzz(func(t *testing.T, s string) {
		a, e := nat.Parse(s)
		switch e {
		case api.OK:
			if nat.Show(a) != s || len(s) > api.MaxDigits {
				t.Error(s, a)
			}
		case api.ErrForm:
			if n, ok := new(big.Int).SetString(s, 10); ok && n.Sign() >= 0 && n.String() == s {
				t.Error(s, e)
			}
		case api.ErrLong:
			if len(s) <= api.MaxDigits || strings.Trim(s, "0123456789") != "" {
				t.Error(s, e)
			}
		default:
			t.Error(s, e)
		}
		if e != api.OK && len(a) != 0 {
			t.Error(s, a, e)
		}
	})
}

// P3.4, P3.5: division and gcd of whatever words.
func FuzzDivide(f *testing.F) {
	f.Add([]byte{1, 2, 3, 4, 5, 6, 7, 8, 9}, []byte{255, 255, 255, 255, 0, 0, 0, 128})
	f.Add([]byte{}, []byte{0, 0, 0, 0, 0})
	f.Fuzz(func(t *testing.T, x, y []byte) {
		a, b := words(x), words(y)
		hasGcd(t, a, b)
		if nat.Bits(b) > 0 {
			divides(t, a, b)
		}
	})
}

// words is a byte string as words, four bytes to each.
func words(bytes []byte) api.Nat {
	a := make(api.Nat, (len(bytes)+3)/4)
	for i, x := range bytes {
		a[i/4] |= uint32(x) << (8 * uint(i%4))
	}
	return a
}
