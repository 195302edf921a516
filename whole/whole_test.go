package whole_test

import (
	"math"
	"math/big"
	"math/rand"
	"slices"
	"strings"
	"testing"

	"zellige/api"
	"zellige/nat"
	"zellige/whole"
)

const full = math.MaxUint32

// toBig is a's number, reckoned by another library.
func toBig(a api.Int) *big.Int {
	n := new(big.Int)
	for _, w := range slices.Backward(a.Mag) {
		n.Lsh(n, 32)
		n.Add(n, new(big.Int).SetUint64(uint64(w)))
	}
	if a.Neg {
		n.Neg(n)
	}
	return n
}

// fromBig is n in the one form in which numbers are told: no nought at the end, no sign of nought.
func fromBig(n *big.Int) api.Int {
	a := api.Int{Neg: n.Sign() < 0}
	for rest := new(big.Int).Abs(n); rest.Sign() > 0; rest.Rsh(rest, 32) {
		a.Mag = append(a.Mag, uint32(rest.Uint64()))
	}
	return a
}

// power is b^n.
func power(b, n int64) *big.Int {
	return new(big.Int).Exp(big.NewInt(b), big.NewInt(n), nil)
}

// read is the number of a text.
func read(t *testing.T, s string) *big.Int {
	t.Helper()
	n, ok := new(big.Int).SetString(s, 10)
	if !ok {
		t.Fatal(s)
	}
	return n
}

// same tells an error, if a is not the number n in the form in which numbers are told.
func same(t *testing.T, what string, a api.Int, n *big.Int) {
	t.Helper()
	if want := fromBig(n); a.Neg != want.Neg || !slices.Equal(a.Mag, want.Mag) {
		t.Error(what, a, want)
	}
}

// none tells whether a is the zero value.
func none(a api.Int) bool {
	return !a.Neg && len(a.Mag) == 0
}

// noughts are nought in all its forms.
func noughts() []api.Int {
	return []api.Int{{}, {Neg: true}, {Mag: api.Nat{}}, {Neg: true, Mag: api.Nat{0}}, {Mag: api.Nat{0, 0, 0}}, {Neg: true, Mag: api.Nat{0, 0, 0, 0}}}
}

// random is a number of up to so many words, at times with noughts at its end.
func random(r *rand.Rand, words int) api.Int {
	a := api.Int{Neg: r.Intn(2) == 0, Mag: make(api.Nat, r.Intn(words+1))}
	for i := range a.Mag {
		a.Mag[i] = []uint32{0, 1, full, full - 1, 1 << 31, r.Uint32(), r.Uint32(), r.Uint32() >> uint(r.Intn(32))}[r.Intn(8)]
	}
	return a
}

// ints are numbers of both signs at which something changes, and some between; many have noughts at the end.
func ints() []api.Int {
	list := noughts()
	for _, mag := range []api.Nat{
		{1}, {1, 0}, {2}, {3}, {7, 0, 0}, {10}, {full}, {full, 0, 0}, {1 << 31},
		{0, 1}, {1, 1}, {full, 1<<31 - 1}, {0, 1 << 31}, {0, 1 << 31, 0}, {1, 1 << 31}, {full, full}, {full, full, 0},
		{0, 0, 1}, {1, 0, 1}, {full, full, full}, {0, 0, 0, 1 << 31}, {full, full, full, full, 0}, {1, 0, 0, 0, 0, 0, 1},
		fromBig(power(10, 20)).Mag, fromBig(power(10, 100)).Mag, fromBig(power(3, 300)).Mag,
	} {
		list = append(list, api.Int{Mag: mag}, api.Int{Neg: true, Mag: mag})
	}
	r := rand.New(rand.NewSource(4))
	for i := range 50 {
		list = append(list, random(r, 3+i/4))
	}
	return list
}

// P4.1: Norm is the number, with a trimmed Mag, and without a sign if it is nought.
func TestNorm(t *testing.T) {
	for _, a := range noughts() {
		if b := whole.Norm(a); !none(b) {
			t.Error(a, b)
		}
	}
	for _, x := range []struct{ a, want api.Int }{
		{api.Int{Mag: api.Nat{5, 0, 0}}, api.Int{Mag: api.Nat{5}}},
		{api.Int{Neg: true, Mag: api.Nat{0, 7, 0}}, api.Int{Neg: true, Mag: api.Nat{0, 7}}},
		{api.Int{Neg: true, Mag: api.Nat{1}}, api.Int{Neg: true, Mag: api.Nat{1}}},
	} {
		if b := whole.Norm(x.a); b.Neg != x.want.Neg || !slices.Equal(b.Mag, x.want.Mag) {
			t.Error(x.a, b)
		}
	}
	for _, a := range ints() {
		same(t, "norm", whole.Norm(a), toBig(a))
	}
}

// smalls are numbers of 64 bits at which something changes.
func smalls() []int64 {
	return []int64{0, 1, -1, 2, -7, 10, math.MaxInt32, math.MinInt32, full, -full, full + 1, -full - 1, 1 << 62, -1 << 62, math.MaxInt64 - 1, math.MaxInt64, math.MinInt64 + 1, math.MinInt64}
}

// P4.1, P4.6: Of is n, and Small tells it again.
func TestOfSmall(t *testing.T) {
	list := smalls()
	r := rand.New(rand.NewSource(5))
	for range 500 {
		list = append(list, int64(r.Uint64())>>uint(r.Intn(64)))
	}
	for _, n := range list {
		same(t, "of", whole.Of(n), big.NewInt(n))
		if m, ok := whole.Small(whole.Of(n)); m != n || !ok {
			t.Error(n, m, ok)
		}
	}
}

// P4.1: Small is the number from -2^63 to 2^63 - 1, whatever noughts are at its end, and nothing beyond.
func TestSmall(t *testing.T) {
	for _, x := range []struct {
		a    api.Int
		want int64
		ok   bool
	}{
		{api.Int{Mag: api.Nat{full, 1<<31 - 1}}, math.MaxInt64, true},
		{api.Int{Mag: api.Nat{full, 1<<31 - 1, 0, 0}}, math.MaxInt64, true},
		{api.Int{Mag: api.Nat{0, 1 << 31}}, 0, false},
		{api.Int{Mag: api.Nat{0, 1 << 31, 0}}, 0, false},
		{api.Int{Mag: api.Nat{1, 1 << 31}}, 0, false},
		{api.Int{Mag: api.Nat{full, full}}, 0, false},
		{api.Int{Mag: api.Nat{0, 0, 1}}, 0, false},
		{api.Int{Mag: api.Nat{5, 0, 1}}, 0, false},
		{api.Int{Mag: api.Nat{5, 0, 0, 1}}, 0, false},
		{api.Int{Neg: true, Mag: api.Nat{full, 1<<31 - 1}}, -math.MaxInt64, true},
		{api.Int{Neg: true, Mag: api.Nat{0, 1 << 31}}, math.MinInt64, true},
		{api.Int{Neg: true, Mag: api.Nat{0, 1 << 31, 0, 0}}, math.MinInt64, true},
		{api.Int{Neg: true, Mag: api.Nat{1, 1 << 31}}, 0, false},
		{api.Int{Neg: true, Mag: api.Nat{full, full}}, 0, false},
		{api.Int{Neg: true, Mag: api.Nat{0, 0, 1}}, 0, false},
		{api.Int{Neg: true, Mag: api.Nat{5, 0, 1}}, 0, false},
		{api.Int{Neg: true, Mag: api.Nat{3, 0}}, -3, true},
	} {
		if n, ok := whole.Small(x.a); n != x.want || ok != x.ok {
			t.Error(x.a, n, ok)
		}
	}
	for _, a := range ints() {
		want := toBig(a)
		n, ok := whole.Small(a)
		if ok != want.IsInt64() || ok && n != want.Int64() || !ok && n != 0 {
			t.Error(a, n, ok)
		}
	}
}

// P4.1: OfQuad is the number of any quad, of the least one too.
func TestOfQuad(t *testing.T) {
	const all = math.MaxUint64
	list := []api.Quad{
		{}, {1}, {all}, {0, 1}, {0, 0, 1}, {0, 0, 0, 1}, {1 << 32}, {full}, {0, full}, {1, 2, 3, 4}, {all, all, all, all}, {0, all, all, all}, {all - 6, all, all, all},
		{1 << 63}, {0, 1 << 63}, {0, 1 << 63, all, all}, {all, all, all, 1<<63 - 1}, {0, 0, 0, 1 << 63}, {1, 0, 0, 1 << 63}, {all, all, all, 1 << 63}, {0, 0, 1 << 63}, {1, 2, 3, all},
	}
	r := rand.New(rand.NewSource(6))
	for range 300 {
		list = append(list, api.Quad{r.Uint64(), r.Uint64(), r.Uint64(), r.Uint64()})
	}
	for _, q := range list {
		want := new(big.Int)
		for _, w := range slices.Backward(q[:]) {
			want.Lsh(want, 64).Add(want, new(big.Int).SetUint64(w))
		}
		if q[3]>>63 == 1 {
			want.Sub(want, power(2, 256))
		}
		same(t, "quad", whole.OfQuad(q), want)
	}
	if a := whole.OfQuad(api.Quad{0, 0, 0, 1 << 63}); !a.Neg || !slices.Equal(a.Mag, api.Nat{0, 0, 0, 0, 0, 0, 0, 1 << 31}) {
		t.Error(a)
	}
}

// P4.1: Sign and Cmp are the sign and the order of the numbers, in whatever form they are.
func TestSignCmp(t *testing.T) {
	for _, a := range ints() {
		if s, want := whole.Sign(a), toBig(a).Sign(); s != want {
			t.Error(a, s)
		}
		for _, b := range ints() {
			if c, want := whole.Cmp(a, b), toBig(a).Cmp(toBig(b)); c != want {
				t.Error(a, b, c)
			}
		}
		longer := api.Int{Neg: a.Neg, Mag: append(slices.Clone(a.Mag), 0, 0)}
		if whole.Cmp(a, longer) != 0 || whole.Cmp(longer, a) != 0 {
			t.Error(a)
		}
	}
	for _, a := range noughts() {
		for _, b := range noughts() {
			if whole.Sign(a) != 0 || whole.Cmp(a, b) != 0 {
				t.Error(a, b)
			}
		}
	}
}

// P4.2: Add, Sub, Neg and Mul are the sum, the difference, the number with the other sign, the product.
func TestReckon(t *testing.T) {
	for _, a := range ints() {
		same(t, "neg", whole.Neg(a), new(big.Int).Neg(toBig(a)))
		for _, b := range ints() {
			same(t, "add", whole.Add(a, b), new(big.Int).Add(toBig(a), toBig(b)))
			same(t, "sub", whole.Sub(a, b), new(big.Int).Sub(toBig(a), toBig(b)))
			same(t, "mul", whole.Mul(a, b), new(big.Int).Mul(toBig(a), toBig(b)))
		}
	}
	for _, x := range [][5]int64{{5, 3, 8, 2, 15}, {-5, 3, -2, -8, -15}, {5, -3, 2, 8, -15}, {-5, -3, -8, -2, 15}, {3, 5, 8, -2, 15}, {-3, 5, 2, -8, -15}, {4, -4, 0, 8, -16}, {-4, -4, -8, 0, 16}, {0, -4, -4, 4, 0}} {
		a, b := whole.Of(x[0]), whole.Of(x[1])
		same(t, "add", whole.Add(a, b), big.NewInt(x[2]))
		same(t, "sub", whole.Sub(a, b), big.NewInt(x[3]))
		same(t, "mul", whole.Mul(a, b), big.NewInt(x[4]))
	}
}

// P4.1, P4.2: an answer that is nought has no sign, whatever signs went in.
func TestNoughtAnswers(t *testing.T) {
	for _, z := range noughts() {
		for _, a := range ints() {
			if whole.Sign(a) != 0 {
				q, r, e := whole.Floor(z, a)
				if !none(q) || !none(r) || e != api.OK {
					t.Error(z, a, q, r, e)
				}
				if _, r, _ := whole.Floor(whole.Mul(a, whole.Of(-3)), a); !none(r) {
					t.Error(a, r)
				}
			}
			if !none(whole.Mul(z, a)) || !none(whole.Mul(a, z)) || !none(whole.Sub(a, a)) || !none(whole.Add(a, whole.Neg(a))) {
				t.Error(z, a)
			}
		}
		if !none(whole.Neg(z)) {
			t.Error(z)
		}
	}
}

// divides tells an error, if Floor is not the quotient and the rest, or breaks P4.4.
func divides(t *testing.T, a, b api.Int) {
	t.Helper()
	q, r, e := whole.Floor(a, b)
	if e != api.OK {
		t.Fatal(a, b, e)
	}
	// The other library's quotient leaves a rest from nought on: with b below nought it has to be brought below.
	quotient, rest := new(big.Int).DivMod(toBig(a), toBig(b), new(big.Int))
	if rest.Sign() > 0 && toBig(b).Sign() < 0 {
		quotient.Sub(quotient, big.NewInt(1))
		rest.Add(rest, toBig(b))
	}
	same(t, "quotient", q, quotient)
	same(t, "rest", r, rest)
	if back := whole.Add(whole.Mul(q, b), r); whole.Cmp(back, a) != 0 {
		t.Error("back", a, b, q, r)
	}
	if s := whole.Sign(r); s != 0 && s != whole.Sign(b) || nat.Cmp(r.Mag, b.Mag) >= 0 {
		t.Error("rest", a, b, q, r)
	}
}

// P4.2, P4.4: the quotient goes down, the rest has b's sign and is nearer to nought than b.
func TestFloor(t *testing.T) {
	for _, x := range [][4]int64{
		{7, 2, 3, 1}, {-7, 2, -4, 1}, {7, -2, -4, -1}, {-7, -2, 3, -1}, {6, 3, 2, 0}, {-6, 3, -2, 0}, {6, -3, -2, 0}, {-6, -3, 2, 0},
		{1, 10, 0, 1}, {-1, 10, -1, 9}, {1, -10, -1, -9}, {-1, -10, 0, -1}, {0, 5, 0, 0}, {0, -5, 0, 0}, {5, 1, 5, 0}, {5, -1, -5, 0}, {-1 << 63, 1, -1 << 63, 0}, {-1 << 63, 2, -1 << 62, 0},
	} {
		q, r, e := whole.Floor(whole.Of(x[0]), whole.Of(x[1]))
		same(t, "quotient", q, big.NewInt(x[2]))
		same(t, "rest", r, big.NewInt(x[3]))
		if e != api.OK {
			t.Error(x, e)
		}
	}
	for _, a := range ints() {
		for _, b := range ints() {
			if whole.Sign(b) != 0 {
				divides(t, a, b)
				divides(t, whole.Mul(a, b), b)
				divides(t, whole.Add(whole.Mul(a, b), whole.Of(1)), b)
				divides(t, whole.Sub(whole.Mul(a, b), whole.Of(1)), b)
			}
		}
	}
	// -2^63 divided by -1 is beyond 64 bits.
	if q, _, _ := whole.Floor(whole.Of(math.MinInt64), whole.Of(-1)); whole.Show(q) != "9223372036854775808" {
		t.Error(q)
	}
	// The quotient's words are all full before it goes down by one.
	if q, r, e := whole.Floor(api.Int{Neg: true, Mag: api.Nat{1, full, full}}, api.Int{Mag: api.Nat{0, 1, 0}}); !slices.Equal(q.Mag, api.Nat{0, 0, 1}) || !q.Neg || !slices.Equal(r.Mag, api.Nat{full}) || r.Neg || e != api.OK {
		t.Error(q, r, e)
	}
}

// P4.2: by nought nothing is divided, in whatever form it is.
func TestFloorNought(t *testing.T) {
	for _, a := range ints() {
		for _, b := range noughts() {
			if q, r, e := whole.Floor(a, b); e != api.ErrZero || !none(q) || !none(r) {
				t.Error(a, b, q, r, e)
			}
		}
	}
}

// P4.3: Show is decimal digits, - ahead below nought.
func TestShow(t *testing.T) {
	for _, a := range noughts() {
		if s := whole.Show(a); s != "0" {
			t.Error(a, s)
		}
	}
	for _, a := range ints() {
		if s, want := whole.Show(a), toBig(a).String(); s != want {
			t.Error(a, s)
		}
	}
	for _, n := range smalls() {
		if s, want := whole.Show(whole.Of(n)), big.NewInt(n).String(); s != want {
			t.Error(n, s)
		}
	}
	// Show has no bound of digits: only reading has.
	long := new(big.Int).Neg(power(7, 5000))
	if s := whole.Show(fromBig(long)); s != long.String() {
		t.Error(len(s))
	}
}

// P4.3: a text that is a Show is read: the sign is none of its digits.
func TestParse(t *testing.T) {
	for _, digits := range []int{1, 2, 9, 10, 19, 20, 100, 1998, 1999, api.MaxDigits} {
		for _, s := range []string{"1" + strings.Repeat("0", digits-1), strings.Repeat("9", digits), strings.Repeat("9070000000001", 200)[:digits]} {
			for _, s := range []string{s, "-" + s} {
				a, e := whole.Parse(s)
				if e != api.OK {
					t.Fatal(len(s), e)
				}
				same(t, s, a, read(t, s))
			}
		}
	}
	for _, s := range []string{"0", "1", "-1", "9223372036854775807", "-9223372036854775808", "-9223372036854775809", "-18446744073709551616"} {
		a, e := whole.Parse(s)
		if e != api.OK {
			t.Error(s, e)
		}
		same(t, s, a, read(t, s))
	}
}

// P4.3: what is no number's Show is ErrForm; only of digits alone, and of these behind one -, is it ErrLong.
func TestParseErrors(t *testing.T) {
	many := strings.Repeat("1", api.MaxDigits)
	for _, x := range []struct {
		s    string
		want api.Errno
	}{
		{"", api.ErrForm}, {"-", api.ErrForm}, {"-0", api.ErrForm}, {"--", api.ErrForm}, {"--0", api.ErrForm}, {"--1", api.ErrForm}, {"---1", api.ErrForm}, {"+1", api.ErrForm}, {"+", api.ErrForm}, {"+0", api.ErrForm}, {"-+1", api.ErrForm}, {"+-1", api.ErrForm},
		{"00", api.ErrForm}, {"01", api.ErrForm}, {"-00", api.ErrForm}, {"-01", api.ErrForm}, {"0-", api.ErrForm}, {"1-", api.ErrForm}, {"-1-", api.ErrForm}, {"1-1", api.ErrForm},
		{" 1", api.ErrForm}, {"1 ", api.ErrForm}, {"- 1", api.ErrForm}, {" -1", api.ErrForm}, {"-1\n", api.ErrForm}, {"x", api.ErrForm}, {"-x", api.ErrForm}, {"0x1", api.ErrForm}, {"1_0", api.ErrForm}, {"-1.0", api.ErrForm}, {"1e3", api.ErrForm},
		{"−1", api.ErrForm}, {"-٣", api.ErrForm}, {"-\xff", api.ErrForm}, {"\x00", api.ErrForm},
		{many + "1", api.ErrLong}, {"-" + many + "1", api.ErrLong}, {strings.Repeat("9", 5000), api.ErrLong}, {"-" + strings.Repeat("9", 5000), api.ErrLong},
		{"--" + many, api.ErrForm}, {"--" + many + "1", api.ErrForm}, {"+" + many, api.ErrForm}, {"+" + many + "1", api.ErrForm}, {"0" + many, api.ErrForm}, {"-0" + many, api.ErrForm}, {"-" + strings.Repeat("0", 5000), api.ErrForm}, {"-" + many + "x", api.ErrForm}, {many + "1-", api.ErrForm},
	} {
		if a, e := whole.Parse(x.s); e != x.want || !none(a) {
			t.Errorf("%.20q of %d: %v %v", x.s, len(x.s), a, e)
		}
	}
}

// P4.5: Sub(Add(a, b), b) is a.
func TestAddSub(t *testing.T) {
	for _, a := range ints() {
		for _, b := range ints() {
			same(t, "sub of add", whole.Sub(whole.Add(a, b), b), toBig(a))
		}
	}
}

// P4.5: Mul(a, Add(b, c)) is Add(Mul(a, b), Mul(a, c)).
func TestDistribute(t *testing.T) {
	r := rand.New(rand.NewSource(7))
	for range 5000 {
		a, b, c := random(r, 20), random(r, 20), random(r, 20)
		left, right := whole.Mul(a, whole.Add(b, c)), whole.Add(whole.Mul(a, b), whole.Mul(a, c))
		if left.Neg != right.Neg || !slices.Equal(left.Mag, right.Mag) {
			t.Error(a, b, c, left, right)
		}
	}
}

// P4.6: Parse of Show is the number, in the form in which numbers are told.
func TestShowParse(t *testing.T) {
	most := new(big.Int).Sub(power(10, api.MaxDigits), big.NewInt(1))
	list := append(ints(), fromBig(most), fromBig(new(big.Int).Neg(most)), fromBig(new(big.Int).Neg(power(10, api.MaxDigits-1))))
	for _, a := range list {
		b, e := whole.Parse(whole.Show(a))
		if e != api.OK {
			t.Error(a, e)
		}
		same(t, "parse of show", b, toBig(a))
	}
	for _, n := range []*big.Int{power(10, api.MaxDigits), new(big.Int).Neg(power(10, api.MaxDigits))} {
		if a, e := whole.Parse(whole.Show(fromBig(n))); e != api.ErrLong || !none(a) {
			t.Error(a, e)
		}
	}
}

// answers are all numbers that all calls answer of a and b.
func answers(a, b api.Int) []api.Int {
	q, r, _ := whole.Floor(a, b)
	return []api.Int{whole.Norm(a), whole.Add(a, b), whole.Sub(a, b), whole.Neg(a), whole.Mul(a, b), q, r}
}

// spoil writes over all that a list has room for.
func spoil(list api.Nat) {
	list = list[:cap(list)]
	for i := range list {
		list[i] = ^list[i]
	}
}

// P4.1, P4.2: an argument is left as it is, with its spare room, and no answer shares memory with it, or with another answer.
func TestMemory(t *testing.T) {
	for _, x := range ints() {
		for _, y := range ints() {
			a, b := x, y
			a.Mag, b.Mag = append(slices.Clone(x.Mag), 3, 4, 5)[:len(x.Mag)], append(slices.Clone(y.Mag), 6, 7)[:len(y.Mag)]
			allA, allB := slices.Clone(a.Mag[:len(a.Mag)+3]), slices.Clone(b.Mag[:len(b.Mag)+2])
			list := answers(a, b)
			whole.Cmp(a, b)
			whole.Sign(a)
			whole.Small(a)
			whole.Show(a)
			want := make([]api.Nat, len(list))
			for i, l := range list {
				want[i] = slices.Clone(l.Mag)
			}
			for i, l := range list {
				if !slices.Equal(l.Mag, want[i]) {
					t.Fatal("shared by answers", i, x, y)
				}
				spoil(l.Mag)
			}
			if !slices.Equal(a.Mag[:len(a.Mag)+3], allA) || !slices.Equal(b.Mag[:len(b.Mag)+2], allB) {
				t.Fatal("changed", x, y)
			}
		}
	}
}

// P4.2: one list that is handed in twice, with signs alike and unlike, is two numbers.
func TestSameList(t *testing.T) {
	for _, a := range ints() {
		b := api.Int{Neg: !a.Neg, Mag: a.Mag}
		n, twice := toBig(a), new(big.Int).Mul(toBig(a), big.NewInt(2))
		square := new(big.Int).Mul(n, n)
		same(t, "add", whole.Add(a, a), twice)
		same(t, "sub", whole.Sub(a, b), twice)
		same(t, "mul", whole.Mul(a, a), square)
		same(t, "mul", whole.Mul(a, b), new(big.Int).Neg(square))
		if !none(whole.Add(a, b)) || !none(whole.Sub(a, a)) {
			t.Error(a)
		}
		if n.Sign() != 0 {
			divides(t, a, a)
			divides(t, a, b)
		}
	}
}

// P4.3: whatever is read is written as it stood; nothing else is read.
func FuzzParse(f *testing.F) {
	for _, s := range []string{"0", "-0", "1", "-1", "00", "--1", "-", "", "x", "-9223372036854775809", "-" + strings.Repeat("9", 2001)} {
		f.Add(s)
	}
	f.Fuzz(func(t *testing.T, s string) {
		a, e := whole.Parse(s)
		digits := strings.TrimPrefix(s, "-")
		switch e {
		case api.OK:
			if whole.Show(a) != s || len(digits) > api.MaxDigits {
				t.Error(s, a)
			}
		case api.ErrForm:
			if n, ok := new(big.Int).SetString(s, 10); ok && n.String() == s {
				t.Error(s, e)
			}
		case api.ErrLong:
			if len(digits) <= api.MaxDigits || strings.Trim(digits, "0123456789") != "" {
				t.Error(s, e)
			}
		default:
			t.Error(s, e)
		}
		if e != api.OK && !none(a) {
			t.Error(s, a, e)
		}
	})
}
