package rat_test

import (
	"math"
	"math/big"
	"math/rand"
	"slices"
	"strings"
	"testing"

	"zellige/api"
	"zellige/rat"
	"zellige/whole"
)

const full = math.MaxUint32

// natBig is a list's number, reckoned by another library.
func natBig(a api.Nat) *big.Int {
	n := new(big.Int)
	for _, w := range slices.Backward(a) {
		n.Lsh(n, 32)
		n.Add(n, new(big.Int).SetUint64(uint64(w)))
	}
	return n
}

// intBig is a's number.
func intBig(a api.Int) *big.Int {
	n := natBig(a.Mag)
	if a.Neg {
		n.Neg(n)
	}
	return n
}

// toBig is a's fraction; one whose Den is nought is nought.
func toBig(a api.Rat) *big.Rat {
	den := natBig(a.Den)
	if den.Sign() == 0 {
		return new(big.Rat)
	}
	return new(big.Rat).SetFrac(intBig(a.Num), den)
}

// words are the words of a number without its sign, no nought at the end.
func words(n *big.Int) api.Nat {
	var list api.Nat
	for rest := new(big.Int).Abs(n); rest.Sign() > 0; rest.Rsh(rest, 32) {
		list = append(list, uint32(rest.Uint64()))
	}
	return list
}

// fromInt is n in the one form in which whole numbers are told.
func fromInt(n *big.Int) api.Int {
	return api.Int{Neg: n.Sign() < 0, Mag: words(n)}
}

// fromBig is q in the one form in which fractions are told; the other library keeps lowest terms, too.
func fromBig(q *big.Rat) api.Rat {
	return api.Rat{Num: fromInt(q.Num()), Den: words(q.Denom())}
}

// power is b^n.
func power(b, n int64) *big.Int {
	return new(big.Int).Exp(big.NewInt(b), big.NewInt(n), nil)
}

// frac is num / den as it stands, not in lowest terms.
func frac(num int64, den ...uint32) api.Rat {
	return api.Rat{Num: whole.Of(num), Den: den}
}

// equal tells whether two fractions are alike to the word.
func equal(a, b api.Rat) bool {
	return a.Num.Neg == b.Num.Neg && slices.Equal(a.Num.Mag, b.Num.Mag) && slices.Equal(a.Den, b.Den)
}

// same tells an error, if a is not the fraction q in the form in which fractions are told.
func same(t *testing.T, what string, a api.Rat, q *big.Rat) {
	t.Helper()
	if want := fromBig(q); !equal(a, want) {
		t.Error(what, a, want)
	}
}

// sameInt tells an error, if a is not the number n in the form in which whole numbers are told.
func sameInt(t *testing.T, what string, a api.Int, n *big.Int) {
	t.Helper()
	if want := fromInt(n); a.Neg != want.Neg || !slices.Equal(a.Mag, want.Mag) {
		t.Error(what, a, want)
	}
}

// isNought tells whether a is 0 / 1, to the word.
func isNought(a api.Rat) bool {
	return !a.Num.Neg && len(a.Num.Mag) == 0 && slices.Equal(a.Den, api.Nat{1})
}

// noughts are nought in all its forms: by Num, by Den, by both, with and without a sign.
func noughts() []api.Rat {
	neg := api.Int{Neg: true, Mag: api.Nat{0, 0}}
	return []api.Rat{
		{}, {Den: api.Nat{1}}, {Den: api.Nat{7}}, {Den: api.Nat{0, 5, 0}}, {Den: api.Nat{0}}, {Den: api.Nat{0, 0, 0}},
		{Num: neg}, {Num: neg, Den: api.Nat{}}, {Num: neg, Den: api.Nat{0}}, {Num: neg, Den: api.Nat{1}}, {Num: neg, Den: api.Nat{6, 0}}, {Num: api.Int{Neg: true}, Den: api.Nat{2}},
		frac(5), frac(-5), frac(5, 0), frac(-5, 0, 0), {Num: api.Int{Neg: true, Mag: api.Nat{full, full, 0}}, Den: api.Nat{0, 0}},
	}
}

// random is a fraction of up to so many words, at times with noughts at the end, at times not in lowest terms.
func random(r *rand.Rand, most int) api.Rat {
	list := func() api.Nat {
		a := make(api.Nat, r.Intn(most+1))
		for i := range a {
			a[i] = []uint32{0, 1, full, full - 1, 1 << 31, 6, r.Uint32(), r.Uint32(), r.Uint32() >> uint(r.Intn(32))}[r.Intn(9)]
		}
		return a
	}
	num, den := list(), list()
	if r.Intn(3) == 0 {
		common := natBig(list())
		num, den = words(new(big.Int).Mul(natBig(num), common)), words(new(big.Int).Mul(natBig(den), common))
	}
	return api.Rat{Num: api.Int{Neg: r.Intn(2) == 0, Mag: num}, Den: den}
}

// rats are fractions of both signs at which something changes, and some between.
func rats() []api.Rat {
	list := noughts()
	mags := []api.Nat{
		{1}, {1, 0}, {2}, {3, 0, 0}, {4}, {6}, {12, 0}, {full}, {0, 1}, {0, 2, 0}, {full, full}, {0, 1 << 31},
		{0, 0, 6}, {full, full, full, 0}, words(power(6, 60)), words(power(10, 100)),
	}
	for _, num := range mags {
		for _, den := range mags {
			list = append(list, api.Rat{Num: api.Int{Mag: num}, Den: den}, api.Rat{Num: api.Int{Neg: true, Mag: num}, Den: den})
		}
	}
	r := rand.New(rand.NewSource(5))
	for i := range 60 {
		list = append(list, random(r, 2+i/4))
	}
	return list
}

// few are some of rats, for tests that take three of them or reckon long.
func few() []api.Rat {
	var list []api.Rat
	for i, a := range rats() {
		if i%7 == 0 {
			list = append(list, a)
		}
	}
	return list
}

// P5.1: Norm is the same fraction in lowest terms, its numbers without noughts at the end, nought as 0 / 1.
func TestNorm(t *testing.T) {
	for _, a := range noughts() {
		if b := rat.Norm(a); !isNought(b) {
			t.Error(a, b)
		}
	}
	for _, x := range []struct{ a, want api.Rat }{
		{frac(6, 4), frac(3, 2)}, {frac(-6, 4), frac(-3, 2)}, {frac(3, 2), frac(3, 2)}, {frac(4, 2), frac(2, 1)}, {frac(-2, 4), frac(-1, 2)}, {frac(7, 7), frac(1, 1)}, {frac(-7, 1), frac(-7, 1)},
		{frac(5, 1, 0), frac(5, 1)}, {frac(1, 0, 2, 0, 0), frac(1, 0, 2)}, {frac(2, 0, 2), frac(1, 0, 1)}, {frac(1<<33, 0, 2), frac(1, 1)}, {frac(0, 9), frac(0, 1)},
		{api.Rat{Num: api.Int{Neg: true, Mag: api.Nat{0, 10, 0}}, Den: api.Nat{0, 15, 0}}, frac(-2, 3)},
		{api.Rat{Num: api.Int{Mag: words(power(6, 500))}, Den: words(power(10, 500))}, api.Rat{Num: api.Int{Mag: words(power(3, 500))}, Den: words(power(5, 500))}},
	} {
		if b := rat.Norm(x.a); !equal(b, x.want) {
			t.Error(x.a, b)
		}
	}
	for _, a := range rats() {
		same(t, "norm", rat.Norm(a), toBig(a))
	}
}

// P5.1: Of is n / 1.
func TestOf(t *testing.T) {
	for _, n := range []int64{0, 1, -1, 2, -7, full, -full, full + 1, -full - 1, 1 << 62, math.MaxInt64, math.MinInt64 + 1, math.MinInt64} {
		same(t, "of", rat.Of(n), new(big.Rat).SetInt64(n))
	}
	if !isNought(rat.Of(0)) {
		t.Error(rat.Of(0))
	}
}

// P5.1: Make is num / den, whatever signs they have; by nought it is nought and ErrZero.
func TestMake(t *testing.T) {
	for _, x := range []struct {
		num, den int64
		want     api.Rat
	}{
		{6, 4, frac(3, 2)}, {6, -4, frac(-3, 2)}, {-6, 4, frac(-3, 2)}, {-6, -4, frac(3, 2)}, {1, 1, frac(1, 1)}, {1, -1, frac(-1, 1)}, {-8, -2, frac(4, 1)}, {0, 3, frac(0, 1)}, {0, -3, frac(0, 1)},
		{math.MinInt64, math.MinInt64, frac(1, 1)}, {1, math.MinInt64, frac(-1, 0, 1<<31)}, {math.MinInt64, -1 << 62, frac(2, 1)},
	} {
		if a, e := rat.Make(whole.Of(x.num), whole.Of(x.den)); e != api.OK || !equal(a, x.want) {
			t.Error(x, a, e)
		}
	}
	dens := []api.Int{{}, {Neg: true}, {Mag: api.Nat{0}}, {Neg: true, Mag: api.Nat{0, 0, 0}}}
	for _, a := range rats() {
		for _, den := range dens {
			if b, e := rat.Make(a.Num, den); e != api.ErrZero || !isNought(b) {
				t.Error(a.Num, den, b, e)
			}
		}
		for _, b := range few() {
			a, e := rat.Make(a.Num, b.Num)
			if den := intBig(b.Num); den.Sign() == 0 {
				if e != api.ErrZero || !isNought(a) {
					t.Error(a, e)
				}
			} else if e != api.OK {
				t.Error(a, e)
			}
		}
	}
	r := rand.New(rand.NewSource(6))
	for range 500 {
		num, den := random(r, 20).Num, random(r, 20).Num
		if intBig(den).Sign() == 0 {
			continue
		}
		a, e := rat.Make(num, den)
		if e != api.OK {
			t.Error(num, den, e)
		}
		same(t, "make", a, new(big.Rat).SetFrac(intBig(num), intBig(den)))
	}
}

// P5.2: Add, Sub, Neg and Mul are as of numbers, in lowest terms.
func TestReckon(t *testing.T) {
	for _, x := range []struct{ a, b, add, sub, mul api.Rat }{
		{frac(1, 2), frac(1, 3), frac(5, 6), frac(1, 6), frac(1, 6)},
		{frac(1, 6), frac(1, 3), frac(1, 2), frac(-1, 6), frac(1, 18)},
		{frac(-1, 2), frac(1, 2), frac(0, 1), frac(-1, 1), frac(-1, 4)},
		{frac(3, 2), frac(1, 2), frac(2, 1), frac(1, 1), frac(3, 4)},
		{frac(2, 4), frac(3, 6), frac(1, 1), frac(0, 1), frac(1, 4)},
		{frac(2, 3), frac(-3, 2), frac(-5, 6), frac(13, 6), frac(-1, 1)},
		{frac(-5, 0), frac(1, 2), frac(1, 2), frac(-1, 2), frac(0, 1)},
		{frac(1, 2), frac(5), frac(1, 2), frac(1, 2), frac(0, 1)},
		{frac(1, 0, 1), frac(1, 0, 1), frac(1, 1<<31), frac(0, 1), frac(1, 0, 0, 1)},
	} {
		if add, sub, mul := rat.Add(x.a, x.b), rat.Sub(x.a, x.b), rat.Mul(x.a, x.b); !equal(add, x.add) || !equal(sub, x.sub) || !equal(mul, x.mul) {
			t.Error(x, add, sub, mul)
		}
	}
	for _, a := range rats() {
		same(t, "neg", rat.Neg(a), new(big.Rat).Neg(toBig(a)))
		for _, b := range few() {
			same(t, "add", rat.Add(a, b), new(big.Rat).Add(toBig(a), toBig(b)))
			same(t, "add", rat.Add(b, a), new(big.Rat).Add(toBig(a), toBig(b)))
			same(t, "sub", rat.Sub(a, b), new(big.Rat).Sub(toBig(a), toBig(b)))
			same(t, "sub", rat.Sub(b, a), new(big.Rat).Sub(toBig(b), toBig(a)))
			same(t, "mul", rat.Mul(a, b), new(big.Rat).Mul(toBig(a), toBig(b)))
			same(t, "mul", rat.Mul(b, a), new(big.Rat).Mul(toBig(a), toBig(b)))
		}
	}
}

// P5.1, P5.2: an answer that is nought is 0 / 1, whatever went in.
func TestNoughtAnswers(t *testing.T) {
	for _, a := range rats() {
		for i, b := range []api.Rat{rat.Sub(a, a), rat.Add(a, rat.Neg(a)), rat.Add(rat.Neg(a), a)} {
			if !isNought(b) {
				t.Error(i, a, b)
			}
		}
	}
	for _, z := range noughts() {
		if !isNought(rat.Neg(z)) {
			t.Error(z)
		}
		for _, a := range rats() {
			if !isNought(rat.Mul(z, a)) || !isNought(rat.Mul(a, z)) {
				t.Error(z, a)
			}
			if q, e := rat.Div(z, a); toBig(a).Sign() != 0 && (e != api.OK || !isNought(q)) {
				t.Error(z, a, q, e)
			}
		}
	}
}

// P5.2: Div is the quotient; by nought, in whatever form it is, nought and ErrZero.
func TestDiv(t *testing.T) {
	for _, x := range []struct{ a, b, want api.Rat }{
		{frac(1, 2), frac(1, 3), frac(3, 2)}, {frac(-1, 2), frac(1, 2), frac(-1, 1)}, {frac(1, 2), frac(-1, 2), frac(-1, 1)}, {frac(-3, 2), frac(-2, 3), frac(9, 4)}, {frac(4, 6), frac(2, 3), frac(1, 1)}, {frac(7, 1), frac(7, 2), frac(2, 1)}, {frac(5), frac(-2, 3), frac(0, 1)},
	} {
		if q, e := rat.Div(x.a, x.b); e != api.OK || !equal(q, x.want) {
			t.Error(x, q, e)
		}
	}
	for _, a := range rats() {
		for _, z := range noughts() {
			if q, e := rat.Div(a, z); e != api.ErrZero || !isNought(q) {
				t.Error(a, z, q, e)
			}
		}
		for _, b := range few() {
			if toBig(b).Sign() == 0 {
				continue
			}
			q, e := rat.Div(a, b)
			if e != api.OK {
				t.Error(a, b, e)
			}
			same(t, "div", q, new(big.Rat).Quo(toBig(a), toBig(b)))
		}
	}
}

// P5.1, P5.2: Sign and Cmp are the sign and the order of the fractions, in whatever form they are.
func TestSignCmp(t *testing.T) {
	for _, x := range []struct {
		a, b api.Rat
		want int
	}{
		{frac(2, 3), frac(3, 4), -1}, {frac(-2, 3), frac(-3, 4), 1}, {frac(2, 3), frac(-3, 4), 1}, {frac(-2, 3), frac(3, 4), -1}, {frac(2, 4), frac(1, 2), 0}, {frac(-6, 4), frac(-3, 2), 0}, {frac(1, 3), frac(1, 2), -1}, {frac(3, 1), frac(2, 1), 1},
		{frac(0, 5), frac(7), 0}, {frac(-7), frac(7, 0), 0}, {frac(-7), frac(-1, 9), 1}, {frac(7), frac(1, 9), -1}, {frac(1, full), frac(1, 0, 1), 1},
	} {
		if c := rat.Cmp(x.a, x.b); c != x.want {
			t.Error(x, c)
		}
		if c := rat.Cmp(x.b, x.a); c != -x.want {
			t.Error(x, c)
		}
	}
	for _, a := range rats() {
		if s, want := rat.Sign(a), toBig(a).Sign(); s != want {
			t.Error(a, s)
		}
		if rat.Cmp(a, rat.Norm(a)) != 0 || rat.Cmp(rat.Norm(a), a) != 0 {
			t.Error(a)
		}
		for _, b := range few() {
			if c, want := rat.Cmp(a, b), toBig(a).Cmp(toBig(b)); c != want {
				t.Error(a, b, c)
			}
		}
	}
	for _, a := range noughts() {
		for _, b := range noughts() {
			if rat.Sign(a) != 0 || rat.Cmp(a, b) != 0 {
				t.Error(a, b)
			}
		}
	}
}

// bigFloor is the greatest whole number that is not above q: the other library's quotient leaves a rest from nought on.
func bigFloor(q *big.Rat) *big.Int {
	return new(big.Int).Div(q.Num(), q.Denom())
}

// P5.2: Floor goes down, Round to the nearest and, of a half, up, on both sides of nought.
func TestFloorRound(t *testing.T) {
	for _, x := range []struct {
		a            api.Rat
		floor, round int64
	}{
		{frac(-1, 2), -1, 0}, {frac(-3, 2), -2, -1}, {frac(1, 2), 0, 1}, {frac(3, 2), 1, 2}, {frac(-5, 2), -3, -2}, {frac(5, 2), 2, 3}, {frac(-2, 4), -1, 0}, {frac(-9, 6), -2, -1}, {frac(2, 4, 0), 0, 1},
		{frac(1, 3), 0, 0}, {frac(2, 3), 0, 1}, {frac(-1, 3), -1, 0}, {frac(-2, 3), -1, -1}, {frac(-5, 3), -2, -2}, {frac(-4, 3), -2, -1}, {frac(4, 3), 1, 1}, {frac(5, 3), 1, 2},
		{frac(7, 1), 7, 7}, {frac(-7, 1), -7, -7}, {frac(6, 3), 2, 2}, {frac(-6, 3), -2, -2}, {frac(0, 4), 0, 0}, {frac(9), 0, 0}, {frac(-9, 0), 0, 0},
		{frac(1, 0, 1), 0, 0}, {frac(-1, 0, 1), -1, 0}, {frac(1<<31, 0, 1), 0, 1}, {frac(-1<<31, 0, 1), -1, 0}, {frac(-1<<31-1, 0, 1), -1, -1}, {frac(1<<31-1, 0, 1), 0, 0},
		{frac(math.MaxInt64, 1), math.MaxInt64, math.MaxInt64}, {frac(math.MinInt64, 1), math.MinInt64, math.MinInt64},
	} {
		sameInt(t, "floor", rat.Floor(x.a), big.NewInt(x.floor))
		sameInt(t, "round", rat.Round(x.a), big.NewInt(x.round))
	}
	for _, a := range rats() {
		q := toBig(a)
		sameInt(t, "floor", rat.Floor(a), bigFloor(q))
		sameInt(t, "round", rat.Round(a), bigFloor(new(big.Rat).Add(q, big.NewRat(1, 2))))
	}
}

// P5.5: Floor(a) <= a < Floor(a) + 1; a - 1/2 < Round(a) <= a + 1/2.
func TestNearest(t *testing.T) {
	list := rats()
	r := rand.New(rand.NewSource(7))
	for range 300 {
		list = append(list, random(r, 12))
	}
	// Wholes, halves, and what lies next to them.
	for _, a := range few() {
		n := new(big.Rat).SetInt(intBig(a.Num))
		for _, d := range []*big.Rat{new(big.Rat), big.NewRat(1, 2), new(big.Rat).SetFrac(big.NewInt(1), power(10, 50))} {
			list = append(list, fromBig(new(big.Rat).Add(n, d)), fromBig(new(big.Rat).Sub(n, d)))
		}
	}
	half := big.NewRat(1, 2)
	for _, a := range list {
		q := toBig(a)
		floor := new(big.Rat).SetInt(intBig(rat.Floor(a)))
		if over := new(big.Rat).Sub(q, floor); over.Sign() < 0 || over.Cmp(big.NewRat(1, 1)) >= 0 {
			t.Error("floor", a, floor)
		}
		round := new(big.Rat).SetInt(intBig(rat.Round(a)))
		if above := new(big.Rat).Sub(round, q); above.Cmp(half) > 0 || above.Cmp(new(big.Rat).Neg(half)) <= 0 {
			t.Error("round", a, round)
		}
	}
}

// shown is the text that the document asks for, by the other library.
func shown(q *big.Rat) string {
	if q.IsInt() {
		return q.Num().String()
	}
	return q.String()
}

// P5.3: Show is Num's digits and, if Den is not 1, / and Den's, in lowest terms.
func TestShow(t *testing.T) {
	for _, a := range noughts() {
		if s := rat.Show(a); s != "0" {
			t.Error(a, s)
		}
	}
	for _, x := range []struct {
		a    api.Rat
		want string
	}{
		{frac(1, 1), "1"}, {frac(-1, 1), "-1"}, {frac(1, 2), "1/2"}, {frac(-1, 2), "-1/2"}, {frac(6, 4), "3/2"}, {frac(-6, 4), "-3/2"}, {frac(6, 3), "2"}, {frac(3, 3), "1"}, {frac(10, 1, 0), "10"}, {frac(1, 0, 1), "1/4294967296"}, {frac(math.MinInt64, 3), "-9223372036854775808/3"},
	} {
		if s := rat.Show(x.a); s != x.want {
			t.Error(x, s)
		}
	}
	for _, a := range rats() {
		if s, want := rat.Show(a), shown(toBig(a)); s != want {
			t.Error(a, s, want)
		}
	}
	// Show has no bound of digits: only reading has.
	long := new(big.Rat).SetFrac(new(big.Int).Neg(power(7, 5000)), power(3, 5000))
	if s := rat.Show(fromBig(long)); s != long.String() {
		t.Error(len(s))
	}
}

// P5.3: a text that is a Show is read, up to MaxDigits digits on either side, the sign beside them.
func TestParse(t *testing.T) {
	most, even := strings.Repeat("9", api.MaxDigits), strings.Repeat("8", api.MaxDigits)
	ten := "1" + strings.Repeat("0", api.MaxDigits-1)
	for _, s := range []string{
		"0", "1", "-1", "2", "10", "-10", "1/2", "-1/2", "3/2", "-3/2", "1/3", "7/10", "-13/6", "4294967296/4294967297", "-9223372036854775809/2", "1/18446744073709551616",
		most, "-" + most, ten, most + "/2", "-" + most + "/2", "1/" + most, "-1/" + most, "2/" + most, most + "/" + ten, "-" + most + "/" + ten, ten + "/" + most, "-" + ten + "/" + most, "1/" + ten, even + "/" + "7" + strings.Repeat("9", api.MaxDigits-1),
	} {
		want, ok := new(big.Rat).SetString(s)
		if !ok || shown(want) != s {
			t.Fatalf("%.20q is no Show", s)
		}
		a, e := rat.Parse(s)
		if e != api.OK {
			t.Errorf("%.20q of %d: %v", s, len(s), e)
		}
		same(t, s, a, want)
	}
}

// P5.3: what is no fraction's Show is 0 / 1 and the error of what stands ahead of the first /, then of what stands behind it, then ErrForm.
func TestParseErrors(t *testing.T) {
	most := strings.Repeat("1", api.MaxDigits)
	long := most + "1"
	even := strings.Repeat("2", api.MaxDigits)
	for _, x := range []struct {
		s    string
		want api.Errno
	}{
		{"", api.ErrForm}, {"/", api.ErrForm}, {"//", api.ErrForm}, {"1/", api.ErrForm}, {"-1/", api.ErrForm}, {"/2", api.ErrForm}, {"-/2", api.ErrForm}, {"-", api.ErrForm}, {"/0", api.ErrForm}, {"0/", api.ErrForm},
		{"2/4", api.ErrForm}, {"-2/4", api.ErrForm}, {"6/4", api.ErrForm}, {"3/3", api.ErrForm}, {"3/1", api.ErrForm}, {"-3/1", api.ErrForm}, {"0/1", api.ErrForm}, {"0/5", api.ErrForm}, {"1/0", api.ErrForm}, {"-1/0", api.ErrForm}, {"0/0", api.ErrForm}, {"1/1", api.ErrForm},
		{"1/-2", api.ErrForm}, {"-1/-2", api.ErrForm}, {"1/+2", api.ErrForm}, {"+1/2", api.ErrForm}, {"--1/2", api.ErrForm}, {"-0", api.ErrForm}, {"-0/5", api.ErrForm}, {"-0/1", api.ErrForm},
		{"1/2/3", api.ErrForm}, {"1//2", api.ErrForm}, {"/1/2", api.ErrForm}, {"1/2/", api.ErrForm},
		{"00", api.ErrForm}, {"01", api.ErrForm}, {"01/2", api.ErrForm}, {"1/02", api.ErrForm}, {"-01/2", api.ErrForm}, {"00/2", api.ErrForm}, {"1/00", api.ErrForm}, {"1/01", api.ErrForm},
		{" 1/2", api.ErrForm}, {"1 /2", api.ErrForm}, {"1/ 2", api.ErrForm}, {"1/2 ", api.ErrForm}, {"1/2\n", api.ErrForm}, {"x", api.ErrForm}, {"x/2", api.ErrForm}, {"1/x", api.ErrForm}, {"1.5", api.ErrForm}, {"1/2.0", api.ErrForm}, {"1∕2", api.ErrForm}, {"1/٣", api.ErrForm}, {"1\\2", api.ErrForm}, {"1/\xff", api.ErrForm},
		{long, api.ErrLong}, {"-" + long, api.ErrLong}, {long + "/2", api.ErrLong}, {"-" + long + "/2", api.ErrLong}, {"1/" + long, api.ErrLong}, {"-1/" + long, api.ErrLong}, {long + "/" + long, api.ErrLong}, {"0/" + long, api.ErrLong}, {"2/" + long, api.ErrLong}, {most + "/" + long, api.ErrLong},
		// The part ahead comes first, whatever stands behind.
		{long + "/", api.ErrLong}, {long + "/x", api.ErrLong}, {long + "/0", api.ErrLong}, {long + "/1", api.ErrLong}, {long + "/-2", api.ErrLong}, {long + "/2/3", api.ErrLong},
		{"/" + long, api.ErrForm}, {"x/" + long, api.ErrForm}, {"-0/" + long, api.ErrForm}, {"01/" + long, api.ErrForm}, {"-/" + long, api.ErrForm}, {"+1/" + long, api.ErrForm},
		// Behind a part that is read, that part's own error comes ahead of what both make.
		{"1/0" + long, api.ErrForm}, {"1/-" + long, api.ErrForm}, {"1/" + long + "x", api.ErrForm}, {"1/" + long + "/2", api.ErrForm}, {"1/2/" + long, api.ErrForm},
		{most + "/" + most, api.ErrForm}, {even + "/" + most, api.ErrForm}, {most + "/1", api.ErrForm}, {most + "/0", api.ErrForm}, {"0/" + most, api.ErrForm}, {even + "/2", api.ErrForm}, {"2/" + even, api.ErrForm},
	} {
		if a, e := rat.Parse(x.s); e != x.want || !isNought(a) {
			t.Errorf("%.20q of %d: %v %v", x.s, len(x.s), a, e)
		}
	}
}

// P5.4: Sub(Add(a, b), b) is a; Div(Mul(a, b), b) is a, if b is not nought.
func TestBack(t *testing.T) {
	for _, a := range rats() {
		for _, b := range few() {
			same(t, "sub of add", rat.Sub(rat.Add(a, b), b), toBig(a))
			if toBig(b).Sign() == 0 {
				continue
			}
			q, e := rat.Div(rat.Mul(a, b), b)
			if e != api.OK {
				t.Error(a, b, e)
			}
			same(t, "div of mul", q, toBig(a))
		}
	}
}

// P5.4: Mul(a, Add(b, c)) is Add(Mul(a, b), Mul(a, c)).
func TestDistribute(t *testing.T) {
	r := rand.New(rand.NewSource(8))
	for range 1500 {
		a, b, c := random(r, 10), random(r, 10), random(r, 10)
		left, right := rat.Mul(a, rat.Add(b, c)), rat.Add(rat.Mul(a, b), rat.Mul(a, c))
		if !equal(left, right) {
			t.Error(a, b, c, left, right)
		}
	}
}

// P5.6: Parse of Show is the fraction, in lowest terms.
func TestShowParse(t *testing.T) {
	most := new(big.Int).Sub(power(10, api.MaxDigits), big.NewInt(1))
	list := append(rats(), fromBig(new(big.Rat).SetFrac(most, power(10, api.MaxDigits-1))), fromBig(new(big.Rat).SetFrac(big.NewInt(-4), most)))
	for _, a := range list {
		b, e := rat.Parse(rat.Show(a))
		if e != api.OK {
			t.Error(a, e)
		}
		same(t, "parse of show", b, toBig(a))
	}
	for _, q := range []*big.Rat{new(big.Rat).SetInt(power(10, api.MaxDigits)), new(big.Rat).SetFrac(big.NewInt(-1), power(10, api.MaxDigits))} {
		if a, e := rat.Parse(rat.Show(fromBig(q))); e != api.ErrLong || !isNought(a) {
			t.Error(a, e)
		}
	}
}

// answers are the lists of all answers of all calls with a and b.
func answers(a, b api.Rat) []api.Nat {
	made, _ := rat.Make(a.Num, b.Num)
	ofDens, _ := rat.Make(api.Int{Mag: a.Den}, api.Int{Neg: true, Mag: b.Den})
	quotient, _ := rat.Div(a, b)
	read, _ := rat.Parse(rat.Show(a))
	unread, _ := rat.Parse("/")
	lists := []api.Nat{rat.Floor(a).Mag, rat.Round(a).Mag}
	for _, c := range []api.Rat{made, ofDens, rat.Of(7), rat.Norm(a), rat.Add(a, b), rat.Sub(a, b), rat.Neg(a), rat.Mul(a, b), quotient, read, unread} {
		lists = append(lists, c.Num.Mag, c.Den)
	}
	return lists
}

// roomy is a list with spare room behind it, which is filled.
func roomy(list api.Nat) api.Nat {
	return append(slices.Clone(list), 3, 4, 5)[:len(list)]
}

// spoil writes over all that a list has room for.
func spoil(list api.Nat) {
	list = list[:cap(list)]
	for i := range list {
		list[i] = ^list[i]
	}
}

// P5.1, P5.2: an argument is left as it is, with its spare room, and no answer shares memory with it, or with another list.
func TestMemory(t *testing.T) {
	for _, x := range rats() {
		for _, y := range few() {
			given := []api.Nat{roomy(x.Num.Mag), roomy(x.Den), roomy(y.Num.Mag), roomy(y.Den)}
			var all []api.Nat
			for _, l := range given {
				all = append(all, slices.Clone(l[:len(l)+3]))
			}
			a := api.Rat{Num: api.Int{Neg: x.Num.Neg, Mag: given[0]}, Den: given[1]}
			b := api.Rat{Num: api.Int{Neg: y.Num.Neg, Mag: given[2]}, Den: given[3]}
			lists := answers(a, b)
			rat.Cmp(a, b)
			rat.Sign(a)
			want := make([]api.Nat, len(lists))
			for i, l := range lists {
				want[i] = slices.Clone(l)
			}
			for i, l := range lists {
				if !slices.Equal(l, want[i]) {
					t.Fatal("shared by answers", i, x, y)
				}
				spoil(l)
			}
			for i, l := range given {
				if !slices.Equal(l[:len(l)+3], all[i]) {
					t.Fatal("changed", i, x, y)
				}
			}
		}
	}
}

// P5.2: one list that is handed in twice, as Num and as Den too, is two numbers.
func TestSameList(t *testing.T) {
	for _, a := range rats() {
		q := toBig(a)
		same(t, "add", rat.Add(a, a), new(big.Rat).Add(q, q))
		same(t, "mul", rat.Mul(a, a), new(big.Rat).Mul(q, q))
		if rat.Cmp(a, a) != 0 || !isNought(rat.Sub(a, a)) {
			t.Error(a)
		}
		one := api.Rat{Num: api.Int{Neg: true, Mag: a.Den}, Den: a.Den}
		same(t, "norm", rat.Norm(one), toBig(one))
		if b, e := rat.Div(a, a); q.Sign() != 0 && (e != api.OK || !equal(b, frac(1, 1))) {
			t.Error(a, b, e)
		}
	}
}

// isShow tells by the other library whether s is some fraction's Show.
func isShow(s string) bool {
	num, den, both := strings.Cut(s, "/")
	n, ok := new(big.Int).SetString(num, 10)
	if !ok || n.String() != num {
		return false
	}
	if !both {
		return true
	}
	d, ok := new(big.Int).SetString(den, 10)
	return ok && d.Sign() > 0 && shown(new(big.Rat).SetFrac(n, d)) == s
}

// P5.3: whatever is read is written as it stood; nothing else is read.
func FuzzParse(f *testing.F) {
	for _, s := range []string{"0", "-0", "1/2", "-1/2", "2/4", "3/1", "1/0", "1/-2", "1/2/3", "/", "", "x/2", "-9223372036854775809/2", "1/" + strings.Repeat("9", 2001)} {
		f.Add(s)
	}
	f.Fuzz(func(t *testing.T, s string) {
		a, e := rat.Parse(s)
		num, den, _ := strings.Cut(s, "/")
		tooLong := max(len(strings.TrimPrefix(num, "-")), len(den)) > api.MaxDigits
		switch e {
		case api.OK:
			if rat.Show(a) != s || tooLong || !equal(a, rat.Norm(a)) {
				t.Error(s, a)
			}
		case api.ErrForm:
			if isShow(s) {
				t.Error(s, e)
			}
		case api.ErrLong:
			if !tooLong {
				t.Error(s, e)
			}
		default:
			t.Error(s, e)
		}
		if e != api.OK && !isNought(a) {
			t.Error(s, a, e)
		}
	})
}
