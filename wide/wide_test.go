package wide_test

import (
	"math"
	"math/big"
	"math/rand"
	"strings"
	"testing"

	"zellige/api"
	"zellige/wide"
)

var (
	least    = api.Wide{Hi: math.MinInt64}
	greatest = api.Wide{Hi: math.MaxInt64, Lo: math.MaxUint64}
	one      = api.Wide{Lo: 1}
	minusOne = api.Wide{Hi: -1, Lo: math.MaxUint64}
	round    = new(big.Int).Lsh(big.NewInt(1), 128)
)

// toBig is Hi 2^64 + Lo, reckoned by another library.
func toBig(a api.Wide) *big.Int {
	n := new(big.Int).Lsh(big.NewInt(a.Hi), 64)
	return n.Add(n, new(big.Int).SetUint64(a.Lo))
}

// fromBig is the wide that n is, modulo 2^128.
func fromBig(n *big.Int) api.Wide {
	m := new(big.Int).Mod(n, round)
	hi := new(big.Int).Rsh(m, 64).Uint64()
	lo := new(big.Int).And(m, new(big.Int).SetUint64(math.MaxUint64)).Uint64()
	return api.Wide{Hi: int64(hi), Lo: lo}
}

// words are numbers of 64 bits at which something changes, and some between.
func words() []int64 {
	list := []int64{0, 1, -1, 2, -2, 3, -3, 9, 10, -10, 99, 100, 1 << 31, -1 << 31, 1<<32 - 1, 1 << 32, 1<<32 + 1, -1 << 32, 1 << 62, -1 << 62,
		999999999999999999, 1000000000000000000, -1000000000000000000, math.MaxInt64, math.MaxInt64 - 1, math.MinInt64, math.MinInt64 + 1}
	r := rand.New(rand.NewSource(1))
	for i := 0; i < 40; i++ {
		list = append(list, int64(r.Uint64())>>uint(r.Intn(64)))
	}
	return list
}

// wides are all pairs of high and low words at which something changes, and some between. (Of 10 2^64 a tenth has an empty low word.)
func wides() []api.Wide {
	var list []api.Wide
	for _, hi := range []int64{0, 1, -1, 2, -2, 10, -10, 1000, 1 << 32, math.MaxInt64, math.MaxInt64 - 1, math.MinInt64, math.MinInt64 + 1} {
		for _, lo := range []uint64{0, 1, 2, 9, 10, 1<<32 - 1, 1 << 32, 1<<63 - 1, 1 << 63, 1<<63 + 1, math.MaxUint64 - 1, math.MaxUint64} {
			list = append(list, api.Wide{Hi: hi, Lo: lo})
		}
	}
	n := big.NewInt(1)
	for i := 0; i <= 38; i++ { // ten to every power that has room, and its neighbours
		list = append(list, fromBig(n), fromBig(new(big.Int).Sub(n, big.NewInt(1))), fromBig(new(big.Int).Neg(n)))
		n = new(big.Int).Mul(n, big.NewInt(10))
	}
	r := rand.New(rand.NewSource(2))
	for i := 0; i < 60; i++ {
		list = append(list, api.Wide{Hi: int64(r.Uint64()) >> uint(r.Intn(64)), Lo: r.Uint64()})
	}
	return list
}

// P1.1: Of, and a wide is Hi 2^64 + Lo.
func TestOf(t *testing.T) {
	for _, n := range words() {
		if a := wide.Of(n); a != fromBig(big.NewInt(n)) {
			t.Error(n, a)
		}
	}
	if a := wide.Of(-1); a != minusOne {
		t.Error(a)
	}
	if a := wide.Of(math.MinInt64); a != (api.Wide{Hi: -1, Lo: 1 << 63}) {
		t.Error(a)
	}
}

// P1.1: Add, Sub and Neg modulo 2^128.
func TestAddSubNeg(t *testing.T) {
	for _, a := range wides() {
		if n, want := wide.Neg(a), fromBig(new(big.Int).Neg(toBig(a))); n != want {
			t.Error("neg", a, n, want)
		}
		for _, b := range wides() {
			if s, want := wide.Add(a, b), fromBig(new(big.Int).Add(toBig(a), toBig(b))); s != want {
				t.Error("add", a, b, s, want)
			}
			if d, want := wide.Sub(a, b), fromBig(new(big.Int).Sub(toBig(a), toBig(b))); d != want {
				t.Error("sub", a, b, d, want)
			}
		}
	}
}

// P1.1: sums that go round.
func TestGoesRound(t *testing.T) {
	if a := wide.Add(greatest, one); a != least {
		t.Error(a)
	}
	if a := wide.Add(least, minusOne); a != greatest {
		t.Error(a)
	}
	if a := wide.Sub(least, one); a != greatest {
		t.Error(a)
	}
	if a := wide.Sub(greatest, minusOne); a != least {
		t.Error(a)
	}
	if a := wide.Add(least, least); a != (api.Wide{}) {
		t.Error(a)
	}
	if a := wide.Add(greatest, greatest); a != wide.Of(-2) {
		t.Error(a)
	}
	if a := wide.Neg(least); a != least {
		t.Error(a)
	}
}

// P1.1: Mul always has room.
func TestMul(t *testing.T) {
	for _, a := range words() {
		for _, b := range words() {
			p := wide.Mul(a, b)
			if want := new(big.Int).Mul(big.NewInt(a), big.NewInt(b)); toBig(p).Cmp(want) != 0 {
				t.Error(a, b, p, want)
			}
		}
	}
	if s := wide.Show(wide.Mul(-3, 1<<62)); s != "-13835058055282163712" {
		t.Error(s)
	}
	if a := wide.Mul(math.MinInt64, math.MinInt64); a != (api.Wide{Hi: 1 << 62}) {
		t.Error(a)
	}
	if a := wide.Mul(math.MinInt64, math.MaxInt64); a != (api.Wide{Hi: -1 << 62, Lo: 1 << 63}) {
		t.Error(a)
	}
}

// P1.2: Sign and Cmp.
func TestSignCmp(t *testing.T) {
	for _, a := range wides() {
		if s, want := wide.Sign(a), toBig(a).Sign(); s != want {
			t.Error("sign", a, s, want)
		}
		for _, b := range wides() {
			if c, want := wide.Cmp(a, b), toBig(a).Cmp(toBig(b)); c != want {
				t.Error("cmp", a, b, c, want)
			}
		}
	}
	if wide.Cmp(least, greatest) != -1 || wide.Cmp(greatest, least) != 1 {
		t.Error("the least and the greatest")
	}
}

// P1.2: Small.
func TestSmall(t *testing.T) {
	for _, n := range words() {
		if m, ok := wide.Small(wide.Of(n)); m != n || !ok {
			t.Error(n, m, ok)
		}
	}
	for _, a := range wides() {
		n, ok := wide.Small(a)
		if want := toBig(a).IsInt64(); ok != want {
			t.Error(a, n, ok)
		}
		if ok && wide.Of(n) != a || !ok && n != 0 {
			t.Error(a, n, ok)
		}
	}
	for _, a := range []api.Wide{{Lo: 1 << 63}, {Hi: -1, Lo: 1<<63 - 1}, {Hi: 1}, {Hi: 1, Lo: 5}, {Hi: -2, Lo: math.MaxUint64}, least, greatest} {
		if n, ok := wide.Small(a); n != 0 || ok {
			t.Error(a, n, ok)
		}
	}
}

// P1.3: Show.
func TestShow(t *testing.T) {
	for _, a := range wides() {
		if s, want := wide.Show(a), toBig(a).String(); s != want {
			t.Error(a, s, want)
		}
	}
	for a, want := range map[api.Wide]string{
		{}:       "0",
		minusOne: "-1",
		least:    "-170141183460469231731687303715884105728",
		greatest: "170141183460469231731687303715884105727",
	} {
		if s := wide.Show(a); s != want {
			t.Error(a, s, want)
		}
	}
}

// P1.3: texts that are no number's Show.
func TestParseRefuses(t *testing.T) {
	texts := []string{
		"", "-", "--", "--1", "-+1", "+", "+0", "+1", "-0", "00", "-00", "01", "-01", "007", " ", " 1", "1 ", "- 1", "1-", "1-1", "1\n", "\x00", "1\x00",
		"a", "1a", "a1", "0x1", "1e3", "1.0", "1_000", "1,000", "/", ":", "1/", "1:", "٣", "１", "−1", "\xff", "1\xff",
		"170141183460469231731687303715884105728",  // the greatest and one
		"-170141183460469231731687303715884105729", // the least less one
		"340282366920938463463374607431768211455",  // -1, modulo 2^128
		"340282366920938463463374607431768211456",  // 0, modulo 2^128
		"340282366920938463463374607431768211457",  // 1, modulo 2^128
		"-340282366920938463463374607431768211455",
		"999999999999999999999999999999999999999",
		"-999999999999999999999999999999999999999",
		"1000000000000000000000000000000000000000",
		strings.Repeat("0", 41),
		strings.Repeat("9", 5000),
		"-" + strings.Repeat("9", 5000),
		strings.Repeat("0", 5000) + "1",
	}
	for _, s := range texts {
		if a, e := wide.Parse(s); a != (api.Wide{}) || e != api.ErrForm {
			t.Errorf("%q: %v %v", s, a, e)
		}
	}
}

// P1.3: of every text of few letters, Parse takes just those that are a number's Show.
func TestParseFewLetters(t *testing.T) {
	isNumber := func(s string) bool {
		n, ok := new(big.Int).SetString(s, 10)
		return ok && n.String() == s
	}
	const letters = "-+019/: "
	var try func(s string)
	try = func(s string) {
		a, e := wide.Parse(s)
		if ok := isNumber(s); ok != (e == api.OK) || ok && wide.Show(a) != s || !ok && (a != api.Wide{} || e != api.ErrForm) {
			t.Errorf("%q: %v %v", s, a, e)
		}
		for i := 0; i < len(letters) && len(s) < 4; i++ {
			try(s + letters[i:i+1])
		}
	}
	try("")
}

// P1.3: a byte of the longest text that is another one is told.
func TestParseLongest(t *testing.T) {
	for _, a := range []api.Wide{least, greatest} {
		text := wide.Show(a)
		for i := range len(text) {
			for b := range 256 {
				s := text[:i] + string([]byte{byte(b)}) + text[i+1:]
				n, ok := new(big.Int).SetString(s, 10)
				ok = ok && n.String() == s && toBig(fromBig(n)).Cmp(n) == 0
				got, e := wide.Parse(s)
				if ok && (got != fromBig(n) || e != api.OK) || !ok && (got != api.Wide{} || e != api.ErrForm) {
					t.Fatalf("%q: %v %v", s, got, e)
				}
			}
		}
	}
}

// P1.4: a ring.
func TestRing(t *testing.T) {
	for _, a := range wides() {
		if b := wide.Neg(wide.Neg(a)); b != a {
			t.Error("neg neg", a, b)
		}
		if b := wide.Add(a, wide.Neg(a)); b != (api.Wide{}) {
			t.Error("add neg", a, b)
		}
		for _, b := range wides() {
			if c := wide.Sub(wide.Add(a, b), b); c != a {
				t.Error("sub add", a, b, c)
			}
		}
	}
}

// P1.5: there and back.
func TestThereAndBack(t *testing.T) {
	for _, a := range wides() {
		if b, e := wide.Parse(wide.Show(a)); b != a || e != api.OK {
			t.Error(a, wide.Show(a), b, e)
		}
	}
}

// P1.6: as numbers of 64 bits.
func TestAsNumbers(t *testing.T) {
	sign := func(n int64) int { return big.NewInt(n).Sign() }
	for _, a := range words() {
		for _, b := range words() {
			if c, want := wide.Cmp(wide.Of(a), wide.Of(b)), big.NewInt(a).Cmp(big.NewInt(b)); c != want {
				t.Error("cmp", a, b, c, want)
			}
			if s, want := wide.Sign(wide.Mul(a, b)), sign(a)*sign(b); s != want {
				t.Error("sign", a, b, s, want)
			}
		}
	}
}

// P1.6: Mul(a, b) and Mul(a, c) together are a times b + c.
func TestTogether(t *testing.T) {
	for _, a := range words() {
		for _, b := range words() {
			for _, c := range words() {
				sum := b + c
				if (b < 0) == (c < 0) && (sum < 0) != (b < 0) { // b + c has more bits
					continue
				}
				if p, want := wide.Add(wide.Mul(a, b), wide.Mul(a, c)), wide.Mul(a, sum); p != want {
					t.Error(a, b, c, p, want)
				}
			}
		}
	}
}

// Any text is taken just if it is a number's Show (run by go test -fuzz).
func FuzzParse(f *testing.F) {
	for _, a := range wides() {
		f.Add(wide.Show(a))
	}
	f.Fuzz(func(t *testing.T, s string) {
		a, e := wide.Parse(s)
		n, ok := new(big.Int).SetString(s, 10)
		ok = ok && n.String() == s && toBig(fromBig(n)).Cmp(n) == 0
		if ok && (a != fromBig(n) || e != api.OK) || !ok && (a != api.Wide{} || e != api.ErrForm) {
			t.Errorf("%q: %v %v", s, a, e)
		}
	})
}
