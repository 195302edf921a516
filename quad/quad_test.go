package quad_test

import (
	"encoding/binary"
	"math"
	"math/big"
	"math/rand"
	"testing"

	"zellige/api"
	"zellige/quad"
	"zellige/wide"
)

const ones = math.MaxUint64

var (
	least        = api.Quad{0, 0, 0, 1 << 63}
	greatest     = api.Quad{ones, ones, ones, 1<<63 - 1}
	one          = api.Quad{1}
	minusOne     = api.Quad{ones, ones, ones, ones}
	leastWide    = api.Wide{Hi: math.MinInt64}
	greatestWide = api.Wide{Hi: math.MaxInt64, Lo: ones}
)

// wideToBig is Hi 2^64 + Lo, reckoned by another library.
func wideToBig(a api.Wide) *big.Int {
	n := new(big.Int).Lsh(big.NewInt(a.Hi), 64)
	return n.Add(n, new(big.Int).SetUint64(a.Lo))
}

// toBig is the number of a's words from -2^255 on, reckoned by another library.
func toBig(a api.Quad) *big.Int {
	n := big.NewInt(int64(a[3]))
	for i := 2; i >= 0; i-- {
		n.Lsh(n, 64)
		n.Add(n, new(big.Int).SetUint64(a[i]))
	}
	return n
}

// fromBig is the quad that n is, modulo 2^256.
func fromBig(n *big.Int) api.Quad {
	round := new(big.Int).Lsh(big.NewInt(1), 256)
	var bytes [32]byte
	new(big.Int).Mod(n, round).FillBytes(bytes[:])
	var a api.Quad
	for i := range a {
		a[i] = binary.BigEndian.Uint64(bytes[24-8*i:])
	}
	return a
}

// wides are all pairs of high and low words at which something changes, and some between.
func wides() []api.Wide {
	var list []api.Wide
	for _, hi := range []int64{0, 1, -1, 2, -2, 1 << 32, -1 << 32, math.MaxInt64, math.MaxInt64 - 1, math.MinInt64, math.MinInt64 + 1} {
		for _, lo := range []uint64{0, 1, 2, 1<<32 - 1, 1 << 32, 1<<63 - 1, 1 << 63, ones - 1, ones} {
			list = append(list, api.Wide{Hi: hi, Lo: lo})
		}
	}
	r := rand.New(rand.NewSource(1))
	for i := 0; i < 80; i++ {
		list = append(list, api.Wide{Hi: int64(r.Uint64()) >> uint(r.Intn(64)), Lo: r.Uint64()})
	}
	return list
}

// quads are all fours of words at which something changes, each power of two with its neighbours, and some between.
func quads() []api.Quad {
	var list []api.Quad
	for _, w0 := range []uint64{0, 1, 1 << 63, ones} {
		for _, w1 := range []uint64{0, 1, 1<<63 - 1, 1 << 63, ones} {
			for _, w2 := range []uint64{0, 1, 1 << 63, ones} {
				for _, w3 := range []uint64{0, 1, 1<<63 - 1, 1 << 63, 1<<63 + 1, ones} {
					list = append(list, api.Quad{w0, w1, w2, w3})
				}
			}
		}
	}
	for i := uint(1); i < 256; i += 3 {
		n := new(big.Int).Lsh(big.NewInt(1), i)
		list = append(list, fromBig(n), fromBig(new(big.Int).Sub(n, big.NewInt(1))), fromBig(new(big.Int).Neg(n)))
	}
	r := rand.New(rand.NewSource(2))
	for i := 0; i < 80; i++ {
		n := new(big.Int).Rand(r, new(big.Int).Lsh(big.NewInt(1), uint(1+r.Intn(255))))
		list = append(list, fromBig(n), fromBig(n.Neg(n)))
	}
	return list
}

// P2.1: a quad is the number of its four words, the first the lowest, and Of is the wide's.
func TestOf(t *testing.T) {
	for _, a := range wides() {
		if q, want := quad.Of(a), fromBig(wideToBig(a)); q != want || toBig(q).Cmp(wideToBig(a)) != 0 {
			t.Error(a, q, want)
		}
	}
	for a, want := range map[api.Wide]api.Quad{
		{}:              {},
		{Hi: 3, Lo: 2}:  {2, 3, 0, 0},
		wide.Of(-1):     minusOne,
		leastWide:       {0, 1 << 63, ones, ones},
		greatestWide:    {ones, 1<<63 - 1, 0, 0},
		{Lo: 1 << 63}:   {1 << 63, 0, 0, 0},
		{Hi: -1, Lo: 0}: {0, ones, ones, ones},
	} {
		if q := quad.Of(a); q != want {
			t.Error(a, q, want)
		}
	}
}

// P2.1: Add, Sub and Neg modulo 2^256.
func TestAddSubNeg(t *testing.T) {
	for _, a := range quads() {
		if n, want := quad.Neg(a), fromBig(new(big.Int).Neg(toBig(a))); n != want {
			t.Error("neg", a, n, want)
		}
		for _, b := range quads() {
			if s, want := quad.Add(a, b), fromBig(new(big.Int).Add(toBig(a), toBig(b))); s != want {
				t.Fatal("add", a, b, s, want)
			}
			if d, want := quad.Sub(a, b), fromBig(new(big.Int).Sub(toBig(a), toBig(b))); d != want {
				t.Fatal("sub", a, b, d, want)
			}
		}
	}
}

// P2.1: sums that go round.
func TestGoesRound(t *testing.T) {
	if a := quad.Add(greatest, one); a != least {
		t.Error(a)
	}
	if a := quad.Add(least, minusOne); a != greatest {
		t.Error(a)
	}
	if a := quad.Sub(least, one); a != greatest {
		t.Error(a)
	}
	if a := quad.Sub(greatest, minusOne); a != least {
		t.Error(a)
	}
	if a := quad.Add(least, least); a != (api.Quad{}) {
		t.Error(a)
	}
	if a := quad.Add(greatest, greatest); a != (api.Quad{ones - 1, ones, ones, ones}) {
		t.Error(a)
	}
	if a := quad.Sub(api.Quad{}, least); a != least {
		t.Error(a)
	}
	if a := quad.Neg(least); a != least {
		t.Error(a)
	}
	if a := quad.Neg(greatest); a != (api.Quad{1, 0, 0, 1 << 63}) {
		t.Error(a)
	}
	if a := quad.Neg(api.Quad{}); a != (api.Quad{}) {
		t.Error(a)
	}
}

// P2.1: Mul always has room.
func TestMul(t *testing.T) {
	for _, a := range wides() {
		for _, b := range wides() {
			p := quad.Mul(a, b)
			if want := new(big.Int).Mul(wideToBig(a), wideToBig(b)); toBig(p).Cmp(want) != 0 {
				t.Fatal(a, b, p, want)
			}
		}
	}
	if a := quad.Mul(leastWide, leastWide); a != (api.Quad{0, 0, 0, 1 << 62}) {
		t.Error(a)
	}
	if a := quad.Mul(leastWide, greatestWide); a != (api.Quad{0, 1 << 63, 0, 3 << 62}) {
		t.Error(a)
	}
	if a := quad.Mul(greatestWide, greatestWide); a != (api.Quad{1, 0, ones, 1<<62 - 1}) {
		t.Error(a)
	}
	if a := quad.Mul(leastWide, wide.Of(-1)); a != (api.Quad{0, 1 << 63, 0, 0}) {
		t.Error(a)
	}
}

// P2.2: Sign and Cmp.
func TestSignCmp(t *testing.T) {
	for _, a := range quads() {
		if s, want := quad.Sign(a), toBig(a).Sign(); s != want {
			t.Error("sign", a, s, want)
		}
		for _, b := range quads() {
			if c, want := quad.Cmp(a, b), toBig(a).Cmp(toBig(b)); c != want {
				t.Fatal("cmp", a, b, c, want)
			}
		}
	}
	if quad.Cmp(least, greatest) != -1 || quad.Cmp(greatest, least) != 1 || quad.Cmp(least, least) != 0 {
		t.Error("the least and the greatest")
	}
	if quad.Sign(least) != -1 || quad.Sign(greatest) != 1 || quad.Sign(api.Quad{}) != 0 {
		t.Error("the least, the greatest and nought")
	}
}

// P2.2: Small, where a wide has room.
func TestSmall(t *testing.T) {
	room := new(big.Int).Lsh(big.NewInt(1), 127)
	hasRoom := func(n *big.Int) bool {
		return n.Cmp(new(big.Int).Neg(room)) >= 0 && n.Cmp(room) < 0
	}
	for _, a := range quads() {
		w, ok := quad.Small(a)
		if want := hasRoom(toBig(a)); ok != want {
			t.Error(a, w, ok)
		}
		if ok && wideToBig(w).Cmp(toBig(a)) != 0 || !ok && w != (api.Wide{}) {
			t.Error(a, w, ok)
		}
	}
	for a, want := range map[api.Quad]api.Wide{
		{0, 1 << 63, ones, ones}: leastWide,
		{ones, 1<<63 - 1, 0, 0}:  greatestWide,
		minusOne:                 {Hi: -1, Lo: ones},
		{}:                       {},
	} {
		if w, ok := quad.Small(a); w != want || !ok {
			t.Error(a, w, ok)
		}
	}
}

// P2.2: Small, where a wide has no room.
func TestSmallNoRoom(t *testing.T) {
	for _, a := range []api.Quad{
		{0, 1 << 63},                   // 2^127
		{ones, 1<<63 - 1, ones, ones},  // -2^127 - 1
		{0, 0, 1},                      // 2^128
		{5, 0, 0, 1},                   // 2^192 + 5
		{5, 0, ones, ones},             // 5 - 2^128
		{5, 0, 0, ones},                // 5 - 2^192
		{5, 1 << 63, 0, ones},          // a low half below nought, as is the number
		{5, 1 << 63, ones, 0},          // a low half below nought, the number above it
		{5, 1 << 63, ones, 1<<63 - 1},  // as above, by one bit
		{5, 1 << 63, ones, ones - 1},   // as above, by the lowest bit
		{5, 1 << 63, ones - 1, ones},   // the third word by its lowest bit
		{5, 1 << 63, ones >> 1, ones},  // the third word by its highest bit
		{5, 1<<63 - 1, 1 << 63, 0},     // the third word alone
		{5, 1<<63 - 1, 0, 1 << 63},     // the fourth word alone
		{ones, ones, 0, 0},             // 2^128 - 1
		{0, 0, ones, ones},             // -2^128
		{0, 0, 1 << 63, 1},             // words of either half
		{ones, ones, ones, ones >> 1},  // the greatest
		{0, 0, 0, 1 << 63},             // the least
		{1, 0, 0, 1 << 63},             // the least and one
		{ones - 1, ones, ones, 1 << 5}, // far above
	} {
		if w, ok := quad.Small(a); w != (api.Wide{}) || ok {
			t.Error(a, w, ok)
		}
	}
}

// P2.2: Hex.
func TestHex(t *testing.T) {
	for _, a := range quads() {
		if s, want := quad.Hex(a), toBig(a).Text(16); s != want {
			t.Error(a, s, want)
		}
	}
	for a, want := range map[api.Quad]string{
		{}:                       "0",
		{9}:                      "9",
		{10}:                     "a",
		{15}:                     "f",
		{16}:                     "10",
		{0x0123456789abcdef}:     "123456789abcdef",
		{0xfedcba9876543210}:     "fedcba9876543210",
		{ones}:                   "ffffffffffffffff",
		{0, 1}:                   "10000000000000000",
		{0, 0, 1}:                "100000000000000000000000000000000",
		{7, 0, 0, 1}:             "1000000000000000000000000000000000000000000000007",
		minusOne:                 "-1",
		{0, ones, ones, ones}:    "-10000000000000000",
		{1, ones, ones, ones}:    "-ffffffffffffffff",
		{0, 1 << 63, ones, ones}: "-80000000000000000000000000000000",
		least:                    "-8000000000000000000000000000000000000000000000000000000000000000",
		greatest:                 "7fffffffffffffffffffffffffffffffffffffffffffffffffffffffffffffff",
	} {
		if s := quad.Hex(a); s != want {
			t.Error(a, s, want)
		}
	}
	if s := quad.Hex(quad.Mul(api.Wide{Hi: 1}, wide.Of(-1))); s != "-10000000000000000" {
		t.Error(s)
	}
}

// P2.3: a ring.
func TestRing(t *testing.T) {
	for _, a := range quads() {
		if b := quad.Add(a, quad.Neg(a)); b != (api.Quad{}) {
			t.Error("add neg", a, b)
		}
		for _, b := range quads() {
			if c := quad.Sub(quad.Add(a, b), b); c != a {
				t.Fatal("sub add", a, b, c)
			}
		}
	}
}

// P2.3: factors may change places, and a sign may go ahead of the product. (-2^127 has no number of the other sign.)
func TestRingOfProducts(t *testing.T) {
	for _, a := range wides() {
		for _, b := range wides() {
			p := quad.Mul(a, b)
			if q := quad.Mul(b, a); p != q {
				t.Fatal("turned about", a, b, p, q)
			}
			if q := quad.Mul(wide.Neg(a), b); a != leastWide && q != quad.Neg(p) {
				t.Fatal("neg", a, b, p, q)
			}
		}
	}
	p := quad.Mul(leastWide, wide.Of(3))
	if q := quad.Mul(wide.Neg(leastWide), wide.Of(3)); q != p || q == quad.Neg(p) {
		t.Error("of -2^127", p, q)
	}
}

// P2.4: as wides.
func TestAsWides(t *testing.T) {
	for _, a := range wides() {
		if w, ok := quad.Small(quad.Of(a)); w != a || !ok {
			t.Error("small", a, w, ok)
		}
		for _, b := range wides() {
			if c, want := quad.Cmp(quad.Of(a), quad.Of(b)), wide.Cmp(a, b); c != want {
				t.Fatal("cmp", a, b, c, want)
			}
		}
	}
}

// Products, sums and texts of any numbers are those of another library (run by go test -fuzz).
func FuzzReckoning(f *testing.F) {
	f.Add(int64(0), uint64(0), int64(0), uint64(0))
	f.Add(int64(-1), uint64(ones), int64(math.MinInt64), uint64(0))
	f.Add(int64(math.MaxInt64), uint64(ones), int64(math.MaxInt64), uint64(ones))
	f.Fuzz(func(t *testing.T, ahi int64, alo uint64, bhi int64, blo uint64) {
		a, b := api.Wide{Hi: ahi, Lo: alo}, api.Wide{Hi: bhi, Lo: blo}
		p := new(big.Int).Mul(wideToBig(a), wideToBig(b))
		if s := quad.Hex(quad.Mul(a, b)); s != p.Text(16) {
			t.Error("mul", a, b, s, p.Text(16))
		}
		sum := quad.Add(quad.Mul(a, b), quad.Of(a))
		if want := fromBig(p.Add(p, wideToBig(a))); sum != want {
			t.Error("add", a, b, sum, want)
		}
	})
}
