package lift_test

import (
	"math"
	"math/big"
	"math/rand"
	"slices"
	"testing"

	"zellige/api"
	"zellige/lift"
)

// end is the greatest number that a point or a side may have, written out apart from api.
const end = 1099511627776

// inside tells by the document's words whether a point's number can be.
func inside(c int64) bool {
	return c >= -end && c <= end
}

// coords are numbers of points at which something changes, within what can be and outside of it, and some between.
func coords() []int64 {
	return []int64{
		math.MinInt64, math.MinInt64 + 1, -1 << 41, -end - 1, -end, -end + 1, -1 << 39, -1000, -11, -10, -9, -1,
		0, 1, 9, 10, 11, 1000, 1 << 39, end - 1, end, end + 1, 1 << 41, math.MaxInt64 - 1, math.MaxInt64,
	}
}

// sides are sides that can be.
func sides() []int64 {
	return []int64{1, 2, 3, 10, 1 << 20, 1<<39 - 1, 1 << 39, 1<<39 + 1, end - 1, end}
}

// wrongSides are sides that can't be.
func wrongSides() []int64 {
	return []int64{math.MinInt64, -end, -10, -1, 0, end + 1, 1 << 62, math.MaxInt64}
}

// offs are numbers of sides at which something changes; by some of them a product, taken modulo 2^64, would be small.
func offs() []int {
	return []int{
		math.MinInt64, math.MinInt64 + 1, -1 << 62, -1<<41 - 1, -1 << 41, -end - 1, -end, -1 << 24, -9, -3, -2, -1,
		0, 1, 2, 3, 9, 1 << 24, 1 << 32, end, end + 1, 1 << 41, 1<<41 + 1, 1 << 62, math.MaxInt64 - 1, math.MaxInt64,
	}
}

// wrongPoints are points that can't be, by either number or by both.
func wrongPoints() []api.Point {
	var list []api.Point
	for _, c := range coords() {
		if !inside(c) {
			list = append(list, api.Point{X: c}, api.Point{Y: c}, api.Point{X: c, Y: c}, api.Point{X: end, Y: c}, api.Point{X: c, Y: -end})
		}
	}
	return list
}

// someCoord is a number that can be: at times near nought, near an end, or anywhere.
func someCoord(r *rand.Rand) int64 {
	switch r.Intn(3) {
	case 0:
		return r.Int63n(201) - 100
	case 1:
		return (end - r.Int63n(100)) * (2*r.Int63n(2) - 1)
	}
	return r.Int63n(2*end+1) - end
}

// somePoint is a point that can be.
func somePoint(r *rand.Rand) api.Point {
	return api.Point{X: someCoord(r), Y: someCoord(r)}
}

// someSide is a side that can be: at times small, at times great.
func someSide(r *rand.Rand) int64 {
	return 1 + r.Int63n(1<<r.Intn(41))
}

// P6.1: a point can be reckoned with, if both its numbers are from -2^40 to 2^40.
func TestCan(t *testing.T) {
	if api.MaxCoord != end {
		t.Fatal("MaxCoord is", api.MaxCoord)
	}
	for _, x := range coords() {
		for _, y := range coords() {
			p := api.Point{X: x, Y: y}
			if got := lift.Can(p); got != (inside(x) && inside(y)) {
				t.Error("Can", p, "is", got)
			}
		}
	}
}

// P6.1: At goes o.X sides to the right and o.Y up.
func TestAt(t *testing.T) {
	for _, c := range []struct {
		p    api.Point
		o    api.Off
		side int64
		want api.Point
	}{
		{api.Point{X: 3, Y: 4}, api.Off{}, 10, api.Point{X: 3, Y: 4}},
		{api.Point{X: 3, Y: 4}, api.Off{X: 1}, 10, api.Point{X: 13, Y: 4}},
		{api.Point{X: 3, Y: 4}, api.Off{Y: 1}, 10, api.Point{X: 3, Y: 14}},
		{api.Point{X: 3, Y: 4}, api.Off{X: -2, Y: 5}, 7, api.Point{X: -11, Y: 39}},
		{api.Point{X: end, Y: -end}, api.Off{X: -2, Y: 2}, end, api.Point{X: -end, Y: end}},
		{api.Point{X: end, Y: -end}, api.Off{X: -2 * end, Y: 2 * end}, 1, api.Point{X: -end, Y: end}},
		{api.Point{X: -end, Y: end}, api.Off{X: 1, Y: -1}, end, api.Point{}},
		{api.Point{X: end - 10, Y: 10 - end}, api.Off{X: 1, Y: -1}, 10, api.Point{X: end, Y: -end}},
	} {
		if got, ok := lift.At(c.p, c.o, c.side); got != c.want || !ok {
			t.Error("At", c.p, c.o, c.side, "is", got, ok, "not", c.want)
		}
	}
}

// atBig is the number that lies so many sides off c, and whether it can be, by another library.
func atBig(c int64, by int, side int64) (int64, bool) {
	n := new(big.Int).Mul(big.NewInt(int64(by)), big.NewInt(side))
	n.Add(n, big.NewInt(c))
	return n.Int64(), n.CmpAbs(big.NewInt(end)) <= 0
}

// P6.1: At tells just those points that can be, from one end of what can be to the other, however far off is asked for.
func TestAtAll(t *testing.T) {
	for _, side := range sides() {
		for _, c := range coords() {
			for _, by := range offs() {
				want, can := atBig(c, by, side)
				can = can && inside(c)
				right, okRight := lift.At(api.Point{X: c, Y: 5}, api.Off{X: by}, side)
				up, okUp := lift.At(api.Point{X: 5, Y: c}, api.Off{Y: by}, side)
				if !can && (okRight || okUp || right != api.Point{} || up != api.Point{}) {
					t.Fatal("from", c, "by", by, "sides of", side, "is", right, up, "though it can't be")
				}
				if can && (!okRight || !okUp || right != api.Point{X: want, Y: 5} || up != api.Point{X: 5, Y: want}) {
					t.Fatal("from", c, "by", by, "sides of", side, "is", right, up, "not", want)
				}
			}
		}
	}
}

// P6.1: At that lands one beyond what can be, or whose product or sum would go round, is noughts and false.
func TestAtBeyond(t *testing.T) {
	for _, c := range []struct {
		from int64
		by   int
		side int64
	}{
		{end, 1, 1}, {-end, -1, 1}, {end - 9, 1, 10}, {9 - end, -1, 10}, {1, 1, end}, {-1, -1, end},
		{end - 1, -2, end}, {1 - end, 2, end}, {-end, 2*end + 1, 1}, {end, -2*end - 1, 1},
		{0, math.MinInt64, 1}, {-1, math.MinInt64, 1}, {end, math.MaxInt64, 1}, {0, math.MinInt64, end},
		{0, math.MinInt64, 2}, {3, 1 << 62, 4}, {3, -1 << 62, 4}, {3, 1 << 24, end}, {3, -1 << 24, end},
		{3, 1<<24 + 1, end}, {0, math.MaxInt64, end}, {-end, math.MaxInt64, 3},
	} {
		for _, x := range []struct {
			p api.Point
			o api.Off
		}{
			{api.Point{X: c.from}, api.Off{X: c.by}},
			{api.Point{Y: c.from}, api.Off{Y: c.by}},
			{api.Point{X: c.from, Y: c.from}, api.Off{X: c.by, Y: c.by}},
		} {
			if q, ok := lift.At(x.p, x.o, c.side); ok || q != (api.Point{}) {
				t.Error("At", x.p, x.o, c.side, "is", q, ok)
			}
		}
	}
}

// P6.1: At from a point that can't be, or of a side that can't be, is noughts and false, though what is asked for could be.
func TestAtWrong(t *testing.T) {
	for _, side := range wrongSides() {
		for _, o := range []api.Off{{}, {X: 1, Y: 1}, {X: -1}, {Y: math.MinInt64}} {
			if q, ok := lift.At(api.Point{X: 1, Y: 2}, o, side); ok || q != (api.Point{}) {
				t.Error("At", o, "with side", side, "is", q, ok)
			}
		}
	}
	for _, p := range append(wrongPoints(), api.Point{X: end + 1, Y: -end - 1}) {
		for _, o := range []api.Off{{}, {X: -1}, {X: 1}, {Y: -1}, {Y: 1}, {X: -1, Y: 1}} {
			if q, ok := lift.At(p, o, 10); ok || q != (api.Point{}) {
				t.Error("At", p, o, "is", q, ok)
			}
		}
	}
}

// P6.2: Home is the place in the first square, and by how many sides the point lies off it.
func TestHome(t *testing.T) {
	for _, c := range []struct {
		from, side, place int64
		by                int
	}{
		{3, 10, 3, 0}, {0, 10, 0, 0}, {9, 10, 9, 0}, {10, 10, 0, 1}, {11, 10, 1, 1}, {25, 10, 5, 2},
		{-1, 10, 9, -1}, {-9, 10, 1, -1}, {-10, 10, 0, -1}, {-11, 10, 9, -2}, {-20, 10, 0, -2}, {-21, 10, 9, -3}, {-19, 10, 1, -2},
		{0, 1, 0, 0}, {5, 1, 0, 5}, {-5, 1, 0, -5}, {end, 1, 0, end}, {-end, 1, 0, -end},
		{end, end, 0, 1}, {-end, end, 0, -1}, {end - 1, end, end - 1, 0}, {1 - end, end, 1, -1}, {-1, end, end - 1, -1},
		{end, end - 1, 1, 1}, {-end, end - 1, end - 2, -2},
	} {
		q, o, ok := lift.Home(api.Point{X: c.from, Y: 25}, c.side)
		if !ok || q.X != c.place || o.X != c.by {
			t.Error("Home of X", c.from, "with side", c.side, "is", q, o, ok)
		}
		q, o, ok = lift.Home(api.Point{X: 25, Y: c.from}, c.side)
		if !ok || q.Y != c.place || o.Y != c.by {
			t.Error("Home of Y", c.from, "with side", c.side, "is", q, o, ok)
		}
	}
	if q, o, ok := lift.Home(api.Point{X: -1, Y: 25}, 10); !ok || q != (api.Point{X: 9, Y: 5}) || o != (api.Off{X: -1, Y: 2}) {
		t.Error("Home of the example is", q, o, ok)
	}
}

// homeBig is c's place and by how many sides it lies off, by another library, whose rest is from nought on.
func homeBig(c, side int64) (int64, int) {
	by, place := new(big.Int).DivMod(big.NewInt(c), big.NewInt(side), new(big.Int))
	return place.Int64(), int(by.Int64())
}

// P6.2: Home of many points.
func TestHomeMany(t *testing.T) {
	r := rand.New(rand.NewSource(6))
	for range 20000 {
		p, side := somePoint(r), someSide(r)
		x, right := homeBig(p.X, side)
		y, up := homeBig(p.Y, side)
		q, o, ok := lift.Home(p, side)
		if !ok || q != (api.Point{X: x, Y: y}) || o != (api.Off{X: right, Y: up}) {
			t.Fatal("Home", p, side, "is", q, o, ok)
		}
	}
}

// P6.2: Home of a point or of a side that can't be is noughts and false.
func TestHomeWrong(t *testing.T) {
	nothing := func(p api.Point, side int64) {
		if q, o, ok := lift.Home(p, side); ok || q != (api.Point{}) || o != (api.Off{}) {
			t.Error("Home", p, side, "is", q, o, ok)
		}
	}
	for _, side := range wrongSides() {
		nothing(api.Point{}, side)
		nothing(api.Point{X: -1, Y: 25}, side)
	}
	for _, p := range wrongPoints() {
		nothing(p, 1)
		nothing(p, 10)
		nothing(p, end)
	}
}

// P6.3: Cmp is by X, then by Y, of any points.
func TestCmp(t *testing.T) {
	for _, c := range []struct {
		a, b api.Point
		want int
	}{
		{api.Point{X: 1, Y: 9}, api.Point{X: 2, Y: 0}, -1},
		{api.Point{X: 2, Y: 0}, api.Point{X: 1, Y: 9}, 1},
		{api.Point{X: 1, Y: 8}, api.Point{X: 1, Y: 9}, -1},
		{api.Point{X: 1, Y: 9}, api.Point{X: 1, Y: 8}, 1},
		{api.Point{X: 1, Y: 9}, api.Point{X: 1, Y: 9}, 0},
		{api.Point{X: -1, Y: 1}, api.Point{X: 1, Y: -1}, -1},
		{api.Point{X: math.MinInt64}, api.Point{X: math.MaxInt64}, -1},
		{api.Point{X: math.MaxInt64}, api.Point{X: math.MinInt64}, 1},
		{api.Point{Y: math.MinInt64}, api.Point{Y: math.MaxInt64}, -1},
		{api.Point{Y: math.MaxInt64}, api.Point{Y: math.MinInt64}, 1},
	} {
		if got := lift.Cmp(c.a, c.b); got != c.want {
			t.Error("Cmp", c.a, c.b, "is", got)
		}
	}
}

// P6.3: Cmp is one order of all points: coords rise, so that of two points their places tell it.
func TestCmpOrder(t *testing.T) {
	list := coords()
	for i := range len(list) * len(list) {
		for k := range len(list) * len(list) {
			a := api.Point{X: list[i/len(list)], Y: list[i%len(list)]}
			b := api.Point{X: list[k/len(list)], Y: list[k%len(list)]}
			want := 0
			if i < k {
				want = -1
			} else if i > k {
				want = 1
			}
			if got := lift.Cmp(a, b); got != want {
				t.Fatal("Cmp", a, b, "is", got)
			}
		}
	}
}

// P6.3: a window of far 0 is the point alone, one of far 1 its nine, by X, then by Y.
func TestWindow(t *testing.T) {
	p := api.Point{X: 1, Y: 2}
	if got := lift.Window(p, 10, 0); !slices.Equal(got, []api.Point{p}) {
		t.Error("far 0:", got)
	}
	nine := []api.Point{
		{X: -9, Y: -8}, {X: -9, Y: 2}, {X: -9, Y: 12},
		{X: 1, Y: -8}, {X: 1, Y: 2}, {X: 1, Y: 12},
		{X: 11, Y: -8}, {X: 11, Y: 2}, {X: 11, Y: 12},
	}
	if got := lift.Window(p, 10, 1); !slices.Equal(got, nine) {
		t.Error("far 1:", got)
	}
}

// P6.3: windows as far as they go: all points, each once, in order.
func TestWindowAll(t *testing.T) {
	for _, side := range []int64{1, 7, 1 << 20, 1 << 36} {
		for far := range 9 {
			var want []api.Point
			for i := -far; i <= far; i++ {
				for k := -far; k <= far; k++ {
					want = append(want, api.Point{X: -3 + int64(i)*side, Y: 5 + int64(k)*side})
				}
			}
			got := lift.Window(api.Point{X: -3, Y: 5}, side, far)
			if len(got) != (2*far+1)*(2*far+1) || !slices.Equal(got, want) {
				t.Error("side", side, "far", far, "is", got)
			}
			if !slices.IsSortedFunc(got, lift.Cmp) {
				t.Error("side", side, "far", far, "is not in order")
			}
		}
	}
}

// P6.3: a window whose outmost points just can be, and those of which a single row or column just can't.
func TestWindowEnds(t *testing.T) {
	const eighth = end / 8
	for _, c := range []struct {
		p    api.Point
		side int64
		far  int
		want int
	}{
		{api.Point{}, eighth, 8, 289}, {api.Point{}, eighth + 1, 8, 0},
		{api.Point{X: 1}, eighth, 8, 0}, {api.Point{X: -1}, eighth, 8, 0}, {api.Point{Y: 1}, eighth, 8, 0}, {api.Point{Y: -1}, eighth, 8, 0},
		{api.Point{}, end, 1, 9}, {api.Point{}, end, 2, 0}, {api.Point{}, end, 8, 0}, {api.Point{X: end, Y: -end}, end, 0, 1},
		{api.Point{X: end - 10}, 10, 1, 9}, {api.Point{X: end - 9}, 10, 1, 0},
		{api.Point{X: 10 - end}, 10, 1, 9}, {api.Point{X: 9 - end}, 10, 1, 0},
		{api.Point{Y: end - 10}, 10, 1, 9}, {api.Point{Y: end - 9}, 10, 1, 0},
		{api.Point{Y: 10 - end}, 10, 1, 9}, {api.Point{Y: 9 - end}, 10, 1, 0},
	} {
		if got := lift.Window(c.p, c.side, c.far); len(got) != c.want {
			t.Error("Window", c.p, c.side, c.far, "has", len(got), "points, not", c.want)
		}
	}
}

// P6.3: a window is none, if far, the side or the point can't be, be it the point alone that is asked for.
func TestWindowWrong(t *testing.T) {
	none := func(p api.Point, side int64, far int) {
		if got := lift.Window(p, side, far); len(got) != 0 {
			t.Error("Window", p, side, far, "has", len(got), "points")
		}
	}
	for _, far := range []int{math.MinInt64, -9, -8, -1, 9, 10, math.MaxInt64} {
		none(api.Point{}, 10, far)
	}
	for far := range 9 {
		for _, side := range wrongSides() {
			none(api.Point{}, side, far)
		}
		for _, p := range wrongPoints() {
			none(p, 10, far)
		}
	}
}

// P6.3: a window is new memory, its spare room too.
func TestWindowMemory(t *testing.T) {
	p := api.Point{X: 1, Y: 2}
	first, second := lift.Window(p, 10, 1), lift.Window(p, 10, 1)
	kept := slices.Clone(second)
	first = first[:cap(first)]
	for i := range first {
		first[i] = api.Point{X: 77, Y: 77}
	}
	if !slices.Equal(second, kept) || !slices.Equal(lift.Window(p, 10, 1), kept) {
		t.Error("two windows share memory")
	}
}

// round is n modulo 2^64, as a number of 64 bits, by another library.
func round(n *big.Int) int {
	n.And(n, new(big.Int).SetUint64(math.MaxUint64))
	return int(int64(n.Uint64()))
}

// P6.4: Sum and Less add and take off both numbers, each by itself.
func TestSumLess(t *testing.T) {
	a, b := api.Off{X: 3, Y: -4}, api.Off{X: 10, Y: 20}
	if got := lift.Sum(a, b); got != (api.Off{X: 13, Y: 16}) {
		t.Error("Sum is", got)
	}
	if got := lift.Less(a, b); got != (api.Off{X: -7, Y: -24}) {
		t.Error("Less is", got)
	}
	if got := lift.Sum(api.Off{X: math.MaxInt64, Y: math.MinInt64}, api.Off{X: 1, Y: -1}); got != (api.Off{X: math.MinInt64, Y: math.MaxInt64}) {
		t.Error("Sum that goes round is", got)
	}
	if got := lift.Less(api.Off{X: math.MinInt64}, api.Off{X: 1, Y: math.MinInt64}); got != (api.Off{X: math.MaxInt64, Y: math.MinInt64}) {
		t.Error("Less that goes round is", got)
	}
}

// P6.4: Sum and Less are modulo 2^64, and each undoes the other.
func TestSumLessRound(t *testing.T) {
	for _, x := range offs() {
		for _, y := range offs() {
			m, n := big.NewInt(int64(x)), big.NewInt(int64(y))
			sum, less := round(new(big.Int).Add(m, n)), round(new(big.Int).Sub(m, n))
			a, b := api.Off{X: x, Y: y}, api.Off{X: y, Y: x}
			if got := lift.Sum(a, b); got != (api.Off{X: sum, Y: sum}) {
				t.Error("Sum", a, b, "is", got)
			}
			if got := lift.Less(a, api.Off{X: y}); got != (api.Off{X: less, Y: y}) {
				t.Error("Less of X", a, y, "is", got)
			}
			if got := lift.Less(b, api.Off{Y: x}); got != (api.Off{X: y, Y: 0}) {
				t.Error("Less of Y", b, x, "is", got)
			}
			if lift.Less(lift.Sum(a, b), b) != a || lift.Sum(lift.Less(a, b), b) != a {
				t.Error("Sum and Less of", a, b, "don't undo one another")
			}
		}
	}
}

// P6.5: At of what Home tells is the point.
func TestThereAndBack(t *testing.T) {
	check := func(p api.Point, side int64) {
		q, o, ok := lift.Home(p, side)
		if !ok || q.X < 0 || q.X >= side || q.Y < 0 || q.Y >= side {
			t.Fatal("Home", p, side, "is", q, o, ok)
		}
		if back, ok := lift.At(q, o, side); !ok || back != p {
			t.Fatal("At of Home", p, side, "is", back, ok)
		}
	}
	for _, side := range sides() {
		for _, x := range coords() {
			for _, y := range coords() {
				if inside(x) && inside(y) {
					check(api.Point{X: x, Y: y}, side)
				}
			}
		}
	}
	r := rand.New(rand.NewSource(65))
	for range 20000 {
		check(somePoint(r), someSide(r))
	}
}

// P6.6: two points that are moved alike stand in the same order.
func TestMovedAlike(t *testing.T) {
	r := rand.New(rand.NewSource(66))
	moved := 0
	for range 50000 {
		a, b, side := somePoint(r), somePoint(r), someSide(r)
		if r.Intn(3) == 0 {
			b.X = a.X
		}
		o := api.Off{X: r.Intn(7) - 3, Y: r.Intn(7) - 3}
		c, okC := lift.At(a, o, side)
		d, okD := lift.At(b, o, side)
		if !okC || !okD {
			continue
		}
		moved++
		if lift.Cmp(a, b) != lift.Cmp(c, d) {
			t.Fatal(a, b, "moved by", o, "of", side, "stand otherwise")
		}
	}
	if moved < 10000 {
		t.Error("only", moved, "pairs could be moved")
	}
}
