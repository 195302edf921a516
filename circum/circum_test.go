package circum_test

import (
	"math"
	"math/big"
	"math/rand"
	"slices"
	"testing"

	"zellige/api"
	"zellige/circum"
	"zellige/lift"
	"zellige/rat"
)

// end is the greatest number that a point may have, and most the greatest side, written out apart from api.
const (
	end  = 1099511627776
	most = 17179869184
)

// pt is the point of two numbers.
func pt(x, y int64) api.Point {
	return api.Point{X: x, Y: y}
}

// outside are numbers that no point may have.
func outside() []int64 {
	return []int64{math.MinInt64, math.MinInt64 + 1, -1 << 41, -end - 1, end + 1, 1 << 41, math.MaxInt64 - 1, math.MaxInt64}
}

// wrongSides are sides that no mesh may have; the squares of most of them are great, or go round.
func wrongSides() []int64 {
	return []int64{0, -1, -10, -11, -most, -most - 1, -1 << 40, math.MinInt64, math.MinInt64 + 1, most + 1, 1 << 35, 1 << 40, 1 << 62, math.MaxInt64}
}

// endPoints are points at the ends of what can be, beside them, and in the middle.
func endPoints() []api.Point {
	return []api.Point{
		pt(-end, -end), pt(end, -end), pt(end, end), pt(-end, end), pt(0, end), pt(end, 0), pt(0, -end), pt(-end, 0),
		pt(0, 0), pt(end, end-1), pt(1-end, -end), pt(1-end, 1-end), pt(1, 0), pt(0, -1),
	}
}

// someCoord is a number that can be: at times near nought, near an end, or anywhere.
func someCoord(r *rand.Rand) int64 {
	switch r.Intn(3) {
	case 0:
		return r.Int63n(7) - 3
	case 1:
		return (end - r.Int63n(3)) * (2*r.Int63n(2) - 1)
	}
	return r.Int63n(2*end+1) - end
}

// someTriangle is three points that can be: at times all of them near one another, or no farther than a mesh's side.
func someTriangle(r *rand.Rand) [3]api.Point {
	wide := []int64{7, 1000, 1 << 33, 0}[r.Intn(4)]
	var list [3]api.Point
	at := pt(someCoord(r), someCoord(r))
	for i := range list {
		list[i] = pt(someCoord(r), someCoord(r))
		if wide > 0 {
			// Towards the middle, so that all of them can be.
			list[i] = pt(at.X-toward(at.X)*r.Int63n(wide), at.Y-toward(at.Y)*r.Int63n(wide))
		}
	}
	return list
}

// toward is 1 of numbers from nought on, else -1.
func toward(n int64) int64 {
	if n < 0 {
		return -1
	}
	return 1
}

// orders are the three points in all six orders: three of them turn left, and three right.
func orders(p [3]api.Point) [][3]api.Point {
	a, b, c := p[0], p[1], p[2]
	return [][3]api.Point{{a, b, c}, {b, c, a}, {c, a, b}, {a, c, b}, {c, b, a}, {b, a, c}}
}

// words are the words of a number without its sign, no nought at the end.
func words(n *big.Int) api.Nat {
	var list api.Nat
	for rest := new(big.Int).Abs(n); rest.Sign() > 0; rest.Rsh(rest, 32) {
		list = append(list, uint32(rest.Uint64()))
	}
	return list
}

// is tells whether a is the fraction q in lowest terms, to the word; the other library keeps lowest terms, too.
func is(a api.Rat, q *big.Rat) bool {
	return a.Num.Neg == (q.Sign() < 0) && slices.Equal(a.Num.Mag, words(q.Num())) && slices.Equal(a.Den, words(q.Denom()))
}

// equal tells whether two fractions are alike to the word.
func equal(a, b api.Rat) bool {
	return a.Num.Neg == b.Num.Neg && slices.Equal(a.Num.Mag, b.Num.Mag) && slices.Equal(a.Den, b.Den)
}

// isNought tells whether a is 0 / 1, to the word.
func isNought(a api.Rat) bool {
	return !a.Num.Neg && len(a.Num.Mag) == 0 && slices.Equal(a.Den, api.Nat{1})
}

// toBig is a's fraction, by another library; Den is not nought.
func toBig(a api.Rat) *big.Rat {
	natBig := func(list api.Nat) *big.Int {
		n := new(big.Int)
		for _, w := range slices.Backward(list) {
			n.Lsh(n, 32)
			n.Add(n, new(big.Int).SetUint64(uint64(w)))
		}
		return n
	}
	q := new(big.Rat).SetFrac(natBig(a.Num.Mag), natBig(a.Den))
	if a.Num.Neg {
		q.Neg(q)
	}
	return q
}

// times is a product, by another library.
func times(a, b *big.Int) *big.Int {
	return new(big.Int).Mul(a, b)
}

// normBig is how far a point is from 0 0, squared, by another library.
func normBig(p api.Point) *big.Int {
	x, y := big.NewInt(p.X), big.NewInt(p.Y)
	return new(big.Int).Add(times(x, x), times(y, y))
}

// areaBig is twice the triangle's area, by another library.
func areaBig(p [3]api.Point) *big.Int {
	sum := new(big.Int)
	for i := range p {
		k := (i + 1) % 3
		sum.Add(sum, times(big.NewInt(p[i].X), big.NewInt(p[k].Y)))
		sum.Sub(sum, times(big.NewInt(p[i].Y), big.NewInt(p[k].X)))
	}
	return sum
}

// centerBig is the center of three points not on a line, by how far they are from 0 0, by another library.
func centerBig(p [3]api.Point) (x, y *big.Rat) {
	right, up := new(big.Int), new(big.Int)
	for i := range p {
		k, l := (i+1)%3, (i+2)%3
		right.Add(right, times(normBig(p[i]), big.NewInt(p[k].Y-p[l].Y)))
		up.Add(up, times(normBig(p[i]), big.NewInt(p[l].X-p[k].X)))
	}
	twice := new(big.Int).Lsh(areaBig(p), 1)
	return new(big.Rat).SetFrac(right, twice), new(big.Rat).SetFrac(up, twice)
}

// radiusBig is the radius squared of three points not on a line, by the three sides and the area alone, by another library.
func radiusBig(p [3]api.Point) *big.Rat {
	sides := big.NewInt(1)
	for i := range p {
		k := (i + 1) % 3
		sides.Mul(sides, normBig(pt(p[i].X-p[k].X, p[i].Y-p[k].Y)))
	}
	area := areaBig(p)
	return new(big.Rat).SetFrac(sides, new(big.Int).Lsh(times(area, area), 2))
}

// smallBig is Small of three points not on a line and a side that can be, by another library.
func smallBig(p [3]api.Point, side int64) bool {
	diameters := new(big.Rat).Mul(radiusBig(p), big.NewRat(16, 1))
	square := times(big.NewInt(side), big.NewInt(side))
	return diameters.Cmp(new(big.Rat).SetInt(square)) < 0
}

// noCircle tells an error, if any circle is told of the three points.
func noCircle(t *testing.T, p [3]api.Point) {
	t.Helper()
	if s, ok := circum.Center(p[0], p[1], p[2]); ok || !isNought(s.X) || !isNought(s.Y) {
		t.Error("Center", p, "is", s, ok)
	}
	if q, ok := circum.Radius2(p[0], p[1], p[2]); ok || !isNought(q) {
		t.Error("Radius2", p, "is", q, ok)
	}
	for _, side := range append(wrongSides(), 1, 2, 3, 11, 1<<20, 1<<33, most-1, most) {
		if circum.Small(p[0], p[1], p[2], side) {
			t.Error("Small", p, side, "is true")
		}
	}
}

// P9.1: centers and radii that are whole, halves, other fractions, below nought, far from 0 0 and far out, of corners that turn left and that turn right.
func TestCircle(t *testing.T) {
	for _, c := range []struct {
		p       [3]api.Point
		x, y, r string
	}{
		{[3]api.Point{pt(0, 0), pt(4, 0), pt(0, 3)}, "2", "3/2", "25/4"},
		{[3]api.Point{pt(5, 0), pt(0, 5), pt(-4, -3)}, "0", "0", "25"},
		{[3]api.Point{pt(0, 0), pt(6, 0), pt(3, 9)}, "3", "4", "25"},
		{[3]api.Point{pt(0, 0), pt(1, 0), pt(0, 1)}, "1/2", "1/2", "1/2"},
		{[3]api.Point{pt(0, 0), pt(-1, 0), pt(0, -1)}, "-1/2", "-1/2", "1/2"},
		{[3]api.Point{pt(1, 1), pt(2, 3), pt(5, 4)}, "9/2", "1/2", "25/2"},
		{[3]api.Point{pt(0, 0), pt(2, 1), pt(4, 3)}, "-5/2", "15/2", "125/2"},
		{[3]api.Point{pt(0, 0), pt(2, 0), pt(1, 2)}, "1", "3/4", "25/16"},
		{[3]api.Point{pt(0, 0), pt(3, 1), pt(1, 3)}, "5/4", "5/4", "25/8"},
		{[3]api.Point{pt(10, 10), pt(13, 11), pt(11, 13)}, "45/4", "45/4", "25/8"},
		{[3]api.Point{pt(-7, -3), pt(-2, -9), pt(-4, -4)}, "-183/26", "-211/26", "8845/338"},
		{[3]api.Point{pt(-end, -end), pt(end, -end), pt(end, end)}, "0", "0", "2417851639229258349412352"},
		{[3]api.Point{pt(-end, -end), pt(end, -end), pt(0, end)}, "0", "-274877906944", "1888946593147858085478400"},
		{[3]api.Point{pt(end, end), pt(end-1, end), pt(end, end-1)}, "2199023255551/2", "2199023255551/2", "1/2"},
		{[3]api.Point{pt(-end, -end), pt(1-end, -end), pt(-end, 1-end)}, "-2199023255551/2", "-2199023255551/2", "1/2"},
		{[3]api.Point{pt(end-2, end), pt(end, end), pt(end-1, end-2)}, "1099511627775", "4398046511101/4", "25/16"},
		{[3]api.Point{pt(-end, 0), pt(0, 1), pt(end, 0)}, "0", "-1208925819614629174706175/2", "1461501637330902918203687250567922248914281955329/4"},
		{[3]api.Point{pt(-end, 0), pt(0, -1), pt(end, 0)}, "0", "1208925819614629174706175/2", "1461501637330902918203687250567922248914281955329/4"},
		{[3]api.Point{pt(-end, -end), pt(end, end), pt(0, 1)}, "2417851639229258349412351/2", "-2417851639229258349412351/2", "5846006549323611672814739330865132078623730171905/2"},
		{[3]api.Point{pt(-end, -end), pt(end, end-1), pt(1-end, 1-end)}, "9671406556906038281371651/2", "-9671406556910436327882753/2", "93536104789007645581575476118989108923480198348805/2"},
	} {
		for _, p := range orders(c.p) {
			s, ok := circum.Center(p[0], p[1], p[2])
			if x, y := rat.Show(s.X), rat.Show(s.Y); !ok || x != c.x || y != c.y {
				t.Error("Center", p, "is", x, y, ok, "not", c.x, c.y)
			}
			q, ok := circum.Radius2(p[0], p[1], p[2])
			if r := rat.Show(q); !ok || r != c.r {
				t.Error("Radius2", p, "is", r, ok, "not", c.r)
			}
		}
	}
}

// P9.1: noughts and false, if one of the three can't be, in whatever place, by either number or by both, though a circle would be there.
func TestCannotBe(t *testing.T) {
	for _, base := range [][3]api.Point{
		{pt(0, 0), pt(4, 0), pt(0, 3)},
		{pt(0, 0), pt(0, 3), pt(4, 0)},
		{pt(-end, -end), pt(end, -end), pt(end, end)},
		{pt(end-1, end-1), pt(end, end-1), pt(end, end)},
	} {
		if _, ok := circum.Center(base[0], base[1], base[2]); !ok {
			t.Error("no center of", base)
		}
		for i, p := range base {
			for _, c := range outside() {
				for _, wrong := range []api.Point{pt(c, p.Y), pt(p.X, c), pt(c, c), pt(c, -end), pt(end, c)} {
					q := base
					q[i] = wrong
					noCircle(t, q)
				}
			}
		}
	}
	noCircle(t, [3]api.Point{pt(end+1, end+1), pt(end+5, end+1), pt(end+1, end+4)})
}

// P9.1: noughts and false, if the three lie on a line, whichever of them lies between the others.
func TestOnLine(t *testing.T) {
	for _, c := range [][3]api.Point{
		{pt(0, 0), pt(1, 0), pt(2, 0)},
		{pt(3, -5), pt(3, 0), pt(3, 77)},
		{pt(0, 0), pt(1, 1), pt(2, 2)},
		{pt(-2, 7), pt(1, 1), pt(2, -1)},
		{pt(-end, -end), pt(0, 0), pt(end, end)},
		{pt(-end, end), pt(end-1, 1-end), pt(end, -end)},
		{pt(-end, end), pt(0, end), pt(end, end)},
		{pt(end, -end), pt(end, 1-end), pt(end, end)},
		{pt(-end, -1), pt(0, 0), pt(end, 1)},
	} {
		for _, p := range orders(c) {
			noCircle(t, p)
		}
	}
}

// P9.1: noughts and false, if two or three of them are one, in whatever places.
func TestSamePoints(t *testing.T) {
	for _, a := range endPoints() {
		noCircle(t, [3]api.Point{a, a, a})
		for _, b := range endPoints() {
			noCircle(t, [3]api.Point{a, a, b})
			noCircle(t, [3]api.Point{a, b, a})
			noCircle(t, [3]api.Point{b, a, a})
		}
	}
}

// checkCircle tells whether there is a circle, and an error, if what is told of it is not what another library tells, to the word.
func checkCircle(t *testing.T, p [3]api.Point) bool {
	t.Helper()
	if areaBig(p).Sign() == 0 {
		noCircle(t, p)
		return false
	}
	s, ok := circum.Center(p[0], p[1], p[2])
	if x, y := centerBig(p); !ok || !is(s.X, x) || !is(s.Y, y) {
		t.Fatal("Center", p, "is", rat.Show(s.X), rat.Show(s.Y), ok, "not", x, y)
	}
	q, ok := circum.Radius2(p[0], p[1], p[2])
	if r := radiusBig(p); !ok || !is(q, r) {
		t.Fatal("Radius2", p, "is", rat.Show(q), ok, "not", r)
	}
	return true
}

// P9.1: circles about all triangles of points at the ends, of a small square's points, and about triangles anywhere are those of another library, in lowest terms.
func TestCircleMany(t *testing.T) {
	var small []api.Point
	for i := range int64(16) {
		small = append(small, pt(i/4-2, i%4-1))
	}
	for _, list := range [][]api.Point{endPoints(), small} {
		for _, a := range list {
			for _, b := range list {
				for _, c := range list {
					checkCircle(t, [3]api.Point{a, b, c})
				}
			}
		}
	}
	r := rand.New(rand.NewSource(91))
	found := 0
	for range 5000 {
		if checkCircle(t, someTriangle(r)) {
			found++
		}
	}
	if found < 3500 {
		t.Error("only", found, "had a circle")
	}
}

// scribble writes over all that a fraction's lists hold, and over their spare room.
func scribble(q api.Rat) {
	for _, list := range []api.Nat{q.Num.Mag, q.Den} {
		for i := range list[:cap(list)] {
			list[:cap(list)][i] = 77
		}
	}
}

// P9.1: answers are new memory: what is written into one list, or its spare room, is in no other one and in no later answer.
func TestMemory(t *testing.T) {
	for _, p := range [][3]api.Point{
		{pt(0, 0), pt(4, 0), pt(0, 3)},
		{pt(0, 0), pt(3, 1), pt(1, 3)},
		{pt(5, 0), pt(0, 5), pt(-4, -3)},
		{pt(0, 0), pt(1, 1), pt(2, 2)},
		{pt(0, 0), pt(4, 0), pt(0, end+1)},
		{pt(-end, -end), pt(end, end-1), pt(1-end, 1-end)},
	} {
		s, _ := circum.Center(p[0], p[1], p[2])
		q, _ := circum.Radius2(p[0], p[1], p[2])
		x, y, r := rat.Show(s.X), rat.Show(s.Y), rat.Show(q)
		scribble(s.X)
		if rat.Show(s.Y) != y {
			t.Error("the center's numbers share memory", p)
		}
		scribble(s.Y)
		scribble(q)
		s, _ = circum.Center(p[0], p[1], p[2])
		q, _ = circum.Radius2(p[0], p[1], p[2])
		if rat.Show(s.X) != x || rat.Show(s.Y) != y || rat.Show(q) != r {
			t.Error("a later answer has changed", p, s, q)
		}
		num := slices.Clone(s.X.Num.Mag)
		for i := range s.X.Den[:cap(s.X.Den)] {
			s.X.Den[:cap(s.X.Den)][i] = 55
		}
		if !slices.Equal(num, s.X.Num.Mag) {
			t.Error("a fraction's numbers share memory", p)
		}
	}
}

// P9.2: Small where the diameter squared is just a quarter of the side's square, a step below it and a step above, from side 1 to the greatest one.
func TestSmall(t *testing.T) {
	half := int64(most / 2)
	for _, c := range []struct {
		p    [3]api.Point
		side int64
		want bool
	}{
		// The diameter is 5: just a quarter at side 10.
		{[3]api.Point{pt(0, 0), pt(4, 0), pt(0, 3)}, 9, false},
		{[3]api.Point{pt(0, 0), pt(4, 0), pt(0, 3)}, 10, false},
		{[3]api.Point{pt(0, 0), pt(4, 0), pt(0, 3)}, 11, true},
		{[3]api.Point{pt(0, 0), pt(4, 0), pt(0, 3)}, 1, false},
		{[3]api.Point{pt(0, 0), pt(4, 0), pt(0, 3)}, most - 1, true},
		{[3]api.Point{pt(0, 0), pt(4, 0), pt(0, 3)}, most, true},
		// The diameter is 5/2: just a quarter at side 5.
		{[3]api.Point{pt(0, 0), pt(2, 0), pt(1, 2)}, 4, false},
		{[3]api.Point{pt(0, 0), pt(2, 0), pt(1, 2)}, 5, false},
		{[3]api.Point{pt(0, 0), pt(2, 0), pt(1, 2)}, 6, true},
		{[3]api.Point{pt(end-2, end), pt(end, end), pt(end-1, end-2)}, 5, false},
		{[3]api.Point{pt(end-2, end), pt(end, end), pt(end-1, end-2)}, 6, true},
		// The least circle of all: 16 Radius2 is 8.
		{[3]api.Point{pt(0, 0), pt(1, 0), pt(0, 1)}, 1, false},
		{[3]api.Point{pt(0, 0), pt(1, 0), pt(0, 1)}, 2, false},
		{[3]api.Point{pt(0, 0), pt(1, 0), pt(0, 1)}, 3, true},
		// 16 Radius2 is that of the greatest side, 4 more, 16 and a trifle more, 48 less.
		{[3]api.Point{pt(0, 0), pt(half, 0), pt(half/2, half/2)}, most, false},
		{[3]api.Point{pt(0, 0), pt(half, 0), pt(half/2, half/2)}, most - 1, false},
		{[3]api.Point{pt(0, 0), pt(half, 0), pt(0, 1)}, most, false},
		{[3]api.Point{pt(0, 0), pt(half, 0), pt(half/2, half/2-1)}, most, false},
		{[3]api.Point{pt(0, 0), pt(8460295446, 0), pt(0, 1486733756)}, most, true},
		{[3]api.Point{pt(0, 0), pt(8460295446, 0), pt(0, 1486733756)}, most - 1, false},
		{[3]api.Point{pt(0, 0), pt(half-1, 0), pt(half/2, half/2)}, most, true},
		{[3]api.Point{pt(0, 0), pt(half+1, 0), pt(half/2, half/2)}, most, false},
		// Great circles, and such as are so flat that their centers lie far out.
		{[3]api.Point{pt(-end, -end), pt(end, -end), pt(end, end)}, most, false},
		{[3]api.Point{pt(-end, -end), pt(end, end), pt(0, 1)}, most, false},
		{[3]api.Point{pt(-end, -end), pt(end, end-1), pt(1-end, 1-end)}, most, false},
		{[3]api.Point{pt(-end, -end), pt(end, end-1), pt(1-end, 1-end)}, 1, false},
		{[3]api.Point{pt(0, 0), pt(1000, 1), pt(2000, 1)}, 2 * 1000000, false},
	} {
		for _, p := range orders(c.p) {
			if got := circum.Small(p[0], p[1], p[2], c.side); got != c.want {
				t.Error("Small", p, c.side, "is", got)
			}
		}
		if got := smallBig(c.p, c.side); got != c.want {
			t.Error("by another library", c.p, c.side, "is", got)
		}
	}
}

// P9.2: with side 1 no circle is small.
func TestSideOne(t *testing.T) {
	for i := range int64(25) {
		for k := range int64(25) {
			if circum.Small(pt(0, 0), pt(i/5-2, i%5-2), pt(k/5-2, k%5-2), 1) {
				t.Error("Small of the corners", i, k)
			}
		}
	}
}

// P9.2: false with a side that no mesh may have, be the circle as small as can be.
func TestSmallWrongSide(t *testing.T) {
	for _, p := range [][3]api.Point{
		{pt(0, 0), pt(1, 0), pt(0, 1)},
		{pt(0, 0), pt(4, 0), pt(0, 3)},
		{pt(end, end), pt(end-1, end), pt(end, end-1)},
		{pt(-end, -end), pt(end, -end), pt(end, end)},
	} {
		for _, side := range wrongSides() {
			if circum.Small(p[0], p[1], p[2], side) {
				t.Error("Small", p, side, "is true")
			}
		}
	}
}

// P9.2: of any circle Small goes from false to true between two sides that follow one another, and there only.
func TestSmallMany(t *testing.T) {
	r := rand.New(rand.NewSource(92))
	crossed := 0
	for range 5000 {
		p := someTriangle(r)
		if areaBig(p).Sign() == 0 {
			continue
		}
		diameters := new(big.Rat).Mul(radiusBig(p), big.NewRat(16, 1))
		root := new(big.Int).Sqrt(new(big.Int).Div(diameters.Num(), diameters.Denom()))
		if root.Cmp(big.NewInt(most)) < 0 {
			crossed++
			// The root without its fraction is the last side at which the circle is not small.
			if at := root.Int64(); circum.Small(p[0], p[1], p[2], at) || !circum.Small(p[0], p[1], p[2], at+1) {
				t.Fatal("Small", p, "does not change behind", at)
			}
		}
		for _, side := range []int64{1, 2, 3, 1 + r.Int63n(most), most - 1, most} {
			if got, want := circum.Small(p[0], p[1], p[2], side), smallBig(p, side); got != want {
				t.Fatal("Small", p, side, "is", got)
			}
		}
	}
	if crossed < 2000 {
		t.Error("only", crossed, "circles were small at a side")
	}
}

// P9.2: triangles with a right angle and whole sides: at twice the diameter not small, one beyond it small.
func TestSmallJust(t *testing.T) {
	for _, sides := range [][3]int64{{3, 4, 5}, {5, 12, 13}, {8, 15, 17}, {20, 21, 29}, {696, 697, 985}} {
		for _, scale := range []int64{1, 2, 7, 1000, 1<<33/sides[2] - 1, 1 << 33 / sides[2]} {
			side := 2 * sides[2] * scale
			p := [3]api.Point{pt(-end, end), pt(sides[0]*scale-end, end), pt(-end, end-sides[1]*scale)}
			if circum.Small(p[0], p[1], p[2], side-1) || circum.Small(p[0], p[1], p[2], side) || !circum.Small(p[0], p[1], p[2], side+1) {
				t.Error("Small", p, "beside", side)
			}
		}
	}
}

// distBig is the square of how far a spot is from a point, by another library.
func distBig(s api.Spot, p api.Point) *big.Rat {
	x := new(big.Rat).Sub(toBig(s.X), new(big.Rat).SetInt64(p.X))
	y := new(big.Rat).Sub(toBig(s.Y), new(big.Rat).SetInt64(p.Y))
	return new(big.Rat).Add(x.Mul(x, x), y.Mul(y, y))
}

// P9.3: Center is just Radius2 from all three, and both are told, or neither.
func TestAsFar(t *testing.T) {
	check := func(p [3]api.Point) bool {
		s, ok := circum.Center(p[0], p[1], p[2])
		q, also := circum.Radius2(p[0], p[1], p[2])
		if ok != also {
			t.Fatal("one is told", p, ok, also)
		}
		for _, corner := range p {
			if ok && distBig(s, corner).Cmp(toBig(q)) != 0 {
				t.Fatal("the center", rat.Show(s.X), rat.Show(s.Y), "of", p, "is not", rat.Show(q), "from", corner)
			}
		}
		return ok
	}
	list := endPoints()
	for _, a := range list {
		for _, b := range list {
			for _, c := range list {
				check([3]api.Point{a, b, c})
			}
		}
	}
	r := rand.New(rand.NewSource(93))
	found := 0
	for range 3000 {
		if check(someTriangle(r)) {
			found++
		}
	}
	if found < 2000 {
		t.Error("only", found, "had a circle")
	}
}

// moveAll is all three moved alike, and whether all of them can still be.
func moveAll(p [3]api.Point, by api.Point) ([3]api.Point, bool) {
	can := true
	for i, q := range p {
		p[i] = pt(q.X+by.X, q.Y+by.Y)
		can = can && lift.Can(p[i])
	}
	return p, can
}

// checkMoved tells an error, if the circle about moved corners is not that of the corners, moved.
func checkMoved(t *testing.T, p, moved [3]api.Point, by api.Point) {
	t.Helper()
	s, ok := circum.Center(p[0], p[1], p[2])
	c, also := circum.Center(moved[0], moved[1], moved[2])
	if ok {
		s = api.Spot{X: rat.Add(s.X, rat.Of(by.X)), Y: rat.Add(s.Y, rat.Of(by.Y))}
	}
	if ok != also || !equal(s.X, c.X) || !equal(s.Y, c.Y) {
		t.Fatal("Center", p, "moved by", by, "is", rat.Show(c.X), rat.Show(c.Y), also, "not", rat.Show(s.X), rat.Show(s.Y), ok)
	}
	q, ok := circum.Radius2(p[0], p[1], p[2])
	if r, also := circum.Radius2(moved[0], moved[1], moved[2]); ok != also || !equal(q, r) {
		t.Fatal("Radius2", p, "moved by", by, "is", rat.Show(r), also, "not", rat.Show(q), ok)
	}
	for _, side := range []int64{3, 11, 1000, 1 << 33, most} {
		if circum.Small(p[0], p[1], p[2], side) != circum.Small(moved[0], moved[1], moved[2], side) {
			t.Fatal("Small", p, side, "does not stay when moved by", by)
		}
	}
}

// P9.4: when all three are moved alike, up to the very ends, Center is moved so, too, and Radius2 stays.
func TestMoved(t *testing.T) {
	r := rand.New(rand.NewSource(94))
	moved := 0
	for range 3000 {
		p := someTriangle(r)
		for _, by := range []api.Point{pt(1, -1), pt(-3, 7), pt(someCoord(r), someCoord(r)), pt(-p[0].X, -p[1].Y), pt(end-p[0].X, -end-p[0].Y)} {
			if q, ok := moveAll(p, by); ok {
				moved++
				checkMoved(t, p, q, by)
			}
		}
	}
	if moved < 3000 {
		t.Error("only", moved, "could be moved")
	}
	for _, by := range []api.Point{pt(end-4, end-3), pt(-end, -end), pt(-end, end-3), pt(end-4, -end), pt(0, 0)} {
		p := [3]api.Point{pt(0, 0), pt(4, 0), pt(0, 3)}
		q, ok := moveAll(p, by)
		if !ok {
			t.Error("could not be moved by", by)
		}
		checkMoved(t, p, q, by)
	}
	for _, by := range []api.Point{pt(end-3, end-3), pt(end-4, end-2), pt(-end-1, 0), pt(0, -end-1)} {
		q, _ := moveAll([3]api.Point{pt(0, 0), pt(4, 0), pt(0, 3)}, by)
		noCircle(t, q)
	}
}

// All that is told of any points is that of another library, or nothing (run by go test -fuzz).
func FuzzAll(f *testing.F) {
	f.Add(int64(0), int64(0), int64(4), int64(0), int64(0), int64(3), int64(10))
	f.Add(int64(-end), int64(-end), int64(end), int64(end-1), int64(1-end), int64(1-end), int64(most))
	f.Add(int64(math.MinInt64), int64(0), int64(end), int64(end+1), int64(0), int64(math.MaxInt64), int64(-1))
	f.Fuzz(func(t *testing.T, ax, ay, bx, by, cx, cy, side int64) {
		p := [3]api.Point{pt(ax, ay), pt(bx, by), pt(cx, cy)}
		if _, ok := moveAll(p, pt(0, 0)); !ok {
			noCircle(t, p)
			return
		}
		if !checkCircle(t, p) {
			return
		}
		want := 1 <= side && side <= most && smallBig(p, side)
		if got := circum.Small(p[0], p[1], p[2], side); got != want {
			t.Fatal("Small", p, side, "is", got)
		}
	})
}
