package tie_test

import (
	"math"
	"math/big"
	"math/rand"
	"slices"
	"testing"

	"zellige/api"
	"zellige/lift"
	"zellige/pred"
	"zellige/tie"
)

// end is the greatest number that a point may have, written out apart from api.
const end = 1099511627776

// pt is the point of two numbers.
func pt(x, y int64) api.Point {
	return api.Point{X: x, Y: y}
}

// outside are numbers that no point may have.
func outside() []int64 {
	return []int64{math.MinInt64, math.MinInt64 + 1, -1 << 41, -end - 1, end + 1, 1 << 41, math.MaxInt64 - 1, math.MaxInt64}
}

// endPoints are points at the ends of what can be, beside them, and in the middle.
func endPoints() []api.Point {
	return []api.Point{
		pt(-end, -end), pt(end, -end), pt(end, end), pt(-end, end), pt(0, end), pt(end, 0), pt(0, -end), pt(-end, 0),
		pt(0, 0), pt(end, end-1), pt(1-end, -end), pt(-end, end-1),
	}
}

// ring is all whole points of the circle about the origin whose radius squared is 5525, so many times as great, to the left all the way round.
func ring(scale int64) []api.Point {
	var right, left []api.Point
	for x := int64(-74); x <= 74; x++ {
		for y := int64(0); y <= 74; y++ {
			if x*x+y*y == 5525 {
				left = append(left, pt(-x*scale, y*scale))
				right = append(right, pt(x*scale, -y*scale))
			}
		}
	}
	return append(left, right...)
}

// someCoord is a number that can be: at times near nought, near an end, or anywhere.
func someCoord(r *rand.Rand) int64 {
	switch r.Intn(3) {
	case 0:
		return r.Int63n(7) - 3
	case 1:
		return (end - r.Int63n(3)) * (2*r.Int63n(2) - 1)
	}
	return r.Int63n(2*end+1) - end
}

// somePoints are so many points that can be: at times of a small square, or of one circle, where ties are many.
func somePoints(r *rand.Rand, many int) []api.Point {
	kind, circle := r.Intn(3), ring(1+r.Int63n(3))
	list := make([]api.Point, many)
	for i := range list {
		switch kind {
		case 0:
			list[i] = pt(r.Int63n(5)-2, r.Int63n(5)-2)
		case 1:
			list[i] = circle[r.Intn(len(circle))]
		default:
			list[i] = pt(someCoord(r), someCoord(r))
		}
	}
	return list
}

// times is a product of small numbers, by another library.
func times(a, b int64) *big.Int {
	return new(big.Int).Mul(big.NewInt(a), big.NewInt(b))
}

// areaBig is twice the triangle's area, by another library.
func areaBig(a, b, c api.Point) *big.Int {
	return new(big.Int).Sub(times(b.X-a.X, c.Y-a.Y), times(b.Y-a.Y, c.X-a.X))
}

// heights are how high the points lie over the plane: by their squares, and, trifles against any of these, by their order, each trifle vast against those of the points ahead.
func heights(p [4]api.Point) [4]*big.Int {
	order := slices.Clone(p[:])
	slices.SortFunc(order, func(a, b api.Point) int {
		if a.X < b.X || a.X == b.X && a.Y < b.Y {
			return -1
		}
		return 1
	})
	var list [4]*big.Int
	for i, q := range p {
		square := new(big.Int).Add(times(q.X, q.X), times(q.Y, q.Y))
		trifle := new(big.Int).Lsh(big.NewInt(1), uint(200*slices.Index(order, q)))
		list[i] = square.Lsh(square, 1000).Add(square, trifle)
	}
	return list
}

// conflictBig is Conflict of points that can be, by another library and without cases: whether d, raised a trifle as all are, lies below the plane of a, b, c.
func conflictBig(a, b, c, d api.Point) bool {
	if areaBig(a, b, c).Sign() != 1 || d == a || d == b || d == c {
		return false
	}
	h := heights([4]api.Point{a, b, c, d})
	sum := new(big.Int).Mul(h[0], areaBig(b, c, d))
	sum.Sub(sum, new(big.Int).Mul(h[1], areaBig(a, c, d)))
	sum.Add(sum, new(big.Int).Mul(h[2], areaBig(a, b, d)))
	sum.Sub(sum, new(big.Int).Mul(h[3], areaBig(a, b, c)))
	return sum.Sign() > 0
}

// bestSlow is Best by the words of P8.2, each point held against each.
func bestSlow(a, b api.Point, l []api.Point) int {
	left := func(p api.Point) bool { return pred.Orient(a, b, p) == 1 }
	for i, c := range l {
		if left(c) && !slices.ContainsFunc(l, func(d api.Point) bool { return left(d) && tie.Conflict(a, b, c, d) }) {
			return i
		}
	}
	return -1
}

// wrongOf are the points with one of them in each place put by one that can't be, by either number or by both.
func wrongOf(points ...api.Point) [][]api.Point {
	var list [][]api.Point
	for i, p := range points {
		for _, c := range outside() {
			for _, wrong := range []api.Point{pt(c, p.Y), pt(p.X, c), pt(c, c), pt(c, -end), pt(end, c)} {
				row := slices.Clone(points)
				row[i] = wrong
				list = append(list, row)
			}
		}
	}
	return list
}

// convex tells whether four points turn left all the way, each three of them in this order.
func convex(p [4]api.Point) bool {
	for i := range p {
		if areaBig(p[i], p[(i+1)%4], p[(i+2)%4]).Sign() != 1 {
			return false
		}
	}
	return true
}

// P8.1: d within, on and outside of the circle, just beside it, and at the ends of what can be.
func TestConflict(t *testing.T) {
	for _, c := range []struct {
		a, b, c, d api.Point
		want       bool
	}{
		{pt(0, 0), pt(4, 0), pt(0, 3), pt(1, 1), true},
		{pt(0, 0), pt(4, 0), pt(0, 3), pt(2, -1), true},
		{pt(0, 0), pt(4, 0), pt(0, 3), pt(3, 3), true},
		{pt(0, 0), pt(4, 0), pt(0, 3), pt(2, 0), true},
		{pt(0, 0), pt(4, 0), pt(0, 3), pt(4, 4), false},
		{pt(0, 0), pt(4, 0), pt(0, 3), pt(5, 3), false},
		{pt(0, 0), pt(4, 0), pt(0, 3), pt(-1, 0), false},
		{pt(0, 0), pt(4, 0), pt(0, 3), pt(2, -2), false},
		{pt(-end, -end), pt(end, -end), pt(end, end), pt(0, 0), true},
		{pt(-end, -end), pt(end, -end), pt(end, end), pt(1-end, end), true},
		{pt(-end, -end), pt(end, -end), pt(end, end), pt(-end, end-1), true},
		{pt(1-end, 1-end), pt(end-1, 1-end), pt(end-1, end-1), pt(1-end, end), false},
		{pt(1-end, 1-end), pt(end-1, 1-end), pt(end-1, end-1), pt(-end, end-1), false},
		{pt(-end, -end), pt(end, -end), pt(0, 0), pt(-end, end), false},
		{pt(-end, -end), pt(end, -end), pt(0, 0), pt(0, -1), true},
	} {
		if got := tie.Conflict(c.a, c.b, c.c, c.d); got != c.want {
			t.Error("Conflict", c.a, c.b, c.c, c.d, "is", got)
		}
	}
}

// P8.1: four points on a circle, each of them last in turn, by X, and by Y where X is the same.
func TestConflictOnCircle(t *testing.T) {
	for _, c := range []struct {
		a, b, c, d api.Point
		want       bool
	}{
		// The square: 1 1 stands last.
		{pt(0, 0), pt(1, 0), pt(1, 1), pt(0, 1), true},
		{pt(1, 1), pt(0, 1), pt(0, 0), pt(1, 0), true},
		{pt(1, 0), pt(1, 1), pt(0, 1), pt(0, 0), false},
		{pt(0, 1), pt(0, 0), pt(1, 0), pt(1, 1), false},
		// d stands last.
		{pt(0, 5), pt(-5, 0), pt(0, -5), pt(5, 0), false},
		{pt(4, -3), pt(0, 5), pt(-5, 0), pt(4, 3), false},
		// a, b, c stand last, and d lies behind the edge across from that one.
		{pt(5, 0), pt(0, 5), pt(0, -5), pt(-5, 0), false},
		{pt(0, -5), pt(5, 0), pt(0, 5), pt(-5, 0), false},
		{pt(0, 5), pt(0, -5), pt(5, 0), pt(-5, 0), false},
		// a, b, c stand last, and d lies behind the one edge or the other one at it.
		{pt(5, 0), pt(0, 5), pt(-5, 0), pt(0, -5), true},
		{pt(-5, 0), pt(5, 0), pt(0, 5), pt(0, -5), true},
		{pt(0, 5), pt(-5, 0), pt(5, 0), pt(0, -5), true},
		{pt(5, 0), pt(-5, 0), pt(0, -5), pt(0, 5), true},
		{pt(0, -5), pt(5, 0), pt(-5, 0), pt(0, 5), true},
		{pt(-5, 0), pt(0, -5), pt(5, 0), pt(0, 5), true},
		// By X first: 4 3 stands behind 0 5; then by Y: it stands behind 4 -3.
		{pt(4, -3), pt(4, 3), pt(0, 5), pt(-5, 0), false},
		{pt(4, 3), pt(0, 5), pt(-5, 0), pt(4, -3), true},
		{pt(4, -3), pt(4, 3), pt(-5, 0), pt(0, 5), true},
		// The greatest square, and one at each end.
		{pt(-end, -end), pt(end, -end), pt(end, end), pt(-end, end), true},
		{pt(end, -end), pt(end, end), pt(-end, end), pt(-end, -end), false},
		{pt(-end, end), pt(-end, -end), pt(end, -end), pt(end, end), false},
		{pt(end-1, end-1), pt(end, end-1), pt(end, end), pt(end-1, end), true},
		{pt(-end, -end), pt(1-end, -end), pt(1-end, 1-end), pt(-end, 1-end), true},
		{pt(1-end, -end), pt(1-end, 1-end), pt(-end, 1-end), pt(-end, -end), false},
	} {
		if pred.InCircle(c.a, c.b, c.c, c.d) != 0 {
			t.Error(c.a, c.b, c.c, c.d, "don't lie on a circle")
		}
		if got := tie.Conflict(c.a, c.b, c.c, c.d); got != c.want {
			t.Error("Conflict", c.a, c.b, c.c, c.d, "is", got)
		}
	}
}

// P8.1: false, if one of the four can't be, in whatever place, though moved in it would be true.
func TestConflictWrong(t *testing.T) {
	for _, base := range [][]api.Point{
		{pt(0, 0), pt(4, 0), pt(0, 3), pt(1, 1)},
		{pt(0, 0), pt(1, 0), pt(1, 1), pt(0, 1)},
		{pt(-end, -end), pt(end, -end), pt(end, end), pt(0, 1)},
		{pt(-end, -end), pt(end, -end), pt(end, end), pt(-end, end)},
	} {
		if !tie.Conflict(base[0], base[1], base[2], base[3]) {
			t.Error("no conflict of points that can be", base)
		}
		for _, p := range wrongOf(base...) {
			if tie.Conflict(p[0], p[1], p[2], p[3]) {
				t.Error("Conflict", p, "is true")
			}
		}
	}
	if tie.Conflict(pt(end, end), pt(end+1, end), pt(end+1, end+1), pt(end, end+1)) {
		t.Error("Conflict of a square that lies half outside is true")
	}
}

// P8.1: false, if a, b, c turn right or lie on a line, or two of them are one, wherever d lies.
func TestConflictNoTriangle(t *testing.T) {
	all := append(endPoints(), pt(1, 1), pt(2, 1), pt(0, 1), pt(1, 0), pt(4, 3), pt(9, 9))
	for _, c := range [][3]api.Point{
		{pt(0, 0), pt(0, 3), pt(4, 0)},
		{pt(0, 0), pt(1, 1), pt(1, 0)},
		{pt(-end, -end), pt(end, end), pt(end, -end)},
		{pt(0, 0), pt(1, 0), pt(2, 0)},
		{pt(2, 0), pt(0, 0), pt(1, 0)},
		{pt(-end, -end), pt(0, 0), pt(end, end)},
		{pt(0, 0), pt(0, 0), pt(4, 3)},
		{pt(4, 3), pt(0, 0), pt(0, 0)},
		{pt(0, 0), pt(4, 3), pt(0, 0)},
		{pt(5, 5), pt(5, 5), pt(5, 5)},
	} {
		for _, d := range all {
			if tie.Conflict(c[0], c[1], c[2], d) {
				t.Error("Conflict", c, d, "is true")
			}
		}
	}
}

// P8.1: false, if d is a, b or c, be it the last of them or not.
func TestConflictCorner(t *testing.T) {
	for _, c := range [][3]api.Point{
		{pt(0, 0), pt(4, 0), pt(0, 3)},
		{pt(0, 0), pt(1, 0), pt(1, 1)},
		{pt(-end, -end), pt(end, -end), pt(end, end)},
	} {
		for range 3 {
			c[0], c[1], c[2] = c[1], c[2], c[0]
			for _, d := range c {
				if tie.Conflict(c[0], c[1], c[2], d) {
					t.Error("Conflict", c, d, "is true")
				}
			}
		}
	}
}

// P8.1: on a circle, and by a single step within it or outside of it, small ones and great ones.
func TestConflictBeside(t *testing.T) {
	for _, scale := range []int64{1, 1000, 1 << 33} {
		list := ring(scale)
		if len(list) != 48 {
			t.Fatal("the ring has", len(list), "points")
		}
		for i := range len(list) {
			a, b, c := list[i], list[(i+7)%48], list[(i+20)%48]
			for _, d := range list {
				in, out := d, d
				// Every point of the ring has its X off nought, and so a step along it goes in or out.
				if d.X > 0 {
					in.X, out.X = d.X-1, d.X+1
				} else {
					in.X, out.X = d.X+1, d.X-1
				}
				if !tie.Conflict(a, b, c, in) || tie.Conflict(a, b, c, out) {
					t.Fatal("Conflict", a, b, c, "beside", d)
				}
				if got := tie.Conflict(a, b, c, d); got != conflictBig(a, b, c, d) {
					t.Fatal("Conflict", a, b, c, d, "is", got)
				}
			}
		}
	}
}

// P8.1: Conflict of points at the ends, of all points of a small square, and anywhere, is what points raised by their order are to a plane.
func TestConflictMany(t *testing.T) {
	check := func(a, b, c, d api.Point) {
		if got, want := tie.Conflict(a, b, c, d), conflictBig(a, b, c, d); got != want {
			t.Fatal("Conflict", a, b, c, d, "is", got, "not", want)
		}
	}
	var small []api.Point
	for i := range int64(9) {
		small = append(small, pt(i/3, i%3))
	}
	for _, list := range [][]api.Point{endPoints(), small} {
		for _, a := range list {
			for _, b := range list {
				for _, c := range list {
					for _, d := range list {
						check(a, b, c, d)
					}
				}
			}
		}
	}
	r := rand.New(rand.NewSource(81))
	for range 20000 {
		p := somePoints(r, 4)
		check(p[0], p[1], p[2], p[3])
	}
}

// P8.2: Best of ordinary points, and of lists in which there is none, or not all count.
func TestBest(t *testing.T) {
	a, b := pt(0, 0), pt(10, 0)
	for _, c := range []struct {
		name string
		a, b api.Point
		l    []api.Point
		want int
	}{
		{"no points", a, b, nil, -1},
		{"no points, but a list", a, b, []api.Point{}, -1},
		{"one to the left", a, b, []api.Point{pt(5, 1)}, 0},
		{"one far to the left", a, b, []api.Point{pt(-end, 1)}, 0},
		{"the nearest one is last", a, b, []api.Point{pt(5, 90), pt(5, 70), pt(5, 3)}, 2},
		{"the nearest one is in the middle", a, b, []api.Point{pt(5, 90), pt(5, 3), pt(5, 70)}, 1},
		{"those to the right don't count", a, b, []api.Point{pt(5, -1), pt(5, 90), pt(5, -3), pt(5, 80)}, 3},
		{"all to the right", a, b, []api.Point{pt(5, -1), pt(0, -7), pt(end, -end)}, -1},
		{"all on the way", a, b, []api.Point{pt(5, 0), pt(-5, 0), pt(50, 0)}, -1},
		{"to the right and on the way", a, b, []api.Point{pt(5, 0), pt(5, -1), a, b}, -1},
		{"a and b are no points to the left", a, b, []api.Point{a, b, pt(5, 9), a, b}, 2},
		{"the other way round", b, a, []api.Point{pt(5, 1), pt(5, -90), pt(5, -70)}, 2},
		{"a is b", a, a, []api.Point{pt(5, 1), pt(-5, 1), pt(0, -1)}, -1},
		{"equal points", a, b, []api.Point{pt(5, 90), pt(5, 3), pt(5, 3), pt(5, 90)}, 1},
		{"all of them equal", a, b, []api.Point{pt(5, 3), pt(5, 3), pt(5, 3)}, 0},
		{"up to the ends", pt(-end, -end), pt(end, -end), []api.Point{pt(end, end), pt(-end, end), pt(0, end), pt(0, end-1)}, 3},
		{"up the middle", pt(-end, -end), pt(end, end), []api.Point{pt(end, -end), pt(0, 1), pt(-end, end), pt(0, 2)}, 1},
	} {
		if got := tie.Best(c.a, c.b, c.l); got != c.want {
			t.Error(c.name, "is", got, "not", c.want)
		}
	}
}

// P8.2: of points on one circle with a and b just one is taken, and of its places the first one.
func TestBestOnCircle(t *testing.T) {
	a, b, c, d := pt(0, 0), pt(1, 0), pt(1, 1), pt(0, 1)
	for _, x := range []struct {
		a, b api.Point
		l    []api.Point
		want int
	}{
		{a, b, []api.Point{c, d}, 1},
		{a, b, []api.Point{d, c}, 0},
		{a, b, []api.Point{c, d, c, d}, 1},
		{a, b, []api.Point{c, c, a, b, pt(0, 9), d, c, d}, 5},
		{b, c, []api.Point{a, d}, 1},
		{c, d, []api.Point{a, b}, 1},
		{d, a, []api.Point{c, b}, 1},
		{b, d, []api.Point{c, a}, 1},
		{d, b, []api.Point{a, c, c, a}, 1},
		// 5 0 stands last, and goes with none where another one can.
		{pt(-5, 0), pt(0, -5), []api.Point{pt(5, 0), pt(4, 3), pt(3, 4), pt(0, 5)}, 3},
		{pt(0, -5), pt(5, 0), []api.Point{pt(0, 5), pt(3, 4), pt(4, 3), pt(-5, 0)}, 2},
		{pt(0, -5), pt(5, 0), []api.Point{pt(0, 5), pt(4, 3), pt(3, 4), pt(4, 3), pt(0, 6)}, 1},
		{pt(-end, -end), pt(end, -end), []api.Point{pt(end, end), pt(-end, end), pt(end, end), pt(-end, end)}, 1},
		{pt(end, -end), pt(end, end), []api.Point{pt(-end, -end), pt(-end, end), pt(-end, -end)}, 1},
	} {
		if got := tie.Best(x.a, x.b, x.l); got != x.want {
			t.Error("Best", x.a, x.b, x.l, "is", got, "not", x.want)
		}
	}
}

// P8.2: points of l that can't be are none; of a or b that can't be there is none.
func TestBestWrong(t *testing.T) {
	good := []api.Point{pt(0, 9), pt(5, 3), pt(5, -1)}
	for _, p := range wrongOf(pt(0, 0), pt(10, 0)) {
		if got := tie.Best(p[0], p[1], good); got != -1 {
			t.Error("Best", p[0], p[1], "is", got)
		}
	}
	for _, w := range wrongOf(pt(5, 2)) {
		wrong := w[0]
		if got := tie.Best(pt(0, 0), pt(10, 0), []api.Point{wrong, wrong}); got != -1 {
			t.Error("Best of", wrong, "is", got)
		}
		if got := tie.Best(pt(0, 0), pt(10, 0), []api.Point{wrong, good[0], wrong, good[1], wrong}); got != 3 {
			t.Error("Best beside", wrong, "is", got)
		}
	}
}

// P8.2: what is handed in stays, its spare room too, and the answer hangs on the list alone.
func TestBestMemory(t *testing.T) {
	room := []api.Point{pt(5, 90), pt(5, 3), pt(5, 70), pt(5, 1), pt(5, 2)}
	kept := slices.Clone(room)
	for range 2 {
		if got := tie.Best(pt(0, 0), pt(10, 0), room[:3]); got != 1 {
			t.Error("Best is", got)
		}
	}
	if !slices.Equal(room, kept) {
		t.Error("the list became", room)
	}
}

// P8.2: each point need not be held against each: a list as long as this ends soon, wherever its best one stands.
func TestBestLong(t *testing.T) {
	var list []api.Point
	for i := range int64(300000) {
		list = append(list, pt(5, 300001-i))
	}
	if got := tie.Best(pt(0, 0), pt(10, 0), list); got != 299999 {
		t.Error("falling: the place is", got)
	}
	slices.Reverse(list)
	if got := tie.Best(pt(0, 0), pt(10, 0), list); got != 0 {
		t.Error("rising: the place is", got)
	}
}

// P8.2, P8.6: Best is what its words say, point against point, and there is one just if a point lies to the left.
func TestBestMany(t *testing.T) {
	check := func(a, b api.Point, l []api.Point) bool {
		got := tie.Best(a, b, l)
		if want := bestSlow(a, b, l); got != want {
			t.Fatal("Best", a, b, l, "is", got, "not", want)
		}
		left := slices.ContainsFunc(l, func(p api.Point) bool { return pred.Orient(a, b, p) == 1 })
		if left != (got >= 0) {
			t.Fatal("Best", a, b, l, "is", got, "and to the left is one:", left)
		}
		return left
	}
	r := rand.New(rand.NewSource(82))
	found := 0
	for range 6000 {
		p := somePoints(r, 2+r.Intn(14))
		if r.Intn(8) == 0 {
			p[r.Intn(len(p))] = pt(end+1, 0)
		}
		if check(p[0], p[1], p[r.Intn(3):]) {
			found++
		}
	}
	if found < 2000 {
		t.Error("only", found, "had a point to the left")
	}
	circle := ring(1)
	for i, a := range circle {
		for _, step := range []int{1, 5, 24, 46, 47} {
			l := slices.Clone(circle)
			r.Shuffle(len(l), func(i, k int) { l[i], l[k] = l[k], l[i] })
			// To the left lie the points from the way's end on round to its beginning: none, if that is the very next one.
			if check(a, circle[(i+step)%48], l) != (step < 47) {
				t.Fatal("step", step, "from", a)
			}
		}
	}
}

// P8.3: turned about, corners have the same conflicts, be there one or not.
func TestTurnedAbout(t *testing.T) {
	r := rand.New(rand.NewSource(83))
	yes := 0
	for round := range 30000 {
		p := somePoints(r, 4)
		if round%10 == 0 {
			p[r.Intn(4)] = pt(0, -end-1)
		}
		got := tie.Conflict(p[0], p[1], p[2], p[3])
		if got {
			yes++
		}
		if tie.Conflict(p[1], p[2], p[0], p[3]) != got || tie.Conflict(p[2], p[0], p[1], p[3]) != got {
			t.Fatal("Conflict turned about", p)
		}
	}
	if yes < 1000 {
		t.Error("only", yes, "conflicts")
	}
}

// P8.4: of four points that turn left all the way just one of the two diagonals is taken.
func TestOneOfTwo(t *testing.T) {
	check := func(p [4]api.Point) bool {
		if !convex(p) {
			return false
		}
		for i := range p {
			a, b, c, d := p[i], p[(i+1)%4], p[(i+2)%4], p[(i+3)%4]
			got := tie.Conflict(a, b, c, d)
			if tie.Conflict(c, d, a, b) != got || tie.Conflict(b, c, d, a) == got || tie.Conflict(d, a, b, c) == got {
				t.Fatal("Conflict of both diagonals", p, got)
			}
		}
		return true
	}
	on := 0
	for _, scale := range []int64{1, 1 << 33} {
		list := ring(scale)
		for i := range list {
			for k := range i {
				for l := range k {
					if check([4]api.Point{list[l], list[k], list[i], list[(i+1)%48]}) {
						on++
					}
				}
			}
		}
	}
	r := rand.New(rand.NewSource(84))
	off := 0
	for range 30000 {
		p := [4]api.Point(somePoints(r, 4))
		if check(p) && pred.InCircle(p[0], p[1], p[2], p[3]) != 0 {
			off++
		}
	}
	if on < 10000 || off < 500 {
		t.Error("only", on, "on a circle and", off, "off it turned left all the way")
	}
	if !check([4]api.Point{pt(-end, -end), pt(end, -end), pt(end, end), pt(-end, end)}) {
		t.Error("the greatest square does not turn left")
	}
}

// moveAll is all points moved alike, and whether all of them can still be.
func moveAll(p []api.Point, x, y int64) ([]api.Point, bool) {
	var moved []api.Point
	for _, q := range p {
		q = pt(q.X+x, q.Y+y)
		if !lift.Can(q) {
			return nil, false
		}
		moved = append(moved, q)
	}
	return moved, true
}

// P8.5: Conflict and Best stay when all points are moved alike, up to the very ends.
func TestMoved(t *testing.T) {
	r := rand.New(rand.NewSource(85))
	moved := 0
	for range 10000 {
		p := somePoints(r, 8)
		for _, by := range []api.Point{pt(1, -1), pt(someCoord(r), someCoord(r)), pt(end-300, 300-end), pt(2-end, 0), pt(0, end-2)} {
			q, ok := moveAll(p, by.X, by.Y)
			if !ok {
				continue
			}
			moved++
			if tie.Conflict(q[0], q[1], q[2], q[3]) != tie.Conflict(p[0], p[1], p[2], p[3]) || tie.Best(q[0], q[1], q) != tie.Best(p[0], p[1], p) {
				t.Fatal(p, "moved to", q, "is told otherwise")
			}
		}
	}
	if moved < 10000 {
		t.Error("only", moved, "could be moved")
	}
	for _, by := range []api.Point{pt(end-1, end-1), pt(-end, -end), pt(-end, end-1), pt(end-1, -end)} {
		q, ok := moveAll([]api.Point{pt(0, 0), pt(1, 0), pt(1, 1), pt(0, 1)}, by.X, by.Y)
		if !ok || !tie.Conflict(q[0], q[1], q[2], q[3]) || tie.Conflict(q[1], q[2], q[3], q[0]) || tie.Best(q[0], q[1], q) != 3 {
			t.Error("the square moved to", q, "is told otherwise")
		}
	}
}

// P8.6: of points of which a single one lies to the left, wherever it stands, that one is found.
func TestThereIsOne(t *testing.T) {
	rest := []api.Point{pt(0, 0), pt(10, 0), pt(5, 0), pt(5, -1), pt(end+1, 5), pt(-end, 0), pt(0, -end)}
	for _, c := range []api.Point{pt(5, 1), pt(-end, 1), pt(end, 1), pt(0, end), pt(-end, end), pt(end, end)} {
		for i := range len(rest) + 1 {
			if got := tie.Best(pt(0, 0), pt(10, 0), slices.Insert(slices.Clone(rest), i, c)); got != i {
				t.Error("Best with", c, "at", i, "is", got)
			}
		}
	}
}

// All that is told of any points is that of another library, or nothing (run by go test -fuzz).
func FuzzAll(f *testing.F) {
	f.Add(int64(0), int64(0), int64(1), int64(0), int64(1), int64(1), int64(0), int64(1))
	f.Add(int64(-end), int64(-end), int64(end), int64(-end), int64(end), int64(end), int64(-end), int64(end))
	f.Add(int64(math.MinInt64), int64(0), int64(end), int64(end+1), int64(0), int64(math.MaxInt64), int64(1), int64(2))
	f.Fuzz(func(t *testing.T, ax, ay, bx, by, cx, cy, dx, dy int64) {
		p := []api.Point{pt(ax, ay), pt(bx, by), pt(cx, cy), pt(dx, dy)}
		want := false
		if _, ok := moveAll(p, 0, 0); ok {
			want = conflictBig(p[0], p[1], p[2], p[3])
		}
		if got := tie.Conflict(p[0], p[1], p[2], p[3]); got != want {
			t.Fatal("Conflict", p, "is", got)
		}
		if got, want := tie.Best(p[0], p[1], p), bestSlow(p[0], p[1], p); got != want {
			t.Fatal("Best", p, "is", got, "not", want)
		}
	})
}
