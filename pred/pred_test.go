package pred_test

import (
	"math"
	"math/big"
	"math/rand"
	"testing"

	"zellige/api"
	"zellige/lift"
	"zellige/pred"
	"zellige/wide"
)

// end is the greatest number that a point may have, written out apart from api.
const end = 1099511627776

// pt is the point of two numbers.
func pt(x, y int64) api.Point {
	return api.Point{X: x, Y: y}
}

// outside are numbers that no point may have.
func outside() []int64 {
	return []int64{math.MinInt64, math.MinInt64 + 1, -1 << 41, -end - 1, end + 1, 1 << 41, math.MaxInt64 - 1, math.MaxInt64}
}

// endPoints are points at the ends of what can be, beside them, and in the middle.
func endPoints() []api.Point {
	return []api.Point{
		pt(-end, -end), pt(end, -end), pt(end, end), pt(-end, end), pt(0, end), pt(end, 0), pt(0, -end),
		pt(0, 0), pt(end, end-1), pt(1-end, -end), pt(-end, end-1), pt(1, -1),
	}
}

// someCoord is a number that can be: at times near nought, near an end, or anywhere.
func someCoord(r *rand.Rand) int64 {
	switch r.Intn(3) {
	case 0:
		return r.Int63n(7) - 3
	case 1:
		return (end - r.Int63n(3)) * (2*r.Int63n(2) - 1)
	}
	return r.Int63n(2*end+1) - end
}

// somePoints are so many points that can be: at times all of them near nought, where much is equal or in line.
func somePoints(r *rand.Rand, many int) []api.Point {
	near := r.Intn(2) == 0
	list := make([]api.Point, many)
	for i := range list {
		list[i] = pt(someCoord(r), someCoord(r))
		if near {
			list[i] = pt(r.Int63n(7)-3, r.Int63n(7)-3)
		}
	}
	return list
}

// toBig is a wide as a number of another library.
func toBig(a api.Wide) *big.Int {
	n := new(big.Int).Lsh(big.NewInt(a.Hi), 64)
	return n.Add(n, new(big.Int).SetUint64(a.Lo))
}

// less is a number less another one, by another library.
func less(a, b int64) *big.Int {
	return new(big.Int).Sub(big.NewInt(a), big.NewInt(b))
}

// times is a product, by another library.
func times(a, b *big.Int) *big.Int {
	return new(big.Int).Mul(a, b)
}

// areaBig is the triangle's area, twice, by the ways between its corners round the origin, by another library.
func areaBig(a, b, c api.Point) *big.Int {
	sum := new(big.Int)
	for _, w := range [][2]api.Point{{a, b}, {b, c}, {c, a}} {
		sum.Add(sum, times(big.NewInt(w[0].X), big.NewInt(w[1].Y)))
		sum.Sub(sum, times(big.NewInt(w[0].Y), big.NewInt(w[1].X)))
	}
	return sum
}

// distBig is the square of how far two points are from one another, by another library.
func distBig(a, b api.Point) *big.Int {
	x, y := less(b.X, a.X), less(b.Y, a.Y)
	return new(big.Int).Add(times(x, x), times(y, y))
}

// circleBig is the sign of P7.2's determinant, its rows written out, by Sarrus' rule, by another library.
func circleBig(a, b, c, d api.Point) int {
	var m [3][3]*big.Int
	for i, p := range []api.Point{a, b, c} {
		m[i] = [3]*big.Int{less(p.X, d.X), less(p.Y, d.Y), distBig(p, d)}
	}
	sum := new(big.Int)
	for i := range 3 {
		j, k := (i+1)%3, (i+2)%3
		sum.Add(sum, times(times(m[0][i], m[1][j]), m[2][k]))
		sum.Sub(sum, times(times(m[0][i], m[1][k]), m[2][j]))
	}
	return sum.Sign()
}

// whereBig is where p lies, by the areas of the three triangles that it makes with the edges: within, all together are the whole one's.
func whereBig(a, b, c, p api.Point) int {
	whole := areaBig(a, b, c)
	if whole.Sign() != 1 {
		return 0
	}
	parts, none := new(big.Int), false
	for _, w := range [][2]api.Point{{a, b}, {b, c}, {c, a}} {
		part := areaBig(w[0], w[1], p)
		none = none || part.Sign() == 0
		parts.Add(parts, part.Abs(part))
	}
	switch {
	case parts.Cmp(whole) > 0:
		return -1
	case none:
		return 1
	}
	return 2
}

// P7.1: Area2 and Orient of points that turn left, turn right, lie on a line, and of equal points.
func TestArea2(t *testing.T) {
	for _, c := range []struct {
		a, b, c api.Point
		want    string
		sign    int
	}{
		{pt(0, 0), pt(4, 0), pt(0, 3), "12", 1},
		{pt(0, 0), pt(0, 3), pt(4, 0), "-12", -1},
		{pt(0, 0), pt(1, 0), pt(0, 1), "1", 1},
		{pt(5, 7), pt(2, 3), pt(11, -4), "57", 1},
		{pt(0, 0), pt(1, 1), pt(3, 3), "0", 0},
		{pt(0, 0), pt(1, 1), pt(-3, -3), "0", 0},
		{pt(-2, 5), pt(7, 5), pt(3, 5), "0", 0},
		{pt(5, -2), pt(5, 7), pt(5, 3), "0", 0},
		{pt(1, 2), pt(1, 2), pt(3, 4), "0", 0},
		{pt(1, 2), pt(3, 4), pt(1, 2), "0", 0},
		{pt(3, 4), pt(1, 2), pt(1, 2), "0", 0},
		{pt(1, 2), pt(1, 2), pt(1, 2), "0", 0},
		{pt(-end, -end), pt(end, -end), pt(end, end), "4835703278458516698824704", 1},
		{pt(-end, -end), pt(end, end), pt(end, -end), "-4835703278458516698824704", -1},
		{pt(-end, -end), pt(end, end), pt(0, 0), "0", 0},
		{pt(-end, -end), pt(end, end), pt(0, 1), "2199023255552", 1},
		{pt(-end, -end), pt(end, end), pt(1, 0), "-2199023255552", -1},
		{pt(-end, -end), pt(end, end-1), pt(0, 0), "1099511627776", 1},
		{pt(-end, -end), pt(end-1, end-1), pt(end, end), "0", 0},
	} {
		if got := wide.Show(pred.Area2(c.a, c.b, c.c)); got != c.want {
			t.Error("Area2", c.a, c.b, c.c, "is", got, "not", c.want)
		}
		if got := pred.Orient(c.a, c.b, c.c); got != c.sign {
			t.Error("Orient", c.a, c.b, c.c, "is", got, "not", c.sign)
		}
	}
}

// P7.1: Dist2, of equal points and of opposite ends too.
func TestDist2(t *testing.T) {
	for _, c := range []struct {
		a, b api.Point
		want string
	}{
		{pt(-1, 2), pt(2, -2), "25"}, {pt(2, -2), pt(-1, 2), "25"}, {pt(0, 0), pt(0, 7), "49"}, {pt(0, 0), pt(-7, 0), "49"},
		{pt(3, 4), pt(3, 4), "0"}, {pt(end, -end), pt(end, -end), "0"}, {pt(1, 1), pt(2, 2), "2"},
		{pt(-end, -end), pt(end, end), "9671406556917033397649408"}, {pt(end, -end), pt(-end, end), "9671406556917033397649408"},
		{pt(-end, 0), pt(end, 0), "4835703278458516698824704"}, {pt(0, end), pt(0, -end), "4835703278458516698824704"},
		{pt(-end, -end), pt(end, end-1), "9671406556912635351138305"},
	} {
		if got := wide.Show(pred.Dist2(c.a, c.b)); got != c.want {
			t.Error("Dist2", c.a, c.b, "is", got, "not", c.want)
		}
	}
}

// P7.1: measures of points at the ends and anywhere are those of another library.
func TestMeasures(t *testing.T) {
	check := func(a, b, c api.Point) {
		want := areaBig(a, b, c)
		if got := toBig(pred.Area2(a, b, c)); got.Cmp(want) != 0 {
			t.Fatal("Area2", a, b, c, "is", got, "not", want)
		}
		if got := pred.Orient(a, b, c); got != want.Sign() {
			t.Fatal("Orient", a, b, c, "is", got, "not", want.Sign())
		}
		if got, want := toBig(pred.Dist2(a, b)), distBig(a, b); got.Cmp(want) != 0 {
			t.Fatal("Dist2", a, b, "is", got, "not", want)
		}
	}
	for _, a := range endPoints() {
		for _, b := range endPoints() {
			for _, c := range endPoints() {
				check(a, b, c)
			}
		}
	}
	r := rand.New(rand.NewSource(71))
	for range 20000 {
		p := somePoints(r, 3)
		check(p[0], p[1], p[2])
	}
}

// wrongOf are the points with one of them in each place put by one that can't be, by either number or by both.
func wrongOf(points ...api.Point) [][]api.Point {
	var list [][]api.Point
	for i, p := range points {
		for _, c := range outside() {
			for _, wrong := range []api.Point{pt(c, p.Y), pt(p.X, c), pt(c, c), pt(c, -end), pt(end, c)} {
				row := append([]api.Point(nil), points...)
				row[i] = wrong
				list = append(list, row)
			}
		}
	}
	return list
}

// P7.1: of points one of which can't be all is 0, in whatever place that one stands.
func TestWrongMeasures(t *testing.T) {
	for _, p := range append(wrongOf(pt(0, 0), pt(4, 0), pt(0, 3)), wrongOf(pt(-end, -end), pt(end, -end), pt(end, end))...) {
		if got := pred.Area2(p[0], p[1], p[2]); got != (api.Wide{}) {
			t.Error("Area2", p, "is", got)
		}
		if got := pred.Orient(p[0], p[1], p[2]); got != 0 {
			t.Error("Orient", p, "is", got)
		}
	}
	for _, p := range append(wrongOf(pt(0, 0), pt(4, 3)), wrongOf(pt(-end, -end), pt(end, end))...) {
		if got := pred.Dist2(p[0], p[1]); got != (api.Wide{}) {
			t.Error("Dist2", p, "is", got)
		}
	}
}

// P7.1: of points one of which can't be InCircle and Where are 0, too.
func TestWrongCircle(t *testing.T) {
	for _, base := range [][]api.Point{
		{pt(0, 0), pt(4, 0), pt(0, 3), pt(1, 1)},
		{pt(0, 0), pt(4, 0), pt(0, 3), pt(9, 9)},
		{pt(-end, -end), pt(end, -end), pt(end, end), pt(5, 1)},
		{pt(-end, -end), pt(end, -end), pt(0, 0), pt(end, end)},
	} {
		if pred.InCircle(base[0], base[1], base[2], base[3]) == 0 || pred.Where(base[0], base[1], base[2], base[3]) == 0 {
			t.Error("nought of points that can be", base)
		}
		for _, p := range wrongOf(base...) {
			if got := pred.InCircle(p[0], p[1], p[2], p[3]); got != 0 {
				t.Error("InCircle", p, "is", got)
			}
			if got := pred.Where(p[0], p[1], p[2], p[3]); got != 0 {
				t.Error("Where", p, "is", got)
			}
		}
	}
}

// P7.2: InCircle within, on and outside of the circle, of a, b, c turning left; turning right the sign is the other one.
func TestInCircle(t *testing.T) {
	for _, c := range []struct {
		a, b, c, d api.Point
		want       int
	}{
		{pt(0, 0), pt(1, 0), pt(1, 1), pt(0, 1), 0},
		{pt(0, 0), pt(4, 0), pt(0, 3), pt(2, 1), 1},
		{pt(0, 0), pt(4, 0), pt(0, 3), pt(0, 2), 1},
		{pt(0, 0), pt(4, 0), pt(0, 3), pt(4, 3), 0},
		{pt(0, 0), pt(4, 0), pt(0, 3), pt(5, 3), -1},
		{pt(0, 0), pt(4, 0), pt(0, 3), pt(-1, -1), -1},
		{pt(5, 0), pt(0, 5), pt(-5, 0), pt(3, -4), 0},
		{pt(5, 0), pt(0, 5), pt(-5, 0), pt(3, -3), 1},
		{pt(5, 0), pt(0, 5), pt(-5, 0), pt(4, -4), -1},
		{pt(-end, -end), pt(end, -end), pt(end, end), pt(-end, end), 0},
		{pt(-end, -end), pt(end, -end), pt(end, end), pt(-end, end-1), 1},
		{pt(-end, -end), pt(end, -end), pt(end, end), pt(1-end, end), 1},
		{pt(1-end, 1-end), pt(end-1, 1-end), pt(end-1, end-1), pt(1-end, end-1), 0},
		{pt(1-end, 1-end), pt(end-1, 1-end), pt(end-1, end-1), pt(1-end, end), -1},
		{pt(1-end, 1-end), pt(end-1, 1-end), pt(end-1, end-1), pt(-end, end-1), -1},
		{pt(-end, -end), pt(end, -end), pt(end, end), pt(0, 0), 1},
		{pt(-end, -end), pt(end, -end), pt(0, 0), pt(-end, end), -1},
	} {
		if got := pred.InCircle(c.a, c.b, c.c, c.d); got != c.want {
			t.Error("InCircle", c.a, c.b, c.c, c.d, "is", got, "not", c.want)
		}
		if got := pred.InCircle(c.c, c.b, c.a, c.d); got != -c.want {
			t.Error("InCircle", c.c, c.b, c.a, c.d, "is", got, "not", -c.want)
		}
	}
}

// P7.2: of a, b, c on a line the determinant still has a sign: of which side d lies; and none where all are on it, or two are equal.
func TestInCircleFlat(t *testing.T) {
	for _, c := range []struct {
		a, b, c, d api.Point
		want       int
	}{
		{pt(0, 0), pt(1, 0), pt(2, 0), pt(0, 1), 1},
		{pt(0, 0), pt(1, 0), pt(2, 0), pt(0, -1), -1},
		{pt(0, 0), pt(2, 0), pt(1, 0), pt(0, 1), -1},
		{pt(-end, -end), pt(0, 0), pt(end, end), pt(-end, end), 1},
		{pt(-end, -end), pt(0, 0), pt(end, end), pt(end, -end), -1},
		{pt(-end, -end), pt(0, 0), pt(end, end), pt(1, 2), 1},
		{pt(0, 0), pt(1, 0), pt(2, 0), pt(7, 0), 0},
		{pt(-end, -end), pt(0, 0), pt(end, end), pt(5, 5), 0},
		{pt(1, 2), pt(1, 2), pt(1, 2), pt(1, 2), 0},
	} {
		if got := pred.InCircle(c.a, c.b, c.c, c.d); got != c.want {
			t.Error("InCircle", c.a, c.b, c.c, c.d, "is", got, "not", c.want)
		}
	}
	corners := []api.Point{pt(0, 0), pt(4, 0), pt(0, 3), pt(1, 1)}
	for i := range corners {
		for k := range corners {
			p := append([]api.Point(nil), corners...)
			p[i] = p[k]
			if got := pred.InCircle(p[0], p[1], p[2], p[3]); i != k && got != 0 {
				t.Error("InCircle with equal points", p, "is", got)
			}
		}
	}
}

// ring is all whole points of the circle about the origin whose radius squared is 5525, so many times as great, to the left all the way round.
func ring(scale int64) []api.Point {
	var right, left []api.Point
	for x := int64(-74); x <= 74; x++ {
		for y := int64(0); y <= 74; y++ {
			if x*x+y*y == 5525 {
				left = append(left, pt(-x*scale, y*scale))
				right = append(right, pt(x*scale, -y*scale))
			}
		}
	}
	return append(left, right...)
}

// P7.2: on a circle, and by a single step within it or outside of it, small ones and great ones.
func TestInCircleBeside(t *testing.T) {
	for _, scale := range []int64{1, 1000, 1 << 33} {
		list := ring(scale)
		if len(list) != 48 {
			t.Fatal("the ring has", len(list), "points")
		}
		for i := range len(list) - 2 {
			a, b, c := list[i], list[i+1], list[i+2]
			for _, d := range list {
				in, out := d, d
				// Every point of the ring has its X off nought, and so a step along it goes in or out.
				if d.X > 0 {
					in.X, out.X = d.X-1, d.X+1
				} else {
					in.X, out.X = d.X+1, d.X-1
				}
				for want, p := range map[int]api.Point{0: d, 1: in, -1: out} {
					if got := pred.InCircle(a, b, c, p); got != want {
						t.Fatal("InCircle", a, b, c, p, "is", got, "not", want)
					}
				}
			}
		}
	}
}

// P7.2: InCircle of points at the ends, where the determinant is greatest, and anywhere, is that of another library.
func TestInCircleMany(t *testing.T) {
	check := func(a, b, c, d api.Point) {
		if got, want := pred.InCircle(a, b, c, d), circleBig(a, b, c, d); got != want {
			t.Fatal("InCircle", a, b, c, d, "is", got, "not", want)
		}
	}
	list := endPoints()
	for _, a := range list {
		for _, b := range list {
			for _, c := range list {
				for _, d := range list {
					check(a, b, c, d)
				}
			}
		}
	}
	r := rand.New(rand.NewSource(72))
	for range 20000 {
		p := somePoints(r, 4)
		check(p[0], p[1], p[2], p[3])
	}
}

// P7.3: Where of a point within, on each edge, at each corner, and outside: behind each edge, behind each corner, in line with each edge.
func TestWhere(t *testing.T) {
	for _, c := range []struct {
		p    api.Point
		want int
	}{
		{pt(1, 1), 2}, {pt(5, 5), 2}, {pt(10, 1), 2}, {pt(1, 10), 2},
		{pt(6, 0), 1}, {pt(1, 0), 1}, {pt(6, 6), 1}, {pt(11, 1), 1}, {pt(1, 11), 1}, {pt(0, 6), 1}, {pt(0, 11), 1},
		{pt(0, 0), 1}, {pt(12, 0), 1}, {pt(0, 12), 1},
		{pt(6, -1), -1}, {pt(7, 6), -1}, {pt(-1, 6), -1},
		{pt(-1, -1), -1}, {pt(14, -1), -1}, {pt(-1, 14), -1},
		{pt(13, 0), -1}, {pt(-1, 0), -1}, {pt(13, -1), -1}, {pt(-1, 13), -1}, {pt(0, 13), -1}, {pt(0, -1), -1},
		{pt(end, end), -1}, {pt(-end, -end), -1}, {pt(end, 0), -1}, {pt(0, -end), -1},
	} {
		a, b, d := pt(0, 0), pt(12, 0), pt(0, 12)
		for range 3 {
			if got := pred.Where(a, b, d, c.p); got != c.want {
				t.Error("Where", a, b, d, c.p, "is", got, "not", c.want)
			}
			if got := pred.Where(b, a, d, c.p); got != 0 {
				t.Error("Where", b, a, d, c.p, "is", got, "though they turn right")
			}
			a, b, d = b, d, a
		}
	}
}

// P7.3: Where of the greatest triangle, and just beside its long edge; of triangles without an area.
func TestWhereEnds(t *testing.T) {
	for _, c := range []struct {
		a, b, c, p api.Point
		want       int
	}{
		{pt(-end, -end), pt(end, -end), pt(end, end), pt(1, 0), 2},
		{pt(-end, -end), pt(end, -end), pt(end, end), pt(0, 0), 1},
		{pt(-end, -end), pt(end, -end), pt(end, end), pt(0, 1), -1},
		{pt(-end, -end), pt(end, -end), pt(end, end), pt(end, end), 1},
		{pt(-end, -end), pt(end, -end), pt(end, end), pt(end-1, end), -1},
		{pt(-end, -end), pt(end, -end), pt(end, end), pt(end, end-1), 1},
		{pt(-end, -end), pt(end, -end), pt(end, end), pt(end-1, end-2), 2},
		{pt(-end, -end), pt(end, end-1), pt(end, end), pt(0, 0), 1},
		{pt(-end, -end), pt(end, end-1), pt(end, end), pt(0, -1), -1},
		{pt(-end, -end), pt(end, end), pt(0, 0), pt(0, 0), 0},
		{pt(0, 0), pt(1, 1), pt(3, 3), pt(2, 2), 0},
		{pt(0, 0), pt(0, 0), pt(3, 4), pt(0, 0), 0},
		{pt(3, 4), pt(0, 0), pt(0, 0), pt(1, 1), 0},
		{pt(5, 5), pt(5, 5), pt(5, 5), pt(5, 5), 0},
	} {
		if got := pred.Where(c.a, c.b, c.c, c.p); got != c.want {
			t.Error("Where", c.a, c.b, c.c, c.p, "is", got, "not", c.want)
		}
	}
}

// P7.3: Where of points at the ends and anywhere, told by areas of another library.
func TestWhereMany(t *testing.T) {
	check := func(a, b, c, p api.Point) {
		if got, want := pred.Where(a, b, c, p), whereBig(a, b, c, p); got != want {
			t.Fatal("Where", a, b, c, p, "is", got, "not", want)
		}
	}
	list := endPoints()
	for _, a := range list {
		for _, b := range list {
			for _, c := range list {
				for _, p := range list {
					check(a, b, c, p)
				}
			}
		}
	}
	r := rand.New(rand.NewSource(73))
	for range 20000 {
		p := somePoints(r, 4)
		check(p[0], p[1], p[2], p[3])
	}
}

// P7.4: three points turned about turn alike; two put for each other turn Orient's and InCircle's sign.
func TestTurnedAbout(t *testing.T) {
	r := rand.New(rand.NewSource(74))
	for round := range 20000 {
		p := somePoints(r, 4)
		if round%10 == 0 {
			p[r.Intn(4)] = pt(end+1, 0)
		}
		turn := pred.Orient(p[0], p[1], p[2])
		if pred.Orient(p[1], p[2], p[0]) != turn || pred.Orient(p[2], p[0], p[1]) != turn {
			t.Fatal("Orient turned about", p)
		}
		if pred.Orient(p[1], p[0], p[2]) != -turn || pred.Orient(p[0], p[2], p[1]) != -turn || pred.Orient(p[2], p[1], p[0]) != -turn {
			t.Fatal("Orient put for each other", p)
		}
		in := pred.InCircle(p[0], p[1], p[2], p[3])
		for i := range 4 {
			for k := range i {
				q := append([]api.Point(nil), p...)
				q[i], q[k] = q[k], q[i]
				if pred.InCircle(q[0], q[1], q[2], q[3]) != -in {
					t.Fatal("InCircle", p, "with", i, "and", k, "put for each other")
				}
			}
		}
	}
}

// told is all that is told of four points.
type told struct {
	area, dist          api.Wide
	turn, circle, where int
}

// tell is what is told of them.
func tell(p []api.Point) told {
	return told{
		area:   pred.Area2(p[0], p[1], p[2]),
		dist:   pred.Dist2(p[0], p[1]),
		turn:   pred.Orient(p[0], p[1], p[2]),
		circle: pred.InCircle(p[0], p[1], p[2], p[3]),
		where:  pred.Where(p[0], p[1], p[2], p[3]),
	}
}

// moveAll is all points moved alike, and whether all of them can still be.
func moveAll(p []api.Point, x, y int64) ([]api.Point, bool) {
	var moved []api.Point
	for _, q := range p {
		q = pt(q.X+x, q.Y+y)
		if !lift.Can(q) {
			return nil, false
		}
		moved = append(moved, q)
	}
	return moved, true
}

// P7.5: all that is told stays when all points are moved alike, up to the very ends.
func TestMoved(t *testing.T) {
	r := rand.New(rand.NewSource(75))
	moved := 0
	for range 20000 {
		p := somePoints(r, 4)
		for _, by := range []api.Point{pt(1, -1), pt(someCoord(r), someCoord(r)), pt(end-3, 3-end), pt(3-end, 0)} {
			q, ok := moveAll(p, by.X, by.Y)
			if !ok {
				continue
			}
			moved++
			if got, want := tell(q), tell(p); got != want {
				t.Fatal(p, "moved to", q, "is told", got, "not", want)
			}
		}
	}
	if moved < 20000 {
		t.Error("only", moved, "could be moved")
	}
	square := []api.Point{pt(0, 0), pt(1, 0), pt(1, 1), pt(0, 1)}
	at, ok := moveAll(square, end-1, end-1)
	if !ok || tell(at) != tell(square) {
		t.Error("the square in the corner is told", tell(at))
	}
	for i := range square {
		square[i] = pt(square[i].X+end, square[i].Y+end)
	}
	if tell(square) != (told{}) {
		t.Error("the square moved out is told", tell(square))
	}
}

// All that is told of any points is that of another library, or 0 (run by go test -fuzz).
func FuzzAll(f *testing.F) {
	f.Add(int64(0), int64(0), int64(4), int64(0), int64(0), int64(3), int64(4), int64(3))
	f.Add(int64(-end), int64(-end), int64(end), int64(-end), int64(end), int64(end), int64(-end), int64(end))
	f.Add(int64(math.MinInt64), int64(0), int64(end), int64(end+1), int64(0), int64(math.MaxInt64), int64(1), int64(2))
	f.Fuzz(func(t *testing.T, ax, ay, bx, by, cx, cy, dx, dy int64) {
		p := []api.Point{pt(ax, ay), pt(bx, by), pt(cx, cy), pt(dx, dy)}
		got := tell(p)
		if !lift.Can(p[0]) || !lift.Can(p[1]) {
			if got != (told{}) {
				t.Fatal(p, got)
			}
			return
		}
		if toBig(got.dist).Cmp(distBig(p[0], p[1])) != 0 {
			t.Fatal(p, got)
		}
		if lift.Can(p[2]) && (toBig(got.area).Cmp(areaBig(p[0], p[1], p[2])) != 0 || got.turn != areaBig(p[0], p[1], p[2]).Sign()) {
			t.Fatal(p, got)
		}
		if lift.Can(p[2]) && lift.Can(p[3]) && (got.circle != circleBig(p[0], p[1], p[2], p[3]) || got.where != whereBig(p[0], p[1], p[2], p[3])) {
			t.Fatal(p, got)
		}
	})
}
