package cell_test

import (
	"math"
	"math/rand"
	"slices"
	"testing"

	"zellige/api"
	"zellige/cell"
)

// told asks Cell, which is to tell these.
func told(t *testing.T, l []api.Place, f []api.Tri, n int64, id int, want ...string) {
	t.Helper()
	if got, ok := holdCell(t, l, f, n, id); !ok || !slices.Equal(texts(got), want) {
		t.Fatalf("Cell(%v, %v, %d, %d): %v %v, not %v", l, f, n, id, texts(got), ok, want)
	}
}

// none asks Cell, which is to tell none and false.
func none(t *testing.T, l []api.Place, f []api.Tri, n int64, id int) {
	t.Helper()
	if got, ok := holdCell(t, l, f, n, id); ok || len(got) != 0 {
		t.Fatalf("Cell(%v, %v, %d, %d): %v %v", l, f, n, id, texts(got), ok)
	}
}

// Example 1: of one site six spots, some twice, in the order of its star.
func TestExample(t *testing.T) {
	l := []api.Place{place(0, 0, 0)}
	f, _ := laid(t, 10, l)
	told(t, l, f, 10, 0, "-5 -5", "5 -5", "5 -5", "5 5", "-5 5", "-5 5")
}

// P19.1: one site, wherever it lies in the first square, on sides of 1, 2 and MaxN too.
func TestCellOne(t *testing.T) {
	told(t, []api.Place{place(7, 3, 4)}, lone(7), 10, 7, "-2 -1", "8 -1", "8 -1", "8 9", "-2 9", "-2 9")
	told(t, []api.Place{place(-3, 9, 9)}, lone(-3), 10, -3, "4 4", "14 4", "14 4", "14 14", "4 14", "4 14")
	told(t, []api.Place{place(0, 0, 0)}, lone(0), 1, 0, "-1/2 -1/2", "1/2 -1/2", "1/2 -1/2", "1/2 1/2", "-1/2 1/2", "-1/2 1/2")
	told(t, []api.Place{place(0, 1, 0)}, lone(0), 2, 0, "0 -1", "2 -1", "2 -1", "2 1", "0 1", "0 1")
	told(t, []api.Place{place(0, maxN-1, 0)}, lone(0), maxN, 0, "536870911 -536870912", "1610612735 -536870912", "1610612735 -536870912",
		"1610612735 536870912", "536870911 536870912", "536870911 536870912")
	for _, id := range []int{math.MinInt64, math.MaxInt64} {
		told(t, []api.Place{place(id, 3, 4)}, lone(id), 10, id, "-2 -1", "8 -1", "8 -1", "8 9", "-2 9", "-2 9")
	}
}

// P19.1: two sites, on a line with one another's places and not; three, whose centers are fractions. All of these meshes have nine sheets.
func TestCellFew(t *testing.T) {
	for _, c := range []struct {
		l    []api.Place
		want [][]string
	}{
		{[]api.Place{place(0, 0, 0), place(1, 5, 5)}, [][]string{
			{"0 -5", "5 0", "0 5", "0 5", "-5 0", "0 -5"},
			{"5 0", "5 0", "10 5", "5 10", "5 10", "0 5"}}},
		{[]api.Place{place(0, 0, 0), place(1, 4, 0)}, [][]string{
			{"2 -5", "2 -5", "2 5", "-3 5", "-3 5", "-3 -5"},
			{"2 -5", "7 -5", "7 -5", "7 5", "2 5", "2 5"}}},
		{[]api.Place{place(0, 1, 2), place(1, 6, 3), place(2, 3, 8)}, [][]string{
			{"-16/7 -10/7", "-2 -2", "42/11 10/11", "43/14 65/14", "-13/16 95/16"},
			{"42/11 10/11", "54/7 -10/7", "147/16 95/16", "8 38/5", "43/14 65/14"},
			{"43/14 65/14", "8 38/5", "8 8", "54/7 60/7", "42/11 120/11", "-2 8", "-2 38/5", "-13/16 95/16"}}},
	} {
		f, sheets := laid(t, 10, c.l)
		if sheets != 3 {
			t.Fatal(sheets)
		}
		for i, want := range c.want {
			told(t, c.l, f, 10, c.l[i].ID, want...)
		}
	}
}

// P19.1: none and false, if the id is none of the places, with faces at it and without.
func TestCellUnknownID(t *testing.T) {
	l := []api.Place{place(3, 1, 1), place(8, 5, 5)}
	f, _ := laid(t, 10, l)
	for _, id := range []int{0, 1, 2, 4, 7, 9, -1, -3, math.MinInt64, math.MaxInt64} {
		none(t, l, f, 10, id)
		none(t, l, lone(id), 10, id)
		none(t, nil, lone(id), 10, id)
		none(t, []api.Place{}, nil, 10, id)
		none(t, l, nil, 10, id)
	}
	none(t, l[:1], f, 10, 8)
	none(t, nil, f, 10, 3)
	none(t, nil, nil, 0, 0)
	// All that a lesser or a greater id than all has for a place is none.
	none(t, []api.Place{place(1, 3, 3), place(2, 4, 4)}, append(lone(0), lone(3)...), 10, 0)
	none(t, []api.Place{place(1, 3, 3), place(2, 4, 4)}, append(lone(0), lone(3)...), 10, 3)
}

// P19.1: none and false, if the id's star tells false: no faces, none at the id, an open one, two rings, one follows that is not the first.
func TestCellNoStar(t *testing.T) {
	l := []api.Place{place(0, 5, 5), place(1, 8, 5), place(2, 5, 9), place(3, 1, 5), place(4, 5, 2)}
	about := ring(0, knot(1, 0, 0), knot(2, 0, 0), knot(3, 0, 0), knot(4, 0, 0))
	if _, ok := holdCell(t, l, about, 20, 0); !ok {
		t.Fatal("no cell")
	}
	none(t, l, nil, 20, 0)
	none(t, l, []api.Tri{}, 20, 0)
	none(t, l, []api.Tri{tri(knot(1, 0, 0), knot(2, 0, 0), knot(3, 0, 0))}, 20, 0)
	for k := range about {
		none(t, l, slices.Delete(slices.Clone(about), k, k+1), 20, 0)
		none(t, l, about[k:k+1], 20, 0)
		none(t, l, slices.Insert(slices.Clone(about), k, about[k]), 20, 0)
	}
	none(t, l, append(slices.Clone(about), ring(0, knot(1, 1, 0), knot(2, 1, 0), knot(3, 1, 0))...), 20, 0)
	// About the others the same faces are open.
	for id := 1; id < 5; id++ {
		none(t, l, about, 20, id)
	}
	none(t, []api.Place{place(0, 0, 0)}, lone(0)[:1], 10, 0)
}

// P19.1: none and false, if a face at the id has a corner whose id is none of the places, whichever; other faces may have any.
func TestCellUnknownCorner(t *testing.T) {
	l := []api.Place{place(0, 5, 5), place(1, 8, 5), place(2, 5, 9), place(3, 1, 5), place(4, 5, 2)}
	about := ring(0, knot(1, 0, 0), knot(2, 0, 0), knot(3, 0, 0), knot(4, 0, 0))
	for k := 1; k < 5; k++ {
		none(t, slices.Delete(slices.Clone(l), k, k+1), about, 20, 0)
		// Where there is no place, the first square's corner is none either.
		none(t, append(slices.Delete(slices.Clone(l), k, k+1), place(9, 0, 0)), about, 20, 0)
	}
	strange := tri(knot(77, 0, 0), knot(78, 1, 0), knot(-1, 0, 1))
	told(t, l, append([]api.Tri{strange}, about...), 20, 0, "13/2 7", "3 7", "3 7/2", "13/2 7/2")
	// A place that no corner has may lie wherever it is.
	told(t, append([]api.Place{place(9, math.MaxInt64, math.MinInt64)}, l...), about, 20, 0, "13/2 7", "3 7", "3 7/2", "13/2 7/2")
}

// P19.1: none and false, if a corner can't be, by the side.
func TestCellSide(t *testing.T) {
	for _, c := range []struct {
		n  int64
		ok bool
	}{
		{1, true}, {2, true}, {maxN, true}, {maxN + 1, true}, {1 << 39, true}, {end, true},
		{0, false}, {-1, false}, {-10, false}, {end + 1, false}, {1 << 41, false}, {1 << 62, false},
		{math.MinInt64, false}, {math.MinInt64 + 1, false}, {math.MaxInt64, false},
	} {
		if _, ok := holdCell(t, []api.Place{place(0, 0, 0)}, lone(0), c.n, 0); ok != c.ok {
			t.Error(c.n, ok)
		}
	}
	// One to the right, or above, is just too far for a corner a side off.
	half := "549755813888"
	told(t, []api.Place{place(0, 0, 0)}, lone(0), end, 0, "-"+half+" -"+half, half+" -"+half, half+" -"+half, half+" "+half, "-"+half+" "+half, "-"+half+" "+half)
	none(t, []api.Place{place(0, 1, 0)}, lone(0), end, 0)
	none(t, []api.Place{place(0, 0, 1)}, lone(0), end, 0)
}

// P19.1: none and false, if a corner can't be, by its site, the id's own or another one.
func TestCellFarSite(t *testing.T) {
	about := ring(0, knot(1, 1, 0), knot(1, 0, 1), knot(1, -1, 0), knot(1, 0, -1))
	for _, far := range []int64{end + 1, 1 << 41, 1 << 62, math.MaxInt64, -end - 1, -1 << 41, math.MinInt64, math.MinInt64 + 1} {
		for _, p := range []api.Place{place(0, far, 3), place(0, 3, far)} {
			none(t, []api.Place{p}, lone(0), 10, 0)
			none(t, []api.Place{p, place(1, 0, 0)}, about, 10, 0)
			none(t, []api.Place{place(0, 0, 0), {ID: 1, At: p.At}}, about, 10, 0)
		}
	}
	// The site can be, but not all that lies a side off.
	for _, c := range []struct {
		p  api.Point
		ok bool
	}{
		{at(end-10, 0), true}, {at(end-9, 0), false}, {at(0, end-10), true}, {at(0, end-9), false}, {at(end, end), false},
		{at(10-end, 0), true}, {at(9-end, 0), false}, {at(0, 10-end), true}, {at(0, 9-end), false}, {at(-end, -end), false},
	} {
		l := []api.Place{place(0, 0, 0), {ID: 1, At: c.p}}
		if _, ok := holdCell(t, l, about, 10, 0); ok != c.ok {
			t.Error(c.p, ok)
		}
		if _, ok := holdCell(t, []api.Place{{ID: 0, At: c.p}}, lone(0), 10, 0); ok != c.ok {
			t.Error(c.p, ok)
		}
	}
}

// P19.1: none and false, if a corner can't be, by how far it lies off.
func TestCellFarOff(t *testing.T) {
	l := []api.Place{place(0, 0, 0), place(1, 0, 0)}
	for _, c := range []struct {
		far int
		ok  bool
	}{
		{end - 1, true}, {end, true}, {end + 1, false}, {1 << 41, false}, {1 << 62, false}, {math.MaxInt64, false}, {math.MinInt64, false}, {-end - 1, false},
	} {
		for _, k := range []api.Knot{knot(1, c.far, 0), knot(1, 0, c.far)} {
			if _, ok := holdCell(t, l, ring(0, k, knot(1, -1, 1), knot(1, 1, 1)), 1, 0); ok != c.ok {
				t.Error(k, ok)
			}
		}
	}
	// Times the side the off would go round.
	none(t, l, ring(0, knot(1, 1<<62, 0), knot(1, 0, 1), knot(1, -1, -1)), 4, 0)
	none(t, l, ring(0, knot(1, 1, 1<<61), knot(1, 0, 1), knot(1, -1, -1)), 8, 0)
}

// P19.1: none and false, if three corners lie on a line, or two of them are one; whichever face it is. Turning right is no matter.
func TestCellLine(t *testing.T) {
	l := []api.Place{place(0, 5, 5), place(1, 8, 5), place(2, 5, 9), place(3, 1, 5), place(4, 5, 2), place(5, 7, 5), place(6, 5, 5)}
	for k := range 4 {
		order := []api.Knot{knot(1, 0, 0), knot(2, 0, 0), knot(3, 0, 0), knot(4, 0, 0)}
		order = append(order[k:], order[:k]...)
		if got, ok := holdCell(t, l, ring(0, order...), 20, 0); !ok || len(got) != 4 {
			t.Fatal(texts(got), ok)
		}
		// One more that lies on a line with the id's site and the one ahead of it, or at the id's site.
		first := order[0]
		line := map[int]api.Knot{1: knot(5, 0, 0), 2: knot(2, 0, -1), 3: knot(3, 1, 0), 4: knot(4, 0, 5)}[first.V]
		for _, more := range []api.Knot{line, knot(6, 0, 0)} {
			none(t, l, ring(0, slices.Insert(slices.Clone(order), 1, more)...), 20, 0)
		}
		// One more at the place of the one ahead of it.
		none(t, append(l, api.Place{ID: 9, At: l[first.V].At}), ring(0, slices.Insert(slices.Clone(order), 1, knot(9, 0, 0))...), 20, 0)
	}
	// All of them on one line.
	none(t, l, ring(0, knot(1, 0, 0), knot(3, 0, 0)), 20, 0)
	none(t, l, ring(0, knot(0, 1, 0), knot(0, 2, 0), knot(0, 3, 0)), 20, 0)
	// All of them turning right.
	told(t, l, ring(0, knot(4, 0, 0), knot(3, 0, 0), knot(2, 0, 0), knot(1, 0, 0)), 20, 0, "13/2 7/2", "3 7/2", "3 7", "13/2 7")
}

// P19.1: the star's order: the first face stands ahead of all others, then they follow; however the faces are told, the id's site lies in the first square.
func TestCellOrder(t *testing.T) {
	l := []api.Place{place(4, 5, 5), place(9, 8, 5), place(1, 5, 9), place(3, 1, 5), place(7, 5, 2)}
	about := ring(4, knot(9, 0, 0), knot(1, 0, 0), knot(3, 0, 0), knot(7, 0, 0))
	want := []string{"3 7", "3 7/2", "13/2 7/2", "13/2 7"}
	told(t, l, about, 20, 4, want...)
	r := rand.New(rand.NewSource(1))
	for range 50 {
		r.Shuffle(len(l), func(i, k int) { l[i], l[k] = l[k], l[i] })
		told(t, l, shuffled(r, about), 20, 4, want...)
	}
	for range 30 {
		n := 2 + r.Int63n(30)
		l := somePlaces(r, n, 1+r.Intn(9))
		f, _ := laid(t, n, l)
		other := shuffled(r, f)
		for _, p := range l {
			a, okA := holdCell(t, l, f, n, p.ID)
			b, okB := holdCell(t, l, other, n, p.ID)
			if !okA || !okB || !slices.Equal(texts(a), texts(b)) {
				t.Fatal(l, f, other, p.ID)
			}
		}
	}
}

// P19.1: an id's site that is told off the first square lies there in the answer: all is moved by as many sides.
func TestCellMovedHome(t *testing.T) {
	want := []string{"-2 -1", "8 -1", "8 -1", "8 9", "-2 9", "-2 9"}
	for _, p := range []api.Point{at(3, 4), at(13, 4), at(3, 14), at(-7, 4), at(3, -6), at(-7, -6), at(-107, 994), at(549755813883, -549755813886)} {
		told(t, []api.Place{{ID: 0, At: p}}, lone(0), 10, 0, want...)
	}
	// Other ids' sites move along with it.
	l := []api.Place{place(0, 25, -15), place(1, 28, -15), place(2, 25, -11), place(3, 21, -15), place(4, 25, -18)}
	about := ring(0, knot(1, 0, 0), knot(2, 0, 0), knot(3, 0, 0), knot(4, 0, 0))
	told(t, l, about, 20, 0, "13/2 7", "3 7", "3 7/2", "13/2 7/2")
}

// P19.1: four corners on a circle: one center is told twice, one behind the other.
func TestCellCircle(t *testing.T) {
	// Each site of a grid is in four squares, and two of them it has a diagonal in.
	for _, k := range []int{1, 2, 3, 6, 9} {
		l := gridPlaces(k, 10)
		n := int64(k) * 10
		f, _ := laid(t, n, l)
		for _, p := range l {
			got, ok := holdCell(t, l, f, n, p.ID)
			if !ok || len(got) != 6 || len(slices.Compact(around(texts(got)))) != 4 {
				t.Fatal(k, p, texts(got))
			}
		}
	}
	// Six on a circle, within which there is none: its four faces are told from each of their corners.
	l := []api.Place{place(0, 55, 50), place(1, 54, 53), place(2, 53, 54), place(3, 50, 55), place(4, 45, 50), place(5, 50, 45)}
	f, _ := laid(t, 100, l)
	met, beside := 0, 0
	for _, p := range l {
		got, _ := holdCell(t, l, f, 100, p.ID)
		list := texts(got)
		for k, s := range list {
			if s == "50 50" {
				met++
				if list[(k+1)%len(list)] == s {
					beside++
				}
			}
		}
	}
	if met != 12 || beside != 6 {
		t.Error(met, beside)
	}
}

// around is the list from a place on where another one begins.
func around(l []string) []string {
	for k := range l {
		if l[k] != l[(k+len(l)-1)%len(l)] {
			return append(slices.Clone(l[k:]), l[:k]...)
		}
	}
	return l
}

// P19.1: an id and a corner of the same id: a site beside its own places by whole sides off.
func TestCellSameID(t *testing.T) {
	// Of two sites on one line each has itself, a side above and below, for a neighbour.
	l := []api.Place{place(0, 0, 0), place(1, 4, 0)}
	f, _ := laid(t, 10, l)
	met := 0
	for _, u := range f {
		if u.V[0] == u.V[1] || u.V[1] == u.V[2] || u.V[2] == u.V[0] {
			met++
		}
	}
	if met != 4 {
		t.Fatal(f)
	}
	for id := range 2 {
		if got, ok := holdCell(t, l, f, 10, id); !ok || len(got) != 6 {
			t.Fatal(texts(got))
		}
	}
	// These faces are at the id from each of their corners on, and so there are others about it than the four.
	none(t, l, ring(0, knot(0, 1, 0), knot(0, 0, 1), knot(0, -1, 0), knot(0, 0, -1)), 10, 0)
}

// P19.1: faces that are no Delaunay mesh: what is told is the centers all the same.
func TestCellAnyFaces(t *testing.T) {
	l := []api.Place{place(0, 0, 0)}
	// The other diagonal, and one that leans far over.
	for _, f := range [][]api.Tri{
		{tri(knot(0, 0, 0), knot(0, 1, 0), knot(0, 1, 1)), tri(knot(0, 0, 0), knot(0, 1, 1), knot(0, 0, 1))},
		{tri(knot(0, 0, 0), knot(0, 1, 0), knot(0, 4, 1)), tri(knot(0, 0, 0), knot(0, 4, 1), knot(0, 3, 1))},
		{tri(knot(0, 0, 0), knot(0, 2, 0), knot(0, 0, 3)), tri(knot(0, 2, 0), knot(0, 2, 3), knot(0, 0, 3))},
	} {
		if got, ok := holdCell(t, l, f, 10, 0); !ok || len(got) != 6 {
			t.Fatal(f, texts(got), ok)
		}
	}
	// Of the first one: the square is cut the other way, and so the corners stand in another order.
	told(t, l, []api.Tri{tri(knot(0, 0, 0), knot(0, 1, 0), knot(0, 1, 1)), tri(knot(0, 0, 0), knot(0, 1, 1), knot(0, 0, 1))}, 10, 0,
		"-5 -5", "5 -5", "5 5", "5 5", "-5 5", "-5 -5")
	// Others' faces, and faces of other sites than these.
	r := rand.New(rand.NewSource(2))
	for range 200 {
		n := 3 + r.Int63n(20)
		l := somePlaces(r, n, 2+r.Intn(6))
		f, _ := laid(t, n, l)
		for i := range l {
			l[i].At = at(r.Int63n(n), r.Int63n(n))
		}
		for _, p := range l {
			holdCell(t, l, f, n, p.ID)
		}
	}
}

// P19.1: of an id that is told twice the first place counts, the id's own and a corner's.
func TestCellTwice(t *testing.T) {
	l := []api.Place{place(0, 5, 5), place(1, 8, 5), place(2, 5, 9), place(3, 1, 5), place(4, 5, 2)}
	about := ring(0, knot(1, 0, 0), knot(2, 0, 0), knot(3, 0, 0), knot(4, 0, 0))
	want := []string{"13/2 7", "3 7", "3 7/2", "13/2 7/2"}
	for id := range 5 {
		for k := range 6 {
			for _, other := range []api.Place{place(id, 6, 6), place(id, 5, 5), place(id, 0, 0), place(id, end+1, 0), place(id, 19, 1)} {
				all := slices.Insert(slices.Clone(l), k, other)
				if k > id {
					told(t, all, about, 20, 0, want...)
				} else {
					holdCell(t, all, about, 20, 0)
				}
			}
		}
	}
	// Many of them, in any order.
	r := rand.New(rand.NewSource(3))
	for range 200 {
		var all []api.Place
		for range 1 + r.Intn(60) {
			all = append(all, place(r.Intn(6), r.Int63n(20), r.Int63n(20)))
		}
		holdCell(t, all, about, 20, 0)
		holdCell(t, all, lone(1), 20, 1)
	}
}

// P19.1, against the words: places and faces of any kind.
func TestCellRandom(t *testing.T) {
	r := rand.New(rand.NewSource(4))
	met := [2]int{}
	for range 20000 {
		n := 1 + r.Int63n(5)
		var l []api.Place
		for _, id := range r.Perm(4) {
			if r.Intn(12) > 0 {
				l = append(l, place(id, r.Int63n(31)-15, r.Int63n(31)-15))
			}
		}
		var knots []api.Knot
		for range 2 + r.Intn(3) {
			knots = append(knots, knot(1+r.Intn(3), r.Intn(5)-2, r.Intn(5)-2))
		}
		if r.Intn(12) == 0 {
			knots[0].V = 0
		}
		f := ring(0, knots...)
		if r.Intn(4) == 0 {
			f = append(f, lone(r.Intn(3))...)
		}
		if _, ok := holdCell(t, l, f, n, 0); ok {
			met[1]++
		} else {
			met[0]++
		}
	}
	if min(met[0], met[1]) < 2000 {
		t.Error(met)
	}
}

// No call panics, whatever numbers it is given.
func TestCellGreat(t *testing.T) {
	great := []int{math.MinInt64, math.MinInt64 + 1, -1 << 41, -end - 1, -end, -1, 0, 1, 10, maxN, end - 10, end, end + 1, 1 << 62, math.MaxInt64}
	r := rand.New(rand.NewSource(5))
	one := func() int { return great[r.Intn(len(great))] }
	some := func() int {
		if r.Intn(3) > 0 {
			return r.Intn(5) - 2
		}
		return one()
	}
	for range 20000 {
		l := []api.Place{place(0, int64(some()), int64(some())), place(1, int64(some()), int64(some())), place(some(), int64(one()), int64(one()))}
		f := ring(r.Intn(2), knot(r.Intn(2), some(), some()), knot(r.Intn(2), some(), some()), knot(some(), some(), some()))
		holdCell(t, l, f, int64(some()), r.Intn(2))
		holdCell(t, l, append(f, lone(0)...), int64(one()), some())
	}
}

// lists are all lists of the spots.
func lists(spots []api.Spot) []api.Nat {
	var all []api.Nat
	for _, s := range spots {
		all = append(all, s.X.Num.Mag, s.X.Den, s.Y.Num.Mag, s.Y.Den)
	}
	return all
}

// Memory: what is told is new, each list of it, spare room too, and nothing of it is in a later answer.
func TestCellMemory(t *testing.T) {
	for _, l := range [][]api.Place{{place(0, 0, 0)}, {place(0, 1, 2), place(1, 6, 3), place(2, 3, 8)}, {place(0, 13, 4)}, {place(0, 0, 0), place(1, 5, 5)}} {
		f := lone(0)
		if len(l) > 1 {
			f, _ = laid(t, 10, l)
		}
		got, ok := cell.Cell(l, f, 10, 0)
		if !ok {
			t.Fatal(l)
		}
		want := texts(got)
		all := lists(got)
		for i, list := range all {
			kept := slices.Clone(list)
			for k, other := range all {
				if i != k {
					other = other[:cap(other)]
					was := slices.Clone(other)
					for m := range other {
						other[m] = 77
					}
					if !slices.Equal(list, kept) {
						t.Fatal("two lists share memory")
					}
					copy(other, was)
				}
			}
		}
		for _, list := range all {
			for m := range list[:cap(list)] {
				list[:cap(list)][m] = 77
			}
		}
		clear(got[:cap(got)])
		for range 20 {
			if again, ok := cell.Cell(l, f, 10, 0); !ok || !slices.Equal(texts(again), want) {
				t.Fatal("another answer", texts(again), want)
			}
		}
	}
}

// Memory: what is handed in is left, its spare room too, and is not kept.
func TestCellKeeps(t *testing.T) {
	places := []api.Place{place(2, 3, 8), place(1, 6, 3), place(0, 1, 2), place(9, 9, 9), place(8, 8, 8)}
	faces, _ := laid(t, 10, places[:3])
	faces = append(faces, lone(5)...)
	keptL, keptF := slices.Clone(places), slices.Clone(faces)
	got, ok := cell.Cell(places[:3], faces[:6], 10, 1)
	want := texts(got)
	if !ok || !slices.Equal(places, keptL) || !slices.Equal(faces, keptF) {
		t.Fatal(places, faces)
	}
	clear(places)
	clear(faces)
	if !slices.Equal(texts(got), want) {
		t.Fatal("what was handed in is kept")
	}
}
