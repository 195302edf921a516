package pdt_test

import (
	"math"
	"math/rand"
	"slices"
	"testing"

	"zellige/api"
	"zellige/pdt"
)

// circle are all sites of a circle about a point, whose radius, squared, is r2: as many as there are.
func circle(middle api.Point, r2 int64) []api.Point {
	var l []api.Point
	r := int64(math.Sqrt(float64(r2))) + 1
	for x := -r; x <= r; x++ {
		y := int64(math.Round(math.Sqrt(math.Max(0, float64(r2-x*x)))))
		if x*x+y*y != r2 {
			continue
		}
		l = append(l, at(middle.X+x, middle.Y+y))
		if y > 0 {
			l = append(l, at(middle.X+x, middle.Y-y))
		}
	}
	return l
}

// 972 sites on a circle about one: whose hole has more corners than hole fills. All lie on one circle behind it.
func TestGreatCircle(t *testing.T) {
	const n = 1 << 23
	middle := at(n/2, n/2)
	sites := circle(middle, 1185665*1185665)
	if len(sites) != 972 {
		t.Fatalf("%d sites", len(sites))
	}
	// With some far outside it, all circles are small, and there is one sheet.
	outer := slices.Clone(sites)
	for _, p := range grid(8, n/8) {
		if x, y := p.X-middle.X, p.Y-middle.Y; x*x+y*y > 1200000*1200000 {
			outer = append(outer, p)
		}
	}
	for _, c := range []struct {
		sites  []api.Point
		sheets int
	}{{sites, 3}, {outer, 1}} {
		l := numbered(c.sites)
		e := of(t, n, 2000, l...)
		check := func(more ...api.Place) {
			t.Helper()
			if e.Sheets() != c.sheets {
				t.Fatalf("%d sheets, not %d", e.Sheets(), c.sheets)
			}
			isDelaunay(t, e, append(slices.Clone(l), more...))
		}
		check()
		id, err := e.Insert(middle)
		if id != len(l) || err != api.OK {
			t.Fatal(id, err)
		}
		check(api.Place{ID: id, At: middle})
		if err := e.Move(id, at(middle.X+3, middle.Y+1)); err != api.OK {
			t.Fatal(err)
		}
		check(place(id, middle.X+3, middle.Y+1))
		if err := e.Move(id, middle); err != api.OK {
			t.Fatal(err)
		}
		if err := e.Remove(id); err != api.OK {
			t.Fatal(err)
		}
		check()
		if id, err := e.Insert(middle); id != len(l) || err != api.OK {
			t.Fatal(id, err)
		}
		// By a Set that takes but that one away.
		if err := e.Set(l); err != api.OK {
			t.Fatal(err)
		}
		check()
	}
}

// Sites on one line, each of which is a neighbour of the few beside the line.
func TestLongLine(t *testing.T) {
	r := rand.New(rand.NewSource(12))
	for _, way := range []api.Point{at(0, 1), at(1, 0), at(1, 1)} {
		var l []api.Place
		for i := range int64(330) {
			y := i*(maxN/330) + r.Int63n(maxN/330)
			l = append(l, api.Place{ID: int(i) + 5, At: at(y*way.X, y*way.Y)})
		}
		e := of(t, maxN, 400, l...)
		isDelaunay(t, e, l)
		beside := at(maxN/2*(1-way.X)+77*way.X, maxN/2*(1-way.Y)+99*way.Y)
		if way.X == way.Y {
			beside = at(maxN/2, 0)
		}
		if id, err := e.Insert(beside); id != 0 || err != api.OK {
			t.Fatal(id, err)
		}
		isDelaunay(t, e, append(slices.Clone(l), api.Place{ID: 0, At: beside}))
		to := at((beside.X+1000)%maxN, (beside.Y+1000)%maxN)
		if err := e.Move(0, to); err != api.OK {
			t.Fatal(err)
		}
		isDelaunay(t, e, append(slices.Clone(l), api.Place{ID: 0, At: to}))
		if err := e.Remove(0); err != api.OK {
			t.Fatal(err)
		}
		isDelaunay(t, e, l)
		// Those of the line go, too.
		for range 20 {
			i := r.Intn(len(l))
			if err := e.Remove(l[i].ID); err != api.OK {
				t.Fatal(err)
			}
			l = slices.Delete(l, i, i+1)
		}
		isDelaunay(t, e, l)
	}
}

// Sites that come row by row, along a line, or from outside to inside, as one would put them by hand.
func TestInOrder(t *testing.T) {
	row := func(many int, tell func(i int64) api.Point) []api.Point {
		var l []api.Point
		for i := range int64(many) {
			l = append(l, tell(i))
		}
		return l
	}
	for _, sites := range [][]api.Point{
		row(1500, func(i int64) api.Point { return at(i, 0) }),
		row(1500, func(i int64) api.Point { return at(7, maxN-1-i) }),
		row(400, func(i int64) api.Point { return at(i*700000, i*i) }),
		row(900, func(i int64) api.Point { return at(i%30*3, i/30*3) }),
		row(600, func(i int64) api.Point { return at(i%2*(maxN/2), i*1000000) }),
	} {
		e := grown(t, maxN, sites)
		again := of(t, maxN, len(sites)+1, numbered(sites)...)
		if !same(tellsOf(t, e), tellsOf(t, again)) {
			t.Fatalf("Set is another mesh of %v", sites[:5])
		}
	}
}

// Sites on two lines, and a few about them: some of these are neighbours of very many, and so is one that comes between the lines. There is one sheet.
func TestTwoLines(t *testing.T) {
	const n, many = 12 * 1500, 1500
	var l []api.Place
	for _, p := range grid(12, n/12) {
		if p.X > n/3 || p.Y < n/4 || p.Y > 3*n/4 {
			l = append(l, api.Place{ID: len(l), At: p})
		}
	}
	for i := range int64(many) {
		y := n/3 + i*(n/3/many)
		l = append(l, api.Place{ID: len(l) + 100, At: at(0, y)}, api.Place{ID: len(l) + 101, At: at(n/3, y)})
	}
	e := of(t, n, 3*many, l...)
	isDelaunay(t, e, l)
	middle := at(n/6+1, n/2+1)
	id, err := e.Insert(middle)
	if err != api.OK {
		t.Fatal(err)
	}
	isDelaunay(t, e, append(slices.Clone(l), api.Place{ID: id, At: middle}))
	if err := e.Remove(id); err != api.OK {
		t.Fatal(err)
	}
	isDelaunay(t, e, l)
	if e.Sheets() != 1 {
		t.Fatalf("%d sheets", e.Sheets())
	}
}

// The numbers of a dump are those of the calls, where a mesh had to be laid anew, too.
func TestGreatAgain(t *testing.T) {
	var dumps []api.Dump
	for range 2 {
		var l []api.Place
		for i := range int64(300) {
			l = append(l, api.Place{ID: int(i), At: at(0, i*i*11000)})
		}
		e := of(t, maxN, 400, l...)
		e.Insert(at(maxN/2, maxN/2))
		e.Remove(300)
		e.Insert(at(maxN/2, 5))
		dumps = append(dumps, e.Dump())
	}
	if !slices.Equal(dumps[0].Verts, dumps[1].Verts) || !slices.Equal(dumps[0].Faces, dumps[1].Faces) {
		t.Fatal("two runs tell two dumps")
	}
}

// An engine that was asked for room for all ids is opened, emptied and filled at once.
func TestNoRoomAhead(t *testing.T) {
	for range 2000 {
		e, err := pdt.Open(maxN, maxM)
		if err != api.OK {
			t.Fatal(err)
		}
		e.Clear()
		if id, err := e.Insert(at(1, 1)); id != 0 || err != api.OK {
			t.Fatal(id, err)
		}
	}
}
