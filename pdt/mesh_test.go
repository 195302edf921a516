package pdt_test

import (
	"math/rand"
	"slices"
	"testing"

	"zellige/api"
	"zellige/pdt"
)

// One site: Sheets 3, nine vertices, 18 faces.
func TestExample(t *testing.T) {
	for _, n := range []int64{1, 2, 3, 10, maxN} {
		for _, p := range []api.Point{at(0, 0), at(n-1, 0), at(0, n-1), at(n-1, n-1), at(n/2, n/3)} {
			e := open(t, n, 1)
			if id, err := e.Insert(p); id != 0 || err != api.OK {
				t.Fatalf("n %d: Insert(%v): %d, %d", n, p, id, err)
			}
			d := e.Dump()
			if e.Sheets() != 3 || d.Side != 3*n || len(d.Verts) != 9 || len(d.Faces) != 18 {
				t.Fatalf("n %d: %d sheets, %v", n, e.Sheets(), d)
			}
			hold(t, e, []api.Place{{ID: 0, At: p}})
		}
	}
}

// One site alone comes, goes, moves, and is put otherwise.
func TestOneSite(t *testing.T) {
	k := known{}
	e := open(t, 5, 3)
	for _, p := range square(5) {
		e.Insert(p)
		k.hold(t, e, []api.Place{{ID: 0, At: p}})
		for _, q := range []api.Point{at(4, 4), at(p.Y, p.X), at(0, p.X)} {
			if err := e.Move(0, q); err != api.OK {
				t.Fatal(err)
			}
			k.hold(t, e, []api.Place{{ID: 0, At: q}})
		}
		e.Set([]api.Place{{ID: 2, At: p}})
		k.hold(t, e, []api.Place{{ID: 2, At: p}})
		if err := e.Remove(2); err != api.OK {
			t.Fatal(err)
		}
		isEmpty(t, e)
	}
}

// All sets of sites on the tori of side 1, 2 and 3: by the words, with the classes looked for among all threes.
func TestByWords(t *testing.T) {
	for n := int64(1); n <= 3; n++ {
		all := square(n)
		for set := range 1 << len(all) {
			var sites []api.Point
			for i, p := range all {
				if set>>i&1 == 1 {
					sites = append(sites, p)
				}
			}
			l := numbered(sites)
			e := of(t, n, 9, l...)
			if len(l) <= 3 {
				if got, want := tellsOf(t, e), laid(l, n, byWords(l, n)); !same(got, want) {
					t.Fatalf("of %v, n %d: %v, not %v", l, n, got, want)
				}
			}
			hold(t, e, l)
			// Inserted one by one, it is the same.
			f := open(t, n, 9)
			for _, p := range sites {
				f.Insert(p)
			}
			if !same(tellsOf(t, e), tellsOf(t, f)) {
				t.Fatalf("of %v, n %d: Set and Insert are two", l, n)
			}
		}
	}
}

// Two and three sites of wider tori, by the words.
func TestByWordsFew(t *testing.T) {
	r := rand.New(rand.NewSource(3))
	for i := range 40 {
		n := []int64{4, 5, 7, 12, 1000, maxN}[i%6]
		l := somePlaces(r, n, 20, 2+i%2)
		e := open(t, n, 20)
		e.Set(l)
		if got, want := tellsOf(t, e), laid(l, n, byWords(l, n)); !same(got, want) {
			t.Fatalf("of %v, n %d: %v, not %v", l, n, got, want)
		}
		hold(t, e, l)
	}
}

// The two diagonals of a square that four sites make: which one is told by the points' order.
func TestTies(t *testing.T) {
	e := of(t, 2, 4, numbered(square(2))...)
	got := hold(t, e, numbered(square(2)))
	for _, f := range got.faces {
		for i := range f {
			// From right below to left above, or the other way round.
			x, y := f[(i+1)%3].at.X-f[i].at.X, f[(i+1)%3].at.Y-f[i].at.Y
			if x != 0 && y != 0 && x != -y {
				t.Fatalf("the face %v", f)
			}
		}
	}
}

// run does what is random, and holds all of it against the words.
func run(t *testing.T, r *rand.Rand, n int64, m, many int) {
	t.Helper()
	k := known{}
	e := open(t, n, m)
	var l []api.Place
	taken := func(p api.Point) int { return slices.IndexFunc(l, func(q api.Place) bool { return q.At == p }) }
	for range many {
		p := at(r.Int63n(n), r.Int63n(n))
		switch r.Intn(8) {
		case 0, 1, 2:
			id, err := e.Insert(p)
			if taken(p) < 0 && len(l) < m {
				if id != leastFree(l) || err != api.OK {
					t.Fatalf("Insert(%v) behind %v: %d, %d", p, l, id, err)
				}
				l = append(l, api.Place{ID: id, At: p})
			} else if id != -1 || err == api.OK {
				t.Fatalf("Insert(%v) behind %v: %d, %d", p, l, id, err)
			}
		case 3, 4:
			id := r.Intn(m)
			i := slices.IndexFunc(l, func(q api.Place) bool { return q.ID == id })
			if err := e.Remove(id); (err == api.OK) != (i >= 0) {
				t.Fatalf("Remove(%d) behind %v: %d", id, l, err)
			}
			if i >= 0 {
				l = slices.Delete(l, i, i+1)
			}
		case 5, 6:
			if len(l) > 0 {
				i, j := r.Intn(len(l)), taken(p)
				err := e.Move(l[i].ID, p)
				if (err == api.OK) != (j < 0 || i == j) {
					t.Fatalf("Move(%d, %v) behind %v: %d", l[i].ID, p, l, err)
				}
				if err == api.OK {
					l[i].At = p
				}
			}
		case 7:
			l = l[:r.Intn(len(l)+1)]
			if err := e.Set(l); err != api.OK {
				t.Fatalf("Set(%v): %d", l, err)
			}
		}
		k.hold(t, e, l)
	}
}

func TestRandom(t *testing.T) {
	r := rand.New(rand.NewSource(4))
	for n := int64(1); n <= 9; n++ {
		run(t, r, n, 12, 150)
	}
	for _, n := range []int64{30, 1000, maxN - 1, maxN} {
		run(t, r, n, 25, 60)
	}
}

// grown is an engine with these sites, each put by Insert, whose ids are their places; at the end it is held against what is looked for apart from it.
func grown(t *testing.T, n int64, sites []api.Point) *pdt.Engine {
	t.Helper()
	e := open(t, n, len(sites)+1)
	for i, p := range sites {
		if id, err := e.Insert(p); id != i || err != api.OK {
			t.Fatalf("Insert(%v): %d, %d", p, id, err)
		}
	}
	isDelaunay(t, e, numbered(sites))
	return e
}

// sheets holds how many sheets there are, and the whole mesh.
func sheets(t *testing.T, e *pdt.Engine, want int, l []api.Place) {
	t.Helper()
	if e.Sheets() != want {
		t.Fatalf("%d sheets, not %d, of %v", e.Sheets(), want, l)
	}
	hold(t, e, l)
}

// Each circle's diameter is the square root of 32, and without one site there is one of 8: half of the side lies between.
func TestSheetsBackAndForth(t *testing.T) {
	l := numbered(grid(3, 4))
	e := open(t, 12, 20)
	for i, p := range l {
		sheets(t, e, min(i, 1)*3, l[:i])
		e.Insert(p.At)
	}
	sheets(t, e, 1, l)
	for _, p := range l {
		less := slices.DeleteFunc(slices.Clone(l), func(q api.Place) bool { return q == p })
		e.Remove(p.ID)
		sheets(t, e, 3, less)
		e.Insert(p.At)
		sheets(t, e, 1, l)
		// One site more changes nothing in that.
		beside := at((p.At.X+1)%12, p.At.Y)
		id, _ := e.Insert(beside)
		more := append(slices.Clone(l), api.Place{ID: id, At: beside})
		sheets(t, e, 1, more)
		e.Remove(id)
		sheets(t, e, 1, l)
		// It goes over there, beside another one, and back.
		to := at((p.At.X+5)%12, p.At.Y)
		e.Move(p.ID, to)
		sheets(t, e, 3, append(slices.Clone(less), api.Place{ID: p.ID, At: to}))
		e.Move(p.ID, p.At)
		sheets(t, e, 1, l)
		// It goes by one step only.
		e.Move(p.ID, beside)
		hold(t, e, append(slices.Clone(less), api.Place{ID: p.ID, At: beside}))
		e.Move(p.ID, p.At)
		sheets(t, e, 1, l)
		// By Set, a few and all.
		e.Set(less)
		sheets(t, e, 3, less)
		e.Set(l)
		sheets(t, e, 1, l)
		e.Set(nil)
		sheets(t, e, 0, nil)
		e.Set(l)
		sheets(t, e, 1, l)
	}
	// Down to none, and up again.
	for i := range l {
		e.Remove(l[i].ID)
		sheets(t, e, min(8-i, 1)*3, l[i+1:])
	}
	for i := range l {
		e.Insert(l[i].At)
	}
	sheets(t, e, 1, l)
}

// ringed are all sites of the torus of side n but those that lie less than r off its middle.
func ringed(n, r int64) []api.Point {
	var l []api.Point
	for _, p := range square(n) {
		x, y := p.X-n/2, p.Y-n/2
		if x*x+y*y >= r*r {
			l = append(l, p)
		}
	}
	return l
}

// A circle just half as wide as the side is not small; one site within it, or a side that is one more, makes it small.
func TestSheetsAtHalf(t *testing.T) {
	exact := numbered(ringed(20, 5))
	e := of(t, 20, 400, exact...)
	if e.Sheets() != 3 {
		t.Fatalf("a circle of half the side: %d sheets", e.Sheets())
	}
	isDelaunay(t, e, exact)
	for range 2 {
		id, _ := e.Insert(at(10, 10))
		if e.Sheets() != 1 {
			t.Fatalf("a site within: %d sheets", e.Sheets())
		}
		isDelaunay(t, e, append(slices.Clone(exact), place(id, 10, 10)))
		e.Remove(id)
		if e.Sheets() != 3 {
			t.Fatalf("without it again: %d sheets", e.Sheets())
		}
		isDelaunay(t, e, exact)
	}
	wider := numbered(ringed(21, 5))
	e = of(t, 21, 441, wider...)
	if e.Sheets() != 1 {
		t.Fatalf("a side one more: %d sheets", e.Sheets())
	}
	isDelaunay(t, e, wider)
}

// Sites on one circle, with and without its middle, put and taken away in any order, alone, and among others.
func TestOneCircle(t *testing.T) {
	var circle []api.Point
	for _, p := range square(11) {
		if x, y := p.X-5, p.Y-5; x*x+y*y == 25 {
			circle = append(circle, p)
		}
	}
	if len(circle) != 12 {
		t.Fatal(circle)
	}
	r := rand.New(rand.NewSource(5))
	for _, n := range []int64{11, 12, 13, 20, 21, 22, 40, 1000} {
		for range 3 {
			// Over the edge of the first square, too.
			right, up := r.Int63n(n), r.Int63n(n)
			var sites []api.Point
			for _, p := range append(slices.Clone(circle), at(5, 5)) {
				sites = append(sites, at((p.X+right)%n, (p.Y+up)%n))
			}
			r.Shuffle(len(sites), func(i, k int) { sites[i], sites[k] = sites[k], sites[i] })
			e := grown(t, n, sites)
			l := numbered(sites)
			hold(t, e, l)
			for len(l) > 9 {
				i := r.Intn(len(l))
				e.Remove(l[i].ID)
				l = slices.Delete(l, i, i+1)
				hold(t, e, l)
			}
		}
	}
}

// Sites on one line: along the rows, the columns, aslant, and aslant about the torus.
func TestOneLine(t *testing.T) {
	r := rand.New(rand.NewSource(6))
	for _, n := range []int64{8, 9, 30, maxN} {
		for _, way := range []api.Point{at(1, 0), at(0, 1), at(1, 1), at(1, n-1), at(2, 1), at(3, 2)} {
			step := max(1, n/8)
			var sites []api.Point
			for i := range int64(8) {
				p := at((5+i*step%n*way.X)%n, (3+i*step%n*way.Y)%n)
				if !slices.Contains(sites, p) {
					sites = append(sites, p)
				}
			}
			r.Shuffle(len(sites), func(i, k int) { sites[i], sites[k] = sites[k], sites[i] })
			e := grown(t, n, sites)
			l := numbered(sites)
			hold(t, e, l)
			// One leaves the line and comes back.
			for _, p := range l[:3] {
				beside := at((p.At.X+n/3)%n, (p.At.Y+1)%n)
				if err := e.Move(p.ID, beside); err == api.OK {
					hold(t, e, append(slices.DeleteFunc(slices.Clone(l), func(q api.Place) bool { return q == p }), api.Place{ID: p.ID, At: beside}))
					e.Move(p.ID, p.At)
				}
				hold(t, e, l)
			}
			for len(l) > 1 {
				e.Remove(l[0].ID)
				l = l[1:]
				hold(t, e, l)
			}
		}
	}
}

// Grids, put in rows and anyhow, full tori among them.
func TestGrids(t *testing.T) {
	r := rand.New(rand.NewSource(7))
	for _, c := range []struct {
		k, gap int64
		sheets int
	}{{1, 7, 3}, {2, 5, 3}, {3, 1, 1}, {3, 5, 1}, {4, 1, 1}, {4, 3, 1}, {5, 1, 1}, {7, 1, 1}, {4, maxN / 4, 1}, {2, maxN / 2, 3}} {
		sites := grid(c.k, c.gap)
		for range 2 {
			e := grown(t, c.k*c.gap, sites)
			if e.Sheets() != c.sheets {
				t.Fatalf("%v: %d sheets", c, e.Sheets())
			}
			hold(t, e, numbered(sites))
			r.Shuffle(len(sites), func(i, k int) { sites[i], sites[k] = sites[k], sites[i] })
		}
	}
}

// Sites of rows that are farther apart than those in a row, just so that circles are small or not.
func TestRows(t *testing.T) {
	for _, c := range []struct{ n, right, up int64 }{{12, 4, 3}, {12, 4, 6}, {12, 3, 6}, {12, 2, 6}, {12, 1, 6}, {12, 6, 1}, {12, 4, 4}, {12, 12, 1}, {12, 1, 12}} {
		var sites []api.Point
		for x := int64(0); x < c.n; x += c.right {
			for y := int64(0); y < c.n; y += c.up {
				sites = append(sites, at(x, y))
			}
		}
		want := 3
		if 4*(c.right*c.right+c.up*c.up) < c.n*c.n {
			want = 1
		}
		e := grown(t, c.n, sites)
		sheets(t, e, want, numbered(sites))
	}
}

// Many sites, anyhow and in a crowd, with corners that lie in other squares.
func TestMany(t *testing.T) {
	r := rand.New(rand.NewSource(8))
	for _, c := range []struct {
		n, wide int64
		many    int
	}{{maxN, maxN, 800}, {1000, 1000, 800}, {40, 40, 800}, {maxN, 100, 300}, {maxN, 1 << 15, 300}, {1000, 30, 300}} {
		var sites []api.Point
		met := map[api.Point]bool{}
		for len(sites) < c.many {
			// A crowd lies about the first square's corner.
			p := at((c.n-c.wide/2+r.Int63n(c.wide))%c.n, (c.n-c.wide/2+r.Int63n(c.wide))%c.n)
			if !met[p] {
				met[p] = true
				sites = append(sites, p)
			}
		}
		e := grown(t, c.n, sites)
		l := numbered(sites)
		// A half of them goes to other places, or goes.
		for i := range c.many / 2 {
			k := r.Intn(len(l))
			if i%2 == 0 {
				if err := e.Remove(l[k].ID); err != api.OK {
					t.Fatal(err)
				}
				l = slices.Delete(l, k, k+1)
				continue
			}
			p := at(r.Int63n(c.n), r.Int63n(c.n))
			if e.Move(l[k].ID, p) == api.OK {
				l[k].At = p
			}
		}
		isDelaunay(t, e, l)
		again := of(t, c.n, c.many+1, l...)
		if !same(tellsOf(t, e), tellsOf(t, again)) {
			t.Fatalf("%v: Set is another mesh", c)
		}
	}
}
