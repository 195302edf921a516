package bucket_test

import (
	"math"
	"math/rand"
	"testing"

	"zellige/api"
	"zellige/bucket"
)

// cellIs holds one cell against what is to be told.
func cellIs(t *testing.T, g *bucket.Grid, p api.Point, column, row int) {
	t.Helper()
	if x, y := g.Cell(p); x != column || y != row {
		t.Errorf("Cell(%v): %d %d, not %d %d", p, x, y, column, row)
	}
}

// nearIs holds one vertex against what is to be told, and how many there are.
func nearIs(t *testing.T, g *bucket.Grid, p api.Point, v, many int) {
	t.Helper()
	if got := g.Near(p); got != v {
		t.Errorf("Near(%v): %d, not %d", p, got, v)
	}
	if got := g.Len(); got != many {
		t.Errorf("Len: %d, not %d", got, many)
	}
}

// P15.1: the chapter's example.
func TestExample(t *testing.T) {
	cellIs(t, bucket.New(10, 5), at(9, -1), 4, 4)
}

// P15.1: which sides and cells there can be, both ends of both.
func TestNew(t *testing.T) {
	goodSides := []int64{1, 2, 10, 1<<34 - 1, 1 << 34}
	badSides := []int64{0, -1, 1<<34 + 1, 1 << 40, math.MaxInt64, math.MinInt64}
	goodCells := []int{1, 2, 63, 64}
	badCells := []int{0, -1, 65, 128, 1 << 32, 1<<32 + 1, math.MaxInt, math.MinInt}
	for _, side := range goodSides {
		for _, cells := range goodCells {
			if bucket.New(side, cells) == nil {
				t.Errorf("New(%d, %d): nil", side, cells)
			}
		}
		for _, cells := range badCells {
			if bucket.New(side, cells) != nil {
				t.Errorf("New(%d, %d): a grid", side, cells)
			}
		}
	}
	for _, side := range badSides {
		for _, cells := range append(badCells, goodCells...) {
			if bucket.New(side, cells) != nil {
				t.Errorf("New(%d, %d): a grid", side, cells)
			}
		}
	}
}

// P15.1, P15.3: a new grid is without vertices, wherever one looks.
func TestNewIsEmpty(t *testing.T) {
	for _, cells := range []int{1, 2, 3, 64} {
		g := bucket.New(640, cells)
		for x := int64(0); x < 640; x += 37 {
			nearIs(t, g, at(x, 639-x), -1, 0)
		}
	}
}

// P15.1: columns are told by X and rows by Y; in the first square and outside it, also below nought.
func TestCell(t *testing.T) {
	g := bucket.New(10, 5)
	cellIs(t, g, at(0, 0), 0, 0)
	cellIs(t, g, at(1, 0), 0, 0)
	cellIs(t, g, at(2, 0), 1, 0)
	cellIs(t, g, at(0, 2), 0, 1)
	cellIs(t, g, at(9, 5), 4, 2)
	cellIs(t, g, at(10, 5), 0, 2)
	cellIs(t, g, at(2, 13), 1, 1)
	cellIs(t, g, at(-1, -2), 4, 4)
	cellIs(t, g, at(-3, -10), 3, 0)
	cellIs(t, g, at(-11, 109), 4, 4)
}

// P15.1: where cells does not divide the side, the fraction is left out.
func TestCellUneven(t *testing.T) {
	g := bucket.New(10, 3)
	for x, column := range []int{0, 0, 0, 0, 1, 1, 1, 2, 2, 2} {
		cellIs(t, g, at(int64(x), 9), column, 2)
		cellIs(t, g, at(4, int64(x)), 1, column)
	}
}

// P15.1: a side below cells: some cells have no point at all.
func TestCellNarrow(t *testing.T) {
	g := bucket.New(3, 5)
	for x, column := range []int{0, 1, 3} {
		cellIs(t, g, at(int64(x), 0), column, 0)
		cellIs(t, g, at(0, int64(x)-3), 0, column)
	}
	g = bucket.New(1, 64)
	for _, p := range square(3) {
		cellIs(t, g, p, 0, 0)
	}
	g = bucket.New(63, 64)
	for x := range int64(63) {
		cellIs(t, g, at(x, 62-x), int(x*64/63), int((62-x)*64/63))
	}
}

// P15.1: the ends of what can be, and what is beyond.
func TestCellEnds(t *testing.T) {
	const end, side = 1 << 40, 1 << 34
	g := bucket.New(side, 64)
	cellIs(t, g, at(side-1, side-1), 63, 63)
	cellIs(t, g, at(side/64, side/64-1), 1, 0)
	cellIs(t, g, at(end, -end), 0, 0)
	cellIs(t, g, at(end-1, 1-end), 63, 0)
	g = bucket.New(side-1, 63)
	// 2^40 is 64 sides and 64 more: so many points from the first cell's beginning, or from the last one's end.
	cellIs(t, g, at(end, -end), 0, 62)
	cellIs(t, g, at(side-2, 0), 62, 0)
	g = bucket.New(7, 7)
	// 2^40 divided by 7 leaves 2.
	cellIs(t, g, at(end, -end), 2, 5)
	for _, p := range impossible() {
		cellIs(t, g, p, -1, -1)
	}
}

// P15.1: all points of some squares, and of the next ones, by the words.
func TestCellAll(t *testing.T) {
	for side := int64(1); side <= 12; side++ {
		for cells := 1; cells <= 14; cells++ {
			newPair(t, side, cells).hold(t, square(2*side)...)
		}
	}
}

// P15.2: one vertex twice in one cell: it is there twice, and goes twice.
func TestPutTwice(t *testing.T) {
	g := bucket.New(10, 5)
	g.Put(7, at(0, 0))
	nearIs(t, g, at(1, 1), 7, 1)
	g.Put(7, at(1, 0))
	nearIs(t, g, at(1, 1), 7, 2)
	g.Drop(7, at(0, 1))
	nearIs(t, g, at(1, 1), 7, 1)
	g.Drop(7, at(0, 0))
	nearIs(t, g, at(1, 1), -1, 0)
	g.Drop(7, at(0, 0))
	nearIs(t, g, at(1, 1), -1, 0)
	g.Put(7, at(0, 0))
	nearIs(t, g, at(1, 1), 7, 1)
}

// P15.2: of several, just the one that is told goes, first, in the middle and last.
func TestDropOne(t *testing.T) {
	for gone := range 5 {
		x := newPair(t, 10, 2)
		for _, v := range []int{3, 1, 4, 0, 2} {
			x.put(v, at(int64(v), 0))
		}
		x.drop(gone, at(4, 4))
		x.hold(t, at(0, 0))
		for v := range 5 {
			x.drop(v, at(0, 0))
			x.hold(t, at(0, 0), at(9, 9))
		}
	}
}

// P15.2: what is not there, or is in another cell, does not go.
func TestDropOther(t *testing.T) {
	g := bucket.New(10, 5)
	g.Drop(0, at(0, 0))
	nearIs(t, g, at(0, 0), -1, 0)
	g.Put(5, at(0, 0))
	g.Put(5, at(4, 0))
	g.Put(8, at(0, 0))
	for _, v := range []int{4, 6, 7, 9, 0, -1, -5, math.MaxInt, math.MinInt} {
		g.Drop(v, at(0, 0))
	}
	for _, p := range []api.Point{at(2, 0), at(0, 2), at(9, 9), at(0, -1)} {
		g.Drop(5, p)
		g.Drop(8, p)
	}
	g.Drop(8, at(4, 0))
	nearIs(t, g, at(0, 0), 5, 3)
	nearIs(t, g, at(4, 0), 5, 3)
	g.Drop(5, at(0, 0))
	nearIs(t, g, at(0, 0), 8, 2)
	nearIs(t, g, at(4, 0), 5, 2)
}

// P15.2: the cell counts, not the point: what was put at one point goes at another one of its cell, and by whole sides off.
func TestSameCell(t *testing.T) {
	g := bucket.New(10, 5)
	g.Put(1, at(-1, 22))
	nearIs(t, g, at(8, 3), 1, 1)
	g.Drop(1, at(18, -7))
	nearIs(t, g, at(8, 3), -1, 0)
}

// P15.2, P15.3: a point that can't be: nothing is put or goes, and nothing is near.
func TestImpossible(t *testing.T) {
	for _, cells := range []int{1, 5} {
		g := bucket.New(10, cells)
		for _, p := range impossible() {
			g.Put(3, p)
			nearIs(t, g, at(0, 0), -1, 0)
			nearIs(t, g, p, -1, 0)
		}
		g.Put(3, at(0, 0))
		for _, p := range impossible() {
			g.Drop(3, p)
			nearIs(t, g, at(0, 0), 3, 1)
			nearIs(t, g, p, -1, 1)
		}
	}
}

// P15.2, P15.3: any number may be a vertex, the least and the greatest among them.
func TestAnyNumber(t *testing.T) {
	g := bucket.New(10, 5)
	for i, v := range []int{math.MaxInt, 1 << 40, 0, -1, -7, math.MinInt} {
		g.Put(v, at(5, 5))
		nearIs(t, g, at(0, 0), v, i+1)
		nearIs(t, g, at(5, 5), v, i+1)
	}
	for i, v := range []int{math.MinInt, -7, -1, 0, 1 << 40, math.MaxInt} {
		nearIs(t, g, at(5, 5), v, 6-i)
		g.Drop(v, at(5, 5))
	}
	nearIs(t, g, at(5, 5), -1, 0)
}

// P15.3, P15.4: of p's own cell it is the least, whatever is put first, and whatever lies beside it.
func TestNearOwn(t *testing.T) {
	g := bucket.New(10, 5)
	for i, v := range []int{6, 8, 5, 7, 5} {
		g.Put(v, at(4, 4))
		g.Put(i, at(6, 4))
	}
	nearIs(t, g, at(5, 5), 5, 10)
	nearIs(t, g, at(6, 5), 0, 10)
	g.Drop(5, at(4, 4))
	nearIs(t, g, at(5, 5), 5, 9)
	g.Drop(5, at(4, 4))
	nearIs(t, g, at(5, 5), 6, 8)
}

// P15.3: whichever is more tells how far a cell is, columns or rows.
func TestNearWhicheverIsMore(t *testing.T) {
	for _, x := range []struct{ near, far spot }{
		{spot{2, 2}, spot{3, 0}},   // 2 both ways is nearer than 3 columns alone
		{spot{2, 2}, spot{0, 3}},   // or 3 rows
		{spot{-2, -2}, spot{3, 0}}, // also below
		{spot{2, -2}, spot{-3, 1}},
		{spot{3, 0}, spot{-4, 0}}, // more columns than rows
		{spot{3, 1}, spot{-1, -4}},
		{spot{0, 3}, spot{0, -4}}, // more rows than columns
		{spot{1, 3}, spot{-4, -1}},
		{spot{0, 1}, spot{-2, -2}},
		{spot{1, 1}, spot{-2, 0}},
	} {
		g := bucket.New(11, 11)
		p := at(5, 5)
		g.Put(1, at(5+int64(x.far.column), 5+int64(x.far.row)))
		nearIs(t, g, p, 1, 1)
		g.Put(2, at(5+int64(x.near.column), 5+int64(x.near.row)))
		nearIs(t, g, p, 2, 2)
	}
}

// P15.3: the order of all cells that lie one and two off, written out: each is told till it is gone.
func TestNearOrder(t *testing.T) {
	order := []spot{
		{0, 0},
		{-1, -1}, {-1, 0}, {-1, 1}, {0, -1}, {0, 1}, {1, -1}, {1, 0}, {1, 1},
		{-2, -2}, {-2, -1}, {-2, 0}, {-2, 1}, {-2, 2},
		{-1, -2}, {-1, 2}, {0, -2}, {0, 2}, {1, -2}, {1, 2},
		{2, -2}, {2, -1}, {2, 0}, {2, 1}, {2, 2},
	}
	// At 0 0 and 12 12 it goes about at the ends.
	for _, p := range []api.Point{at(6, 6), at(0, 0), at(12, 12), at(0, 12), at(12, 1), at(-14, 27)} {
		g := bucket.New(13, 13)
		for i, s := range order {
			// Numbers fall, so that the least is never the first one by chance.
			g.Put(100-i, at(p.X+int64(s.column), p.Y+int64(s.row)))
		}
		for i, s := range order {
			nearIs(t, g, p, 100-i, len(order)-i)
			g.Drop(100-i, at(p.X+int64(s.column), p.Y+int64(s.row)))
		}
		nearIs(t, g, p, -1, 0)
	}
}

// P15.3: of an even number of cells the farthest ones lie equally far both ways, and are come to from the left and from below first.
func TestNearEven(t *testing.T) {
	g := bucket.New(4, 4)
	g.Put(9, at(2, 3))
	g.Put(8, at(2, 2))
	g.Put(7, at(2, 0))
	g.Put(6, at(3, 2))
	// From 0 0 it is by columns -2, and in there rows -2, -1, 0: then column -1.
	nearIs(t, g, at(0, 0), 8, 4)
	g.Drop(8, at(2, 2))
	nearIs(t, g, at(0, 0), 9, 3)
	g.Drop(9, at(2, 3))
	nearIs(t, g, at(0, 0), 7, 2)
	g.Drop(7, at(2, 0))
	nearIs(t, g, at(0, 0), 6, 1)
}

// P15.3: one vertex alone is found from everywhere, wherever it is, at all numbers of cells up to some, and at the most.
func TestNearAlone(t *testing.T) {
	for cells := 1; cells <= 9; cells++ {
		x := newPair(t, int64(cells), cells)
		for _, p := range x.corners() {
			x.put(4, p)
			for _, q := range x.corners() {
				nearIs(t, x.g, q, 4, 1)
			}
			x.drop(4, p)
		}
	}
	g := bucket.New(64, 64)
	g.Put(4, at(17, 40))
	for i := range int64(64) {
		for k := range int64(64) {
			nearIs(t, g, at(i, k), 4, 1)
		}
	}
}

// P15.3: of two vertices, wherever they are, it is the one by the words.
func TestNearTwo(t *testing.T) {
	for _, cells := range []int{1, 2, 3, 4, 5, 6} {
		x := newPair(t, int64(2*cells+1), cells)
		corners := x.corners()
		for i, p := range corners {
			for k, q := range corners {
				x.put(2*i+1, p)
				x.put(2*k, q)
				x.hold(t, corners[0], corners[len(corners)/2], corners[len(corners)-1])
				x.drop(2*i+1, p)
				x.drop(2*k, q)
			}
		}
		x.hold(t, corners...)
	}
}

// P15.3: one cell alone holds all, and is come to from everywhere.
func TestOneCell(t *testing.T) {
	g := bucket.New(10, 1)
	for i := range int64(10) {
		cellIs(t, g, at(i, 9-i), 0, 0)
		g.Put(int(20-i), at(i, 9-i))
		nearIs(t, g, at(9-i, 5), int(20-i), int(i)+1)
	}
	g.Drop(11, at(0, 0))
	nearIs(t, g, at(3, 3), 12, 9)
}

// P15.4: if p's cell has a vertex, Near tells one of it; if there is any vertex, Near tells one.
func TestNearTellsOne(t *testing.T) {
	r := rand.New(rand.NewSource(15))
	for range 200 {
		x := newPair(t, 1+r.Int63n(200), 1+r.Intn(20))
		where := map[int]spot{}
		for v := range 1 + r.Intn(12) {
			p := at(r.Int63n(800)-400, r.Int63n(800)-400)
			x.put(v, p)
			where[v] = x.m.cell(p)
		}
		for range 50 {
			p := at(r.Int63n(800)-400, r.Int63n(800)-400)
			s, isThere := where[x.g.Near(p)]
			if !isThere {
				t.Fatal("tells none")
			}
			if own := x.m.cell(p); len(x.m.verts[own]) > 0 && s != own {
				t.Fatal("tells one of another cell")
			}
		}
	}
}

// What a grid tells does not hang on the order in which vertices were put, nor on those that are gone.
func TestNoHistory(t *testing.T) {
	r := rand.New(rand.NewSource(16))
	for range 50 {
		side, cells := 1+r.Int63n(60), 1+r.Intn(9)
		var points []api.Point
		for range 1 + r.Intn(30) {
			points = append(points, at(r.Int63n(side), r.Int63n(side)))
		}
		a, b := bucket.New(side, cells), bucket.New(side, cells)
		for v, p := range points {
			a.Put(v%20, p)
		}
		for _, v := range r.Perm(len(points)) {
			b.Put(-v, points[0])
			b.Put(v%20, points[v])
		}
		for v := range points {
			b.Drop(-v, points[0])
		}
		if a.Len() != b.Len() || a.Len() != len(points) {
			t.Fatal(a.Len(), b.Len())
		}
		for range 60 {
			p := at(r.Int63n(side), r.Int63n(side))
			if a.Near(p) != b.Near(p) {
				t.Fatal(p, a.Near(p), b.Near(p))
			}
		}
	}
}

// Two grids know nothing of one another.
func TestApart(t *testing.T) {
	a, b := bucket.New(10, 5), bucket.New(10, 5)
	a.Put(1, at(0, 0))
	nearIs(t, b, at(0, 0), -1, 0)
	b.Put(2, at(0, 0))
	b.Drop(1, at(0, 0))
	nearIs(t, a, at(0, 0), 1, 1)
	nearIs(t, b, at(0, 0), 2, 1)
}

// What tells changes nothing.
func TestTellingChangesNothing(t *testing.T) {
	x := newPair(t, 12, 4)
	x.put(3, at(1, 1))
	x.put(2, at(7, 7))
	for range 3 {
		x.hold(t, square(13)...)
	}
}

// A nil grid tells -1 and 0, and nothing is put there.
func TestNil(t *testing.T) {
	var g *bucket.Grid
	for _, p := range append(impossible(), at(0, 0), at(-5, 9)) {
		g.Put(1, p)
		g.Drop(1, p)
		cellIs(t, g, p, -1, -1)
		nearIs(t, g, p, -1, 0)
	}
}

// A grid that New did not make may tell anything, but every call ends.
func TestZeroGridEnds(t *testing.T) {
	g := &bucket.Grid{}
	for _, p := range append(impossible(), square(2)...) {
		g.Put(1, p)
		g.Cell(p)
		g.Near(p)
		g.Drop(1, p)
		g.Len()
	}
}

// Many vertices in one cell, put falling and rising, and taken away as they came.
func TestMany(t *testing.T) {
	const many = 3000
	g := bucket.New(1<<34, 64)
	for i := range many {
		g.Put(many-i, at(1, 1))
		nearIs(t, g, at(5, 5), many-i, 2*i+1)
		g.Put(i+1, at(1<<33, 1<<33))
		nearIs(t, g, at(1<<33, 1<<33), 1, 2*i+2)
	}
	for i := range many {
		nearIs(t, g, at(5, 5), 1, 2*(many-i))
		nearIs(t, g, at(1<<33, 1<<33), i+1, 2*(many-i))
		g.Drop(many-i, at(0, 0))
		g.Drop(i+1, at(1<<33, 1<<33))
	}
	nearIs(t, g, at(0, 0), -1, 0)
}

// All of it at random, by the words.
func TestRandom(t *testing.T) {
	r := rand.New(rand.NewSource(17))
	for round := range 300 {
		side := 1 + r.Int63n(40)
		reach := 3 * side
		switch round % 10 {
		case 8:
			side, reach = 1<<34-r.Int63n(5), 1<<40+1
		case 9:
			side, reach = 1+r.Int63n(1<<34), 1<<40+1
		}
		cells := 1 + r.Intn(12)
		if round%20 == 7 {
			cells = 60 + r.Intn(5)
		}
		x := newPair(t, side, cells)
		somewhere := func() api.Point {
			return at(r.Int63n(2*reach+1)-reach, r.Int63n(2*reach+1)-reach)
		}
		var points []api.Point
		for range 6 {
			points = append(points, somewhere())
		}
		for range 60 {
			p := points[r.Intn(len(points))]
			if v := r.Intn(7) - 3; r.Intn(5) < 2 {
				x.put(v, p)
			} else {
				x.drop(v, p)
			}
			x.hold(t, p, somewhere())
		}
	}
}

// FuzzAll reads a grid and what is done with it, and holds all that it tells against the words.
func FuzzAll(f *testing.F) {
	f.Add(int64(10), 5, []byte{0, 0, 4, 3, 1, 1, 9, 5, 5})
	f.Add(int64(1<<34), 64, []byte{200, 100, 7, 199, 100, 7, 201, 3, 7})
	f.Add(int64(3), 5, []byte{1, 2, 3, 1, 2, 3, 1, 2, 131})
	f.Add(int64(0), 65, []byte{1})
	f.Fuzz(func(t *testing.T, side int64, cells int, b []byte) {
		if side < 1 || side > 1<<34 || cells < 1 || cells > 64 {
			if bucket.New(side, cells) != nil {
				t.Fatal("a grid")
			}
			return
		}
		x := newPair(t, side, cells)
		// Steps of a quarter of a cell and one more come to all cells, and to their ends.
		step := side/int64(4*cells) + 1
		for ; len(b) >= 3 && x.m.many() < 40; b = b[3:] {
			p := at(step*int64(int8(b[0])), step*int64(int8(b[1])))
			if v := int(b[2] & 15); b[2] < 128 {
				x.put(v, p)
			} else {
				x.drop(v, p)
			}
			x.hold(t, p, at(p.Y, p.X), at(-p.X, p.Y+step))
		}
	})
}
