package bucket_test

import (
	"math"
	"testing"

	"zellige/api"
	"zellige/bucket"
)

// at is the point of these numbers.
func at(x, y int64) api.Point {
	return api.Point{X: x, Y: y}
}

// spot is a cell by its column and row.
type spot struct{ column, row int }

// nowhere is what Cell tells of a point that can't be.
var nowhere = spot{-1, -1}

// model is a grid by the chapter's words alone: which vertices are in which cell, in the order in which they were put.
type model struct {
	side  int64
	cells int
	verts map[spot][]int
}

func newModel(side int64, cells int) *model {
	return &model{side: side, cells: cells, verts: map[spot][]int{}}
}

// part looks through all columns for the last one that begins at or ahead of c, which is brought into the first square before.
func (m *model) part(c int64) int {
	place := c - m.side*int64(math.Floor(float64(c)/float64(m.side)))
	for place < 0 {
		place += m.side
	}
	for place >= m.side {
		place -= m.side
	}
	part := 0
	for k := 0; k < m.cells; k++ {
		if int64(k)*m.side <= place*int64(m.cells) {
			part = k
		}
	}
	return part
}

func (m *model) cell(p api.Point) spot {
	for _, c := range []int64{p.X, p.Y} {
		if c < -1099511627776 || c > 1099511627776 {
			return nowhere
		}
	}
	return spot{m.part(p.X), m.part(p.Y)}
}

func (m *model) put(v int, p api.Point) {
	if s := m.cell(p); s != nowhere {
		m.verts[s] = append(m.verts[s], v)
	}
}

func (m *model) drop(v int, p api.Point) {
	s := m.cell(p)
	for i, w := range m.verts[s] {
		if w == v {
			m.verts[s] = append(append([]int{}, m.verts[s][:i]...), m.verts[s][i+1:]...)
			return
		}
	}
}

func (m *model) many() int {
	n := 0
	for _, l := range m.verts {
		n += len(l)
	}
	return n
}

// least is the least vertex of a cell that is told anyhow, and whether it has any.
func (m *model) least(s spot) (int, bool) {
	for s.column < 0 {
		s.column += m.cells
	}
	for s.row < 0 {
		s.row += m.cells
	}
	l := m.verts[spot{s.column % m.cells, s.row % m.cells}]
	least := math.MaxInt
	for _, v := range l {
		if v < least {
			least = v
		}
	}
	return least, len(l) > 0
}

// near looks at every cell of a square, each far, and leaves out those that lie nearer.
func (m *model) near(p api.Point) int {
	s := m.cell(p)
	if s == nowhere {
		return -1
	}
	if v, any := m.least(s); any {
		return v
	}
	for far := 1; far <= m.cells; far++ {
		for i := -far; i <= far; i++ {
			for k := -far; k <= far; k++ {
				if i != -far && i != far && k != -far && k != far {
					continue
				}
				if v, any := m.least(spot{s.column + i, s.row + k}); any {
					return v
				}
			}
		}
	}
	return -1
}

// pair is a grid, and the model that is to tell the same.
type pair struct {
	g *bucket.Grid
	m *model
}

func newPair(t testing.TB, side int64, cells int) pair {
	t.Helper()
	g := bucket.New(side, cells)
	if g == nil {
		t.Fatalf("New(%d, %d): nil", side, cells)
	}
	return pair{g, newModel(side, cells)}
}

func (x pair) put(v int, p api.Point) {
	x.g.Put(v, p)
	x.m.put(v, p)
}

func (x pair) drop(v int, p api.Point) {
	x.g.Drop(v, p)
	x.m.drop(v, p)
}

// hold holds what the grid tells of these points against the model, and Len.
func (x pair) hold(t testing.TB, points ...api.Point) {
	t.Helper()
	if got, want := x.g.Len(), x.m.many(); got != want {
		t.Fatalf("side %d, cells %d: Len: %d, not %d", x.m.side, x.m.cells, got, want)
	}
	for _, p := range points {
		column, row := x.g.Cell(p)
		if got, want := (spot{column, row}), x.m.cell(p); got != want {
			t.Fatalf("side %d, cells %d: Cell(%v): %v, not %v", x.m.side, x.m.cells, p, got, want)
		}
		if got, want := x.g.Near(p), x.m.near(p); got != want {
			t.Fatalf("side %d, cells %d, %v: Near(%v): %d, not %d", x.m.side, x.m.cells, x.m.verts, p, got, want)
		}
	}
}

// corners is, of each cell of the grid, the point that it begins at.
func (x pair) corners() []api.Point {
	var points []api.Point
	n := int64(x.m.cells)
	for i := range n {
		for k := range n {
			points = append(points, at((i*x.m.side+n-1)/n, (k*x.m.side+n-1)/n))
		}
	}
	return points
}

// square is all points both of whose numbers are from -far to far.
func square(far int64) []api.Point {
	var points []api.Point
	for x := -far; x <= far; x++ {
		for y := -far; y <= far; y++ {
			points = append(points, at(x, y))
		}
	}
	return points
}

// impossible are points that can't be.
func impossible() []api.Point {
	const end = 1 << 40
	var points []api.Point
	for _, c := range []int64{end + 1, -end - 1, math.MaxInt64, math.MinInt64} {
		points = append(points, at(c, 0), at(0, c), at(c, c), at(c, end), at(-end, c))
	}
	return points
}
