package walk_test

import (
	"math"
	"math/rand"
	"testing"

	"zellige/api"
	"zellige/mesh"
)

// strange are numbers that no mesh of these tests ever lends.
func strange() []int {
	return []int{-1, -2, -3, math.MinInt32, math.MinInt, math.MinInt + 1, 1 << 20, math.MaxInt32, 1 << 32, math.MaxInt - 1, math.MaxInt}
}

// fuels are none, few, just Fuel, and beyond both ends.
func fuels() []int {
	return []int{0, 1, 2, 3, 5, 1000, 1001, math.MaxInt, -1, -1000, math.MinInt}
}

// The chapter's example: of one vertex and two faces, of side 10, 2 3 lies in the first one, 8 9 in the second one.
func TestExample(t *testing.T) {
	m := one(t, 10)
	for _, fuel := range fuels() {
		is(t, m, 0, at(2, 3), fuel, answer{0, off(0, 0), 0, true})
		is(t, m, 1, at(8, 9), fuel, answer{1, off(0, 0), 0, true})
		come := 1
		if fuel <= 0 {
			come = 0
		}
		is(t, m, 1, at(2, 3), fuel, answer{0, off(0, 0), come, true})
		is(t, m, 0, at(8, 9), fuel, answer{1, off(0, 0), come, true})
	}
}

// P16.1, P16.2: a face that holds q at once is found, with none come to, whatever the fuel; within, on an edge and on a corner, though faces with lesser numbers hold it, too.
func TestAtOnce(t *testing.T) {
	m := grid(t, 3, 4)
	for f := range 18 {
		for _, q := range square(12) {
			c, _ := cornersOf(m.Dump(), hit(f, 0, 0))
			if !holds(c, q) {
				continue
			}
			for _, fuel := range fuels() {
				is(t, m, f, q, fuel, answer{f, off(0, 0), 0, true})
			}
		}
	}
	// Of the six faces about one vertex each is found from itself, and the one with the least number by looking at all.
	for _, f := range []int{1, 2, 3, 6, 7, 8} {
		is(t, m, f, at(5, 5), 0, answer{f, off(0, 0), 0, true})
	}
	is(t, m, 17, at(5, 5), 0, answer{1, off(0, 0), 0, true})
}

// P16.1: from a face that is not there one goes from the one with the least number, whichever that is, and not from another one.
func TestNoSuchFace(t *testing.T) {
	m := grid(t, 3, 4)
	for dropped := range 17 {
		for _, f := range append(strange(), 18, 19) {
			for _, fuel := range []int{0, 1, 50} {
				for _, q := range []api.Point{at(2, 2), at(10, 10), at(6, 7), at(11, 3), at(5, 5)} {
					if got, want := hold(t, m, f, q, fuel), find(m, dropped, q, fuel); got != want {
						t.Fatalf("from %d: %v, from %d: %v", f, got, dropped, want)
					}
				}
			}
		}
		// It is gone, and so one goes from the next one.
		m.DropFace(dropped)
		if got, want := hold(t, m, dropped, at(10, 10), 50), find(m, dropped+1, at(10, 10), 50); got != want {
			t.Fatal(dropped, got, want)
		}
	}
	// A number that was lent again is the least one, too, though its face was put last.
	if f, _ := m.AddFace(flat(4, 7, 5)); f != 16 {
		t.Fatal(f)
	}
	is(t, m, -1, at(6, 6), 0, answer{16, off(0, 0), 0, true})
	is(t, m, 0, at(0, 0), 9, answer{17, off(-1, -1), 0, true})
}

// P16.1: where q lies outside across from several corners, it is the first one, from the first corner on, that one goes across from.
func TestFirstCorner(t *testing.T) {
	a, b, c, d, e, f := at(40, 40), at(60, 40), at(50, 60), at(80, 70), at(30, 120), at(20, 70)
	q := at(50, 90)
	// From the face a, b, c one comes across from a to one from which there is a way on, and across from b to one from which there is none.
	for _, x := range []struct {
		first       [3]api.Point
		come, other int
	}{
		{[3]api.Point{a, b, c}, 2, 1}, {[3]api.Point{b, c, a}, 1, 2}, {[3]api.Point{c, a, b}, 2, 1},
	} {
		m := laid(t, 200, x.first, [3]api.Point{b, d, c}, [3]api.Point{a, c, f}, [3]api.Point{c, d, e})
		is(t, m, 0, q, 9, answer{3, off(0, 0), x.come, true})
		is(t, m, 0, q, 1, answer{3, off(0, 0), 1, true})
		is(t, m, 0, q, 0, answer{3, off(0, 0), 0, true})
		// Here it is the other one from which there is a way on.
		m = laid(t, 200, x.first, [3]api.Point{b, d, c}, [3]api.Point{a, c, f}, [3]api.Point{c, e, f})
		is(t, m, 0, at(42, 80), 9, answer{3, off(0, 0), x.other, true})
	}
}

// P16.1: in line with an edge is not outside: q on the line of an edge, ahead of its face, is come to across from another corner.
func TestInLine(t *testing.T) {
	m := laid(t, 100, [3]api.Point{at(10, 10), at(20, 10), at(10, 20)}, [3]api.Point{at(20, 10), at(20, 20), at(10, 20)}, [3]api.Point{at(20, 10), at(30, 10), at(20, 20)}, [3]api.Point{at(10, 10), at(20, 0), at(20, 10)})
	// 25 10 lies in line with the lower edge, across from the third corner.
	is(t, m, 0, at(25, 10), 9, answer{2, off(0, 0), 2, true})
	is(t, m, 0, at(15, 10), 9, answer{0, off(0, 0), 0, true})
	is(t, m, 3, at(15, 10), 9, answer{3, off(0, 0), 0, true})
	is(t, m, 0, at(19, 9), 9, answer{3, off(0, 0), 1, true})
	is(t, m, 2, at(20, 5), 9, answer{3, off(0, 0), 0, true})
}

// P16.1: q on an edge and on a vertex: the face that one comes to first is found by going, the one with the least number by looking.
func TestOnEdgeAndVertex(t *testing.T) {
	m := grid(t, 3, 4)
	// 5 7 lies on the edge between the square of 2 and 3 and that of 8 and 9; from the right one comes to 8 first, from the left to 3.
	is(t, m, 14, at(5, 7), 9, answer{8, off(0, 0), 2, true})
	is(t, m, 2, at(5, 7), 9, answer{3, off(0, 0), 1, true})
	is(t, m, 14, at(5, 7), 0, answer{3, off(0, 0), 0, true})
	is(t, m, 14, at(5, 7), 1, answer{3, off(0, 0), 1, true})
	is(t, m, 14, at(5, 7), 2, answer{8, off(0, 0), 2, true})
	// A vertex, by looking at all: the upper half of the square to its left below.
	is(t, m, 17, at(9, 9), 0, answer{9, off(0, 0), 0, true})
	is(t, m, 0, at(9, 9), 0, answer{9, off(0, 0), 0, true})
	for f := range 18 {
		for _, v := range m.Dump().Verts {
			for _, fuel := range []int{0, 1, 2, 3, 9} {
				if got := hold(t, m, f, v.At, fuel); !got.ok {
					t.Fatal(f, v)
				}
			}
		}
	}
}

// P16.1: moved by every x, and then y: of the one vertex's first face, it is found moved to the left, and not down.
func TestLookOrder(t *testing.T) {
	for _, side := range []int64{1, 2, 10, 1 << 34} {
		m := one(t, side)
		is(t, m, 1, at(0, 0), 0, answer{0, off(-1, 0), 0, true})
		is(t, m, 1, at(side, 2*side), 0, answer{0, off(0, 2), 0, true})
		is(t, m, 0, at(0, 0), 0, answer{0, off(0, 0), 0, true})
		is(t, m, 0, at(side, 2*side), 0, answer{0, off(1, 2), 0, true})
	}
	// A square of two by two sides lies over all places four times: the farthest to the left, and there the lowest.
	for _, x := range []struct {
		right, up int
		want      api.Off
	}{
		{1, 1, off(-1, 0)}, {2, 2, off(-2, 0)}, {3, 3, off(-3, 0)}, {4, 4, off(-3, -1)}, {6, 6, off(-3, -3)}, {2, 1, off(-2, 0)}, {1, 3, off(-1, 0)}, {1, 2, off(-1, 0)}, {40, 40, off(-3, -3)},
	} {
		m := strip(t, 10, x.right, x.up)
		is(t, m, 1, at(0, 0), 0, answer{0, x.want, 0, true})
	}
	// The face is moved so that its first corner lies in the first square ahead of that, wherever it was put, from whichever corner on it is told.
	for i, want := range []api.Off{off(-1, 0), off(-1, 0), off(-1, 0)} {
		for _, by := range []api.Off{off(0, 0), off(5, -7), off(-3, 4), off(1000, 1000)} {
			lower, upper := tri(0, 0, 0, off(0, 0), off(1, 0), off(0, 1)), tri(0, 0, 0, off(1, 0), off(1, 1), off(0, 1))
			m := build(t, 10, []api.Point{at(0, 0)}, moved(from(lower, i), by), moved(upper, off(7, 7)))
			is(t, m, 1, at(0, 0), 0, answer{0, minus(want, by), 0, true})
		}
	}
}

// P16.1: all faces are looked at by their numbers, and not as they were put.
func TestLookNumbers(t *testing.T) {
	verts := []api.Point{at(10, 10), at(50, 10), at(10, 50), at(80, 80), at(90, 80), at(80, 90), at(12, 12), at(52, 12), at(12, 52)}
	m := build(t, 100, verts, flat(0, 1, 2), flat(3, 4, 5), flat(6, 7, 8))
	p := at(20, 21)
	is(t, m, 1, p, 0, answer{0, off(0, 0), 0, true})
	is(t, m, 2, p, 0, answer{2, off(0, 0), 0, true})
	m.DropFace(0)
	is(t, m, 1, p, 0, answer{2, off(0, 0), 0, true})
	is(t, m, 0, p, 0, answer{2, off(0, 0), 0, true})
	if f, _ := m.AddFace(flat(0, 1, 2)); f != 0 {
		t.Fatal(f)
	}
	is(t, m, 1, p, 0, answer{0, off(0, 0), 0, true})
	is(t, m, 1, at(51, 12), 0, answer{2, off(0, 0), 0, true})
}

// P16.1: a face is moved by -3 to 3 sides both ways, from where its first corner lies in the first square, and no farther.
func TestLookReach(t *testing.T) {
	const side = 100000000
	q := at(70000000, 63000000)
	// needle is a thin face from one point on, just about q moved by so many sides.
	needle := func(x, y int64) [3]api.Point {
		a := at(50000000, 50000000)
		to := at(q.X+x*side-a.X, q.Y+y*side-a.Y)
		tip := at(a.X+to.X+to.X/50, a.Y+to.Y+to.Y/50)
		return [3]api.Point{a, at(tip.X+to.Y/20000, tip.Y-to.X/20000), at(tip.X-to.Y/20000, tip.Y+to.X/20000)}
	}
	found := 0
	for x := int64(-5); x <= 5; x++ {
		for y := int64(-5); y <= 5; y++ {
			m := laid(t, side, needle(x, y))
			got := hold(t, m, 0, q, 9)
			near := -3 <= x && x <= 3 && -3 <= y && y <= 3
			if near && got != (answer{0, off(int(-x), int(-y)), 0, true}) || !near && got != none {
				t.Fatal(x, y, got)
			}
			// Put elsewhere it is the same, as the first corner is brought home before; told from the tip on, it is the tip.
			u, _ := m.Face(0)
			for i := range 3 {
				for _, by := range []api.Off{off(0, 0), off(-3, -3), off(3, 3), off(-900, 1000)} {
					n := build(t, side, []api.Point{m.Dump().Verts[0].At, m.Dump().Verts[1].At, m.Dump().Verts[2].At}, moved(from(u, i), by))
					got := hold(t, n, 0, q, 9)
					if i == 0 && got.ok != near {
						t.Fatal(x, y, by, got)
					}
					if got.ok {
						found++
					}
				}
			}
		}
	}
	if found < 500 {
		t.Fatal("found but", found)
	}
}

// P16.1, P16.2: in a row of tall faces one comes to one face after the other: at most as many as there is fuel, and never more than Fuel; behind that all are looked at.
func TestFuel(t *testing.T) {
	const columns, gap = 520, 4
	m, lower, upper := row(t, columns, gap)
	if m.Check() != api.OK || m.Side() != columns*gap {
		t.Fatal("no mesh")
	}
	// On the diagonal of a column one comes to its lower half first, and by looking at all to its upper half, whose number is less.
	diagonal := func(column int) api.Point { return at(int64(column)*gap+1, columns*gap-columns) }
	// On the edge ahead of a column one comes to the upper half of the one ahead first, and by looking at all to its lower half.
	edge := func(column int) api.Point { return at(int64(column)*gap, 77) }
	for _, x := range []struct {
		p    api.Point
		fuel int
		want answer
	}{
		{diagonal(0), 0, answer{lower(0), off(0, 0), 0, true}},
		{edge(1), 0, answer{lower(1), off(0, 0), 0, true}},
		{edge(1), -1, answer{lower(1), off(0, 0), 0, true}},
		{edge(1), math.MinInt, answer{lower(1), off(0, 0), 0, true}},
		{edge(1), 1, answer{upper(0), off(0, 0), 1, true}},
		{diagonal(1), 0, answer{upper(1), off(0, 0), 0, true}},
		{diagonal(1), 1, answer{upper(1), off(0, 0), 1, true}},
		{diagonal(1), 2, answer{lower(1), off(0, 0), 2, true}},
		{diagonal(1), 3, answer{lower(1), off(0, 0), 2, true}},
		{diagonal(9), 17, answer{upper(9), off(0, 0), 17, true}},
		{diagonal(9), 18, answer{lower(9), off(0, 0), 18, true}},
		{edge(500), 998, answer{lower(500), off(0, 0), 998, true}},
		{edge(500), 999, answer{upper(499), off(0, 0), 999, true}},
		{diagonal(500), 999, answer{upper(500), off(0, 0), 999, true}},
		{diagonal(500), 1000, answer{lower(500), off(0, 0), 1000, true}},
		{diagonal(500), 1001, answer{lower(500), off(0, 0), 1000, true}},
		{diagonal(500), math.MaxInt, answer{lower(500), off(0, 0), 1000, true}},
		{edge(501), 1000, answer{lower(501), off(0, 0), 1000, true}},
		{edge(501), 1001, answer{lower(501), off(0, 0), 1000, true}},
		{edge(501), 5000, answer{lower(501), off(0, 0), 1000, true}},
		{edge(501), math.MaxInt, answer{lower(501), off(0, 0), 1000, true}},
		{diagonal(510), math.MaxInt, answer{upper(510), off(0, 0), 1000, true}},
	} {
		is(t, m, lower(0), x.p, x.fuel, x.want)
		is(t, m, lower(0), at(x.p.X-3*columns*gap, x.p.Y+2*columns*gap), x.fuel, answer{x.want.face, off(-3, 2), x.want.come, true})
	}
}

// P16.1: a face with no face across on the way: all are looked at, and those that were come to ahead of it count.
func TestOpen(t *testing.T) {
	const columns, gap = 20, 4
	for column := 1; column < 15; column++ {
		for _, half := range []int{0, 1} {
			m, lower, upper := row(t, columns, gap)
			gone, come := lower(column), 2*column-1
			if half == 1 {
				gone, come = upper(column), 2*column
			}
			m.DropFace(gone)
			// Behind the gap, on a diagonal, where looking at all tells the other half than going.
			is(t, m, lower(0), at(15*gap+1, columns*gap-columns), 1000, answer{upper(15), off(0, 0), come, true})
			is(t, m, lower(0), at(15*gap+1, columns*gap-columns), come, answer{upper(15), off(0, 0), come, true})
			is(t, m, lower(0), at(15*gap+1, columns*gap-columns), come-1, answer{upper(15), off(0, 0), come - 1, true})
			// In the gap: none is found, and nothing is told of the way.
			is(t, m, lower(0), at(int64(column)*gap+1+2*int64(half), columns*gap/2), 1000, none)
			is(t, m, lower(0), at(int64(column)*gap+1+2*int64(half), columns*gap/2), 0, none)
		}
	}
}

// P16.2: a mesh in which none is found: -1, 0 0, 0 and false, though p lies off and faces were come to.
func TestNone(t *testing.T) {
	m := laid(t, 100, [3]api.Point{at(10, 10), at(20, 10), at(10, 20)}, [3]api.Point{at(20, 10), at(20, 20), at(10, 20)})
	for _, p := range []api.Point{at(50, 50), at(0, 0), at(21, 15), at(-150, 250), at(9, 9), at(10, 21), at(21, 20)} {
		for f := -1; f < 3; f++ {
			for _, fuel := range fuels() {
				is(t, m, f, p, fuel, none)
			}
		}
	}
}

// P16.2: p is moved by other sides than q: the face is moved so that p lies in it, on all sides of the first square and far out.
func TestMoved(t *testing.T) {
	for _, side := range []int64{12, 3 << 20, 3 << 32} {
		m := grid(t, 3, side/3)
		most := int(end / side)
		for _, by := range []api.Off{off(0, 0), off(1, 0), off(0, 1), off(-1, 0), off(0, -1), off(-1, 1), off(5, -8), off(most-1, most-1), off(-most, -most), off(-most, most-1), off(0, -most)} {
			for _, q := range []api.Point{at(side/6, side/6), at(0, side/6), at(side/6, 0), at(0, 0), at(1, 1), at(side-1, side-1), at(side/2, side-2)} {
				p := at(q.X+int64(by.X)*side, q.Y+int64(by.Y)*side)
				if !can(p) {
					t.Fatal(p)
				}
				for _, f := range []int{0, 7, 17} {
					for _, fuel := range []int{0, 2, 50} {
						home := hold(t, m, f, q, fuel)
						is(t, m, f, p, fuel, answer{home.face, plus(home.by, by), home.come, true})
					}
				}
			}
		}
	}
	m := grid(t, 3, 4)
	is(t, m, 0, at(2, 2), 9, answer{0, off(0, 0), 0, true})
	is(t, m, 0, at(-10, -22), 9, answer{0, off(-1, -2), 0, true})
	is(t, m, 0, at(0, 2), 0, answer{12, off(-1, 0), 0, true})
	is(t, m, 0, at(-12, 2), 0, answer{12, off(-2, 0), 0, true})
	is(t, m, 0, at(12, -1), 0, answer{17, off(0, -1), 0, true})
}

// P16.2, P16.3: faces that were put off their square: one goes from where the face was put, not moved, and the answer is by how much it is moved from there.
func TestPutOff(t *testing.T) {
	lower, upper := tri(0, 0, 0, off(0, 0), off(1, 0), off(0, 1)), tri(0, 0, 0, off(1, 0), off(1, 1), off(0, 1))
	m := build(t, 10, []api.Point{at(0, 0)}, moved(lower, off(3, 0)), moved(upper, off(0, -2)))
	// From 30 0 to the first square: three lower halves to the left, and two or three upper ones.
	is(t, m, 0, at(2, 3), 50, answer{0, off(-3, 0), 6, true})
	is(t, m, 0, at(8, 9), 50, answer{1, off(0, 2), 5, true})
	is(t, m, 1, at(2, 3), 50, answer{0, off(-3, 0), 3, true})
	is(t, m, 1, at(8, 9), 50, answer{1, off(0, 2), 4, true})
	is(t, m, 0, at(2, 3), 5, answer{0, off(-3, 0), 5, true})
	is(t, m, 0, at(2, 3), 0, answer{0, off(-3, 0), 0, true})
	is(t, m, 0, at(32, 3), 50, answer{0, off(0, 0), 6, true})
	is(t, m, 0, at(22, -7), 0, answer{0, off(-1, -1), 0, true})
}

// P16.2: p that can't be, by either number, both ways.
func TestCant(t *testing.T) {
	for _, m := range []*mesh.Mesh{one(t, 1), one(t, 10), grid(t, 3, 4), one(t, 1<<34)} {
		for _, p := range []api.Point{at(end+1, 0), at(0, end+1), at(-end-1, 0), at(0, -end-1), at(end+1, end+1), at(end, end+1), at(math.MaxInt64, 0), at(math.MinInt64, math.MinInt64), at(0, math.MinInt64), at(5, math.MaxInt64)} {
			for _, fuel := range []int{0, 1, 1000} {
				is(t, m, 0, p, fuel, none)
				is(t, m, -1, p, fuel, none)
			}
		}
		for _, p := range []api.Point{at(end, 0), at(0, end), at(-end, 0), at(0, -end), at(end, end), at(-end, end), at(end, -end), at(-end, -end)} {
			for _, fuel := range []int{0, 1, 1000} {
				if got := hold(t, m, 0, p, fuel); !got.ok {
					t.Fatal(p, fuel)
				}
			}
		}
	}
}

// P16.2: a nil mesh, a mesh without faces, with and without vertices, and one all of whose faces are gone.
func TestNoMesh(t *testing.T) {
	bare := build(t, 10, []api.Point{at(0, 0), at(5, 5), at(2, 7)})
	gone := one(t, 10)
	gone.DropFace(0)
	gone.DropFace(1)
	for _, m := range []*mesh.Mesh{nil, mesh.New(1), mesh.New(5), mesh.New(1 << 34), bare, gone} {
		for _, f := range append(strange(), 0, 1) {
			for _, fuel := range fuels() {
				for _, p := range []api.Point{at(0, 0), at(5, 5), at(-3, 12), at(end, end), at(end+1, 0)} {
					is(t, m, f, p, fuel, none)
				}
			}
		}
	}
}

// P16.2, P16.3: a face across that has a corner that can't be where it is moved to is come to, and takes its fuel, but is not found: all are looked at.
func TestComeToTooFar(t *testing.T) {
	m := build(t, 1, []api.Point{at(0, 0)},
		tri(0, 0, 0, off(1, -2), off(2, -1), off(1, -1)), tri(0, 0, 0, off(0, 0), off(1, 0), off(end, 1)))
	if f, i, by, ok := m.Across(0, 0); f != 1 || i != 2 || by != off(1, -1) || !ok {
		t.Fatal(f, i, by, ok)
	}
	for _, fuel := range fuels() {
		is(t, m, 0, at(0, 0), fuel, answer{0, off(-2, 1), min(max(fuel, 0), 1), true})
		is(t, m, 0, at(-7, 9), fuel, answer{0, off(-9, 10), min(max(fuel, 0), 1), true})
	}
	is(t, m, 0, at(0, 0), 1, answer{0, off(-2, 1), 1, true})
	is(t, m, 0, at(0, 0), 40, answer{0, off(-2, 1), 1, true})
}

// P16.3, P16.4: far out a face may come on the way that can't be moved so far: it is come to, but p does not lie in it.
func TestTooFarOnTheWay(t *testing.T) {
	const side = 1 << 34
	a, b, top := at(63*side, 10*side), at(63*side+side/2, 10*side), at(63*side, 11*side)
	first := [3]api.Point{top, a, b}
	q := at(side/2, side/3)
	home := [3]api.Point{at(0, 1), at(side-1, 5), at(side/2, side-1)}
	back := func(p api.Point) api.Point { return at(p.X-2*side, p.Y) }
	for _, low := range []api.Point{at(64*side, 9*side), at(64*side+1, 9*side), at(64*side+side/4, 9*side), at(66*side-1, 9*side)} {
		// The face below is put two sides to the left of where it comes on the way.
		below := [3]api.Point{back(b), back(a), back(low)}
		m := laid(t, side, first, below, home)
		is(t, m, 0, q, 1000, answer{2, off(0, 0), 1, true})
		is(t, m, 0, q, 1, answer{2, off(0, 0), 1, true})
		is(t, m, 0, q, 0, answer{2, off(0, 0), 0, true})
		is(t, laid(t, side, first, below), 0, q, 1000, none)
	}
}

// leading is a mesh of the side 10000, which holds 500 10 (or 10 500, if it is flipped) in its face 0, and has a strip of so many faces, from the one with the greatest number on, that lead to the face 1, put three sides off, whose far corner comes at x on the way.
func leading(t *testing.T, many int, x int64, flipped bool) *mesh.Mesh {
	t.Helper()
	const side = 10000
	knot := func(k int) api.Point { return at(side+4*int64(k), 5+10*int64(k%2)) }
	wide := [3]api.Point{at(x+3*side, 10), at(4*side, 5), at(4*side+4, 15)}
	faces := [][3]api.Point{{at(100, 1), at(900, 1), at(500, 900)}, wide}
	for k := range many {
		// Each second one stands on its head.
		up := k % 2
		faces = append(faces, [3]api.Point{knot(k), knot(k + 2 - up), knot(k + 1 + up)})
	}
	for i, c := range faces {
		if flipped {
			faces[i] = [3]api.Point{at(c[0].Y, c[0].X), at(c[2].Y, c[2].X), at(c[1].Y, c[1].X)}
		}
	}
	return laid(t, side, faces...)
}

// P16.2: of several faces ahead of one that can't be moved so far all are counted, and that one, too, as far as the fuel goes; one that just can be is found.
func TestManyAheadOfTooFar(t *testing.T) {
	for _, many := range []int{1, 2, 3, 8, 9, 999, 1000, 1001} {
		for _, flipped := range []bool{false, true} {
			can, cant := leading(t, many, -end, flipped), leading(t, many, -end-1, flipped)
			p, left := at(500, 10), off(-3, 0)
			if flipped {
				p, left = at(10, 500), off(0, -3)
			}
			for _, fuel := range []int{-1, 0, 1, 2, 3, many - 1, many, many + 1, 5000} {
				come := min(max(fuel, 0), many, 1000)
				is(t, cant, many+1, p, fuel, answer{0, off(0, 0), come, true})
				if come == many {
					is(t, can, many+1, p, fuel, answer{1, left, many, true})
				} else {
					is(t, can, many+1, p, fuel, answer{0, off(0, 0), come, true})
				}
			}
		}
	}
}

// tooFar puts a face across from an edge of the mesh, the third corner of which just can't be where it comes, or just can, and moves it so that it can be put.
func tooFar(m *mesh.Mesh, r *rand.Rand) {
	faces, side := m.Dump().Faces, m.Side()
	u := from(faces[r.Intn(len(faces))].Tri, r.Intn(3))
	ends := int(end/side) + 1 - r.Intn(2)
	out := []api.Off{off(ends, r.Intn(5)-2), off(-ends, r.Intn(5)-2), off(r.Intn(5)-2, ends), off(r.Intn(5)-2, -ends)}[r.Intn(4)]
	by := off(r.Intn(7)-3, r.Intn(7)-3)
	m.AddFace(moved(tri(u.V[1], u.V[0], r.Intn(len(m.Dump().Verts)), u.Off[1], u.Off[0], out), by))
}

// P16.1 to P16.3: faces that were put anyhow, some of them as far out as can be and farther: all by the words, with any fuel.
func TestAnyhowFar(t *testing.T) {
	ended := 0
	for seed := range int64(600) {
		r := rand.New(rand.NewSource(seed))
		m := anyhow(r)
		if len(m.Dump().Faces) == 0 {
			continue
		}
		for range 10 + r.Intn(20) {
			tooFar(m, r)
		}
		d := m.Dump()
		for range 12 {
			f, q := d.Faces[r.Intn(len(d.Faces))].No, at(r.Int63n(d.Side), r.Int63n(d.Side))
			way, ok := slowWalk(d, f, q, 20)
			if _, all := cornersOf(d, way[len(way)-1]); !all && !ok {
				ended++
			}
			for fuel := range len(way) + 1 {
				hold(t, m, f, q, fuel)
			}
			hold(t, m, f, at(q.X-4*d.Side, q.Y+5*d.Side), 1000)
		}
	}
	if ended < 200 {
		t.Fatal("ended so but", ended)
	}
}

// P16.1: faces as wide as all that can be: where their first corner lies in the first square others can't be, and so q is not looked for there, but where it still can be.
func TestTooFarToLook(t *testing.T) {
	const side = 1 << 34
	wide := [3]api.Point{at(-end, -end), at(end, -end), at(-end+5, end)}
	for i := range 3 {
		m := laid(t, side, [3]api.Point{wide[i], wide[(i+1)%3], wide[(i+2)%3]})
		is(t, m, 0, at(5, 5), 1000, none)
		// Where it was put it can be, and holds 0 0 at once.
		is(t, m, 0, at(-end, -end), 1000, answer{0, off(-64, -64), 0, true})
	}
	// Half as wide it can be moved by some sides, and by others not.
	half := [3]api.Point{at(-62*side, 0), at(side, 0), at(-62*side, 3*side)}
	for i := range 3 {
		m := laid(t, side, [3]api.Point{half[i], half[(i+1)%3], half[(i+2)%3]})
		for _, p := range []api.Point{at(5, 5), at(side/2, side-1), at(side-1, side-1), at(0, 0)} {
			for _, fuel := range []int{0, 9} {
				hold(t, m, 0, p, fuel)
				hold(t, m, 0, at(p.X-9*side, p.Y+side), fuel)
			}
		}
	}
}

// P16.3, P16.4: in Delaunay meshes of several vertices, each point of the first square, from each face, with fuel and without.
func TestDelaunayEachPoint(t *testing.T) {
	for seed := range int64(60) {
		r := rand.New(rand.NewSource(seed))
		side := 1 + seed%12
		m := delaunay(t, side, someSites(r, side, 1+r.Intn(12)), r, 2)
		faces := len(m.Dump().Faces)
		for _, p := range square(side) {
			for _, fuel := range []int{0, 1, 3, 1000} {
				if got := hold(t, m, r.Intn(faces+1), p, fuel); !got.ok {
					t.Fatal(p, fuel)
				}
			}
		}
	}
}

// P16.4: from every face, and with every fuel up to where it is found.
func TestDelaunayEachFace(t *testing.T) {
	for seed := range int64(12) {
		r := rand.New(rand.NewSource(seed))
		side := 3 + seed
		m := delaunay(t, side, someSites(r, side, 4+r.Intn(5)), r, 1)
		for f := range m.Dump().Faces {
			for range 4 {
				p := at(r.Int63n(5*side)-2*side, r.Int63n(5*side)-2*side)
				most := hold(t, m, f, p, 1000)
				if !most.ok {
					t.Fatal(p)
				}
				for fuel := range most.come + 2 {
					got := hold(t, m, f, p, fuel)
					if !got.ok || got.come != min(fuel, most.come) || fuel >= most.come && got != most {
						t.Fatal(f, p, fuel, got, most)
					}
				}
			}
		}
	}
}

// P16.4: nine of each of few sites, as they stand where circles are great.
func TestDelaunayNine(t *testing.T) {
	for seed := range int64(20) {
		r := rand.New(rand.NewSource(seed))
		side := []int64{1, 2, 3, 5}[seed%4]
		m := delaunay(t, 3*side, nine(side, someSites(r, side, 1+r.Intn(3))), r, 1)
		for _, p := range square(3 * side) {
			for _, fuel := range []int{0, 2, 1000} {
				if got := hold(t, m, r.Intn(20), p, fuel); !got.ok {
					t.Fatal(p, fuel)
				}
			}
		}
	}
}

// P16.4: great sides, and faces that were put as far out as can be.
func TestDelaunayFar(t *testing.T) {
	for seed := range int64(60) {
		r := rand.New(rand.NewSource(seed))
		side := []int64{1, 7, 1000, 1 << 30, 1<<34 - 1, 1 << 34}[seed%6]
		reach := 2
		if seed%4 > 1 {
			reach = int(end/side) - 4
		}
		m := delaunay(t, side, someSites(r, side, 1+r.Intn(12)), r, reach)
		for range 40 {
			p := at(r.Int63n(2*end+1)-end, r.Int63n(2*end+1)-end)
			if r.Intn(2) == 0 {
				p = at(r.Int63n(side), r.Int63n(side))
			}
			for _, fuel := range []int{0, 4, 1000} {
				if got := hold(t, m, r.Intn(24), p, fuel); !got.ok {
					t.Fatal(p, fuel)
				}
			}
		}
	}
}

// P16.4: sites on lines, lattices and circles, where many faces hold one point.
func TestDelaunayTies(t *testing.T) {
	var line, slope, lattice []api.Point
	for i := range int64(4) {
		line = append(line, at(3*i, 5))
		slope = append(slope, at(3*i, 3*i))
		lattice = append(lattice, at(0, 3*i), at(6, 3*i))
	}
	round := []api.Point{at(11, 6), at(10, 9), at(9, 10), at(6, 11), at(3, 10), at(2, 9), at(1, 6), at(2, 3), at(3, 2), at(6, 1), at(9, 2), at(10, 3)}
	for i, sites := range [][]api.Point{line, slope, lattice, round, {at(0, 0)}, {at(11, 11)}, {at(0, 0), at(6, 6)}, {at(0, 0), at(1, 0)}} {
		m := delaunay(t, 12, sites, rand.New(rand.NewSource(int64(i))), 1)
		for n, p := range square(12) {
			for _, fuel := range []int{0, 1, 1000} {
				if got := hold(t, m, n%(2*len(sites)), p, fuel); !got.ok {
					t.Fatal(p, fuel)
				}
			}
		}
	}
}

// P16.1, P16.3: closed meshes that are no Delaunay meshes, whose faces are thin.
func TestScrambled(t *testing.T) {
	for seed := range int64(40) {
		r := rand.New(rand.NewSource(seed))
		m := scrambled(t, r, 1+r.Intn(3), 10)
		for range 40 {
			p := at(r.Int63n(3*m.Side())-m.Side(), r.Int63n(3*m.Side())-m.Side())
			if r.Intn(3) == 0 {
				verts := m.Dump().Verts
				p = verts[r.Intn(len(verts))].At
			}
			faces := m.Dump().Faces
			hold(t, m, faces[r.Intn(len(faces))].No, p, r.Intn(12))
		}
	}
}

// P16.1 to P16.3: faces that were put anyhow, open and one over the other, some of them gone: all by the words.
func TestAnyhow(t *testing.T) {
	found, gone := 0, 0
	for seed := range int64(400) {
		r := rand.New(rand.NewSource(seed))
		m := anyhow(r)
		for range r.Intn(8) {
			m.DropFace(r.Intn(12))
		}
		for range 12 {
			p := at(r.Int63n(3*m.Side())-m.Side(), r.Int63n(3*m.Side())-m.Side())
			got := hold(t, m, r.Intn(20)-1, p, r.Intn(9)-1)
			if got.ok {
				found++
			} else {
				gone++
			}
		}
	}
	if found < 500 || gone < 50 {
		t.Fatal(found, gone)
	}
}

// From arguments alone: the same is told again, and of another mesh that is the same.
func TestAgain(t *testing.T) {
	m, n := grid(t, 4, 4), grid(t, 4, 4)
	for f := range 32 {
		for _, p := range square(16) {
			a := find(m, f, p, f%7)
			find(m, 31-f, at(p.Y, p.X), 9)
			if b := find(m, f, p, f%7); a != b || a != find(n, f, p, f%7) {
				t.Fatal(f, p, a, b)
			}
		}
	}
}

// Ends: a mesh that New didn't make has no faces, and nothing panics.
func TestZeroMesh(t *testing.T) {
	var m mesh.Mesh
	find(&m, 0, at(0, 0), 9)
	find(&m, -1, at(end, end), 0)
}

// FuzzAll: any sites, any face, any point, any fuel: Find is as the words say, and something is found (P16.1 to P16.4).
func FuzzAll(f *testing.F) {
	f.Add(int64(10), []byte{0, 0}, 0, int64(2), int64(3), 5)
	f.Add(int64(12), []byte{1, 1, 5, 1, 9, 1, 1, 5, 5, 5, 9, 5, 1, 9, 5, 9, 9, 9}, 17, int64(14), int64(-10), 0)
	f.Add(int64(5), []byte{1, 2, 3, 4, 0, 0}, -1, int64(end), int64(-end), 1000)
	f.Add(int64(5), []byte{1, 2}, 1, int64(end+1), int64(0), 3)
	f.Fuzz(func(t *testing.T, side int64, raw []byte, from int, x, y int64, fuel int) {
		if side < 1 || side > 40 {
			side = 9
		}
		sites := []api.Point{at(0, 0)}
		have := map[api.Point]bool{at(0, 0): true}
		for i := 0; i+1 < len(raw) && i < 24; i += 2 {
			if p := at(int64(raw[i])%side, int64(raw[i+1])%side); !have[p] {
				have[p], sites = true, append(sites, p)
			}
		}
		m := delaunay(t, side, sites, rand.New(rand.NewSource(x)), 3)
		if got := hold(t, m, from, at(x, y), fuel); got.ok != can(at(x, y)) {
			t.Fatal(got)
		}
		// With a face less, too.
		m.DropFace(fuel)
		m.DropFace(1)
		hold(t, m, from, at(x, y), fuel)
	})
}
