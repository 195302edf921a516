package hole_test

import (
	"math"
	"math/rand"
	"slices"
	"testing"

	"zellige/api"
	"zellige/hole"
	"zellige/lift"
	"zellige/mesh"
	"zellige/pred"
	"zellige/tie"
)

// strange are numbers that no mesh of these tests ever lends.
func strange() []int {
	return []int{-1, -2, -3, math.MinInt32, math.MinInt, math.MinInt + 1, 1 << 20, math.MaxInt32, 1 << 32, math.MaxInt - 1, math.MaxInt}
}

// The chapter's example.
func TestExample(t *testing.T) {
	got, ok := holdFill(t, []api.Point{at(0, 0), at(2, 0), at(2, 2), at(0, 2)})
	if !ok || !slices.Equal(got, [][3]int{{0, 1, 3}, {1, 2, 3}}) {
		t.Fatal(got, ok)
	}
}

// noRing holds that Ring, Plan and Remove answer none and false.
func noRing(t *testing.T, m *mesh.Mesh, v int) {
	t.Helper()
	knots, faces, ok := hole.Ring(m, v)
	if len(knots) != 0 || len(faces) != 0 || ok {
		t.Fatalf("Ring(%d): %v %v %v", v, knots, faces, ok)
	}
	if plan, ok := hole.Plan(m, v); len(plan) != 0 || ok {
		t.Fatalf("Plan(%d): %v %v", v, plan, ok)
	}
	if faces, ok := hole.Remove(m, v); len(faces) != 0 || ok {
		t.Fatalf("Remove(%d): %v %v", v, faces, ok)
	}
}

// P13.1: knots and faces in a grid, from the face with the least number on, turning left.
func TestRingGrid(t *testing.T) {
	m := grid(t, 3, 4)
	knots, faces, ok := holdRing(t, m, 4)
	want := []api.Knot{knot(1, 0, 0), knot(3, 0, 0), knot(6, 0, 0), knot(7, 0, 0), knot(5, 0, 0), knot(2, 0, 0)}
	if !ok || !slices.Equal(knots, want) || !slices.Equal(faces, []int{1, 6, 7, 8, 3, 2}) {
		t.Fatal(knots, faces, ok)
	}
	// Beyond the side, as seen from a vertex that is not moved: in the face 13 the vertex 0 itself lies a side off.
	knots, faces, ok = holdRing(t, m, 0)
	want = []api.Knot{knot(3, 0, 0), knot(1, 0, 0), knot(7, -1, 0), knot(6, -1, 0), knot(2, 0, -1), knot(5, 0, -1)}
	if !ok || !slices.Equal(knots, want) || !slices.Equal(faces, []int{0, 13, 12, 17, 4, 5}) {
		t.Fatal(knots, faces, ok)
	}
	for v := range 9 {
		if knots, _, ok := holdRing(t, m, v); !ok || len(knots) != 6 {
			t.Fatal(v, knots, ok)
		}
	}
}

// P13.1: the knots stay however the faces are moved and from whichever corner on they are told; the face with the least number comes first, whichever it is.
func TestRingMoved(t *testing.T) {
	home := grid(t, 3, 4)
	for seed := range int64(40) {
		r := rand.New(rand.NewSource(seed))
		d := home.Dump()
		r.Shuffle(len(d.Faces), func(i, k int) { d.Faces[i], d.Faces[k] = d.Faces[k], d.Faces[i] })
		var faces []api.Tri
		for _, c := range d.Faces {
			faces = append(faces, moved(from(c.Tri, r.Intn(3)), off(r.Intn(2001)-1000, r.Intn(2001)-1000)))
		}
		m := build(t, 12, sitesOf(home), faces...)
		for v := range 9 {
			knots, numbers, ok := holdRing(t, m, v)
			if !ok || numbers[0] != slices.Min(numbers) {
				t.Fatal(v, knots, numbers, ok)
			}
			want, _, _ := hole.Ring(home, v)
			turn := slices.Index(want, knots[0])
			if turn < 0 || !slices.Equal(knots, slices.Concat(want[turn:], want[:turn])) {
				t.Fatal(v, knots, want)
			}
		}
	}
}

// P13.1: none, none and false of a number that is no vertex's, or was one's, of a vertex without faces, of meshes without any, of a nil mesh.
func TestRingNone(t *testing.T) {
	m := grid(t, 3, 4)
	lone := m.AddVert(at(0, 0), 5)
	gone := m.AddVert(at(0, 0), 5)
	m.DropVert(gone)
	d := m.Dump()
	empty := mesh.New(3)
	alone := mesh.New(3)
	alone.AddVert(at(1, 1), 0)
	for _, v := range append(strange(), 0, 1, lone, gone) {
		if v < 0 || v >= lone {
			noRing(t, m, v)
		}
		noRing(t, nil, v)
		noRing(t, empty, v)
		noRing(t, alone, v)
	}
	same(t, m, d)
	if len(alone.Dump().Verts) != 1 {
		t.Fatal("the lone vertex is gone")
	}
	// All of its faces were dropped.
	for _, f := range m.Around(4) {
		m.DropFace(f)
	}
	noRing(t, m, 4)
}

// P13.1: of a vertex that is each corner of each face the first corner is begun with, and each face is come to thrice, moved otherwise.
func TestRingOneVertex(t *testing.T) {
	m := one(t, 10)
	knots, faces, ok := holdRing(t, m, 0)
	want := []api.Knot{knot(0, 1, 0), knot(0, 0, 1), knot(0, -1, 1), knot(0, -1, 0), knot(0, 0, -1), knot(0, 1, -1)}
	if !ok || !slices.Equal(knots, want) || !slices.Equal(faces, []int{0, 1, 0, 1, 0, 1}) {
		t.Fatal(knots, faces, ok)
	}
	lower, _ := m.Face(0)
	upper, _ := m.Face(1)
	for i := range 3 {
		for k := range 3 {
			n := build(t, 10, []api.Point{at(3, 4)}, moved(from(lower, i), off(5, -7)), from(upper, k))
			knots, faces, ok := holdRing(t, n, 0)
			// In the lower half the next corner follows in the ring two knots later.
			if turned := slices.Concat(want[2*i:], want[:2*i]); !ok || !slices.Equal(knots, turned) || !slices.Equal(faces, []int{0, 1, 0, 1, 0, 1}) {
				t.Fatal(i, knots, faces, ok)
			}
			n = build(t, 10, []api.Point{at(3, 4)}, from(upper, k), moved(from(lower, i), off(5, -7)))
			knots, _, ok = holdRing(t, n, 0)
			// The upper half from its first corner on has the knot 0 1 ahead.
			if at := (1 + 2*k) % 6; !ok || knots[0] != want[at] {
				t.Fatal(k, knots, ok)
			}
		}
	}
}

// P13.1: a vertex that is the second and the third corner of its face with the least number: the second one is begun with.
func TestRingFirstCorner(t *testing.T) {
	tried := [3]int{}
	for seed := range int64(200) {
		r := rand.New(rand.NewSource(seed))
		m := delaunay(t, 12, someSites(r, 12, 2+r.Intn(2)), r)
		for v := range m.Dump().Verts {
			least, _ := m.Face(m.Around(v)[0])
			knots, faces, ok := holdRing(t, m, v)
			i := slices.Index(least.V[:], v)
			next := (i + 1) % 3
			if !ok || faces[0] != m.Around(v)[0] || knots[0] != (api.Knot{V: least.V[next], Off: minus(least.Off[next], least.Off[i])}) {
				t.Fatal(knots, faces, ok)
			}
			if least.V[0] == v && least.V[1] == v {
				tried[0]++
			}
			if least.V[1] == v && least.V[2] == v && least.V[0] != v {
				tried[1]++
			}
			if least.V[0] == v && least.V[2] == v && least.V[1] != v {
				tried[2]++
			}
		}
	}
	if slices.Min(tried[:]) < 10 {
		t.Fatal("tried but", tried)
	}
}

// P13.1: where a face about the vertex is missing there is no ring, whichever it is; where another one is missing there is one.
func TestRingOpen(t *testing.T) {
	for v := range 9 {
		for f := range 18 {
			m := grid(t, 3, 4)
			at := slices.Contains(m.Around(v), f)
			m.DropFace(f)
			if _, _, ok := holdRing(t, m, v); ok == at {
				t.Fatal(v, f, ok)
			}
			if at {
				d := m.Dump()
				noRing(t, m, v)
				same(t, m, d)
			}
		}
	}
	// A face alone, one half of one vertex's square, two that meet.
	single := build(t, 100, []api.Point{at(10, 10), at(40, 10), at(10, 40)}, flat(0, 1, 2))
	half := build(t, 10, []api.Point{at(0, 0)}, tri(0, 0, 0, off(0, 0), off(1, 0), off(0, 1)))
	two := build(t, 100, []api.Point{at(10, 10), at(40, 10), at(10, 40), at(40, 40)}, flat(0, 1, 2), flat(2, 1, 3))
	for _, m := range []*mesh.Mesh{single, half, two} {
		d := m.Dump()
		for v := range d.Verts {
			holdRing(t, m, v)
			noRing(t, m, v)
		}
		same(t, m, d)
	}
}

// P13.1: some of the rings in meshes with holes are closed, others are not.
func TestRingHoles(t *testing.T) {
	whole, open := 0, 0
	for seed := range int64(40) {
		r := rand.New(rand.NewSource(seed))
		m := delaunay(t, 60, someSites(r, 60, 20), r)
		for range 1 + r.Intn(8) {
			m.DropFace(r.Intn(40))
		}
		for v := range 20 {
			if _, _, ok := holdRing(t, m, v); ok {
				whole++
			} else {
				open++
				d := m.Dump()
				noRing(t, m, v)
				same(t, m, d)
			}
		}
	}
	if whole < 100 || open < 100 {
		t.Fatal(whole, open)
	}
}

// P13.1: 100000 faces are told, 100001 are not; open ones of so many aren't either.
func TestMaxHits(t *testing.T) {
	m := wheel(t, 100000)
	knots, faces, ok := hole.Ring(m, 0)
	if !ok || len(knots) != 100000 || len(faces) != 100000 {
		t.Fatal(len(knots), len(faces), ok)
	}
	for i, f := range faces {
		if f != i || knots[i] != knot(1+i, 0, 0) {
			t.Fatal(i, f, knots[i])
		}
	}
	// More corners than can be filled.
	if plan, ok := hole.Plan(m, 0); len(plan) != 0 || ok {
		t.Fatal(len(plan), ok)
	}
	if faces, ok := hole.Remove(m, 0); len(faces) != 0 || ok || len(m.Around(0)) != 100000 {
		t.Fatal(len(faces), ok)
	}
	m.DropFace(99999)
	noRing(t, m, 0)
	noRing(t, wheel(t, 100001), 0)
}

// P13.2: fewer than three corners.
func TestFillFew(t *testing.T) {
	for _, l := range [][]api.Point{nil, {}, {at(0, 0)}, {at(0, 0), at(1, 0)}} {
		if got, ok := holdFill(t, l); len(got) != 0 || ok {
			t.Fatal(l, got, ok)
		}
	}
}

// P13.2: three corners: one triangle, if they turn left.
func TestFillThree(t *testing.T) {
	for _, x := range []struct {
		l    []api.Point
		want bool
	}{
		{[]api.Point{at(0, 0), at(1, 0), at(0, 1)}, true},
		{[]api.Point{at(1, 0), at(0, 1), at(0, 0)}, true},
		{[]api.Point{at(-end, -end), at(end, -end), at(end, end)}, true},
		{[]api.Point{at(0, 0), at(0, 1), at(1, 0)}, false},
		{[]api.Point{at(0, 0), at(1, 0), at(2, 0)}, false},
		{[]api.Point{at(0, 0), at(1, 1), at(-1, -1)}, false},
		{[]api.Point{at(0, 0), at(1, 0), at(1, 0)}, false},
		{[]api.Point{at(0, 0), at(0, 0), at(1, 0)}, false},
		{[]api.Point{at(7, 7), at(7, 7), at(7, 7)}, false},
		{[]api.Point{at(0, 0), at(end+1, 0), at(0, 1)}, false},
		{[]api.Point{at(0, 0), at(1, 0), at(0, end+1)}, false},
		{[]api.Point{at(0, -end-1), at(1, 0), at(0, 1)}, false},
		{[]api.Point{at(math.MinInt64, math.MinInt64), at(math.MaxInt64, 0), at(0, math.MaxInt64)}, false},
	} {
		got, ok := holdFill(t, x.l)
		if ok != x.want || ok && !slices.Equal(got, [][3]int{{0, 1, 2}}) || !ok && len(got) != 0 {
			t.Fatal(x.l, got, ok)
		}
	}
}

// P13.2: first the edge's own triangle, then those on the side of the second corner, then those on the side of the first one, and so within each side.
func TestFillOrder(t *testing.T) {
	// A triangle with one more on either side.
	five := []api.Point{at(0, 0), at(10, 0), at(20, 5), at(5, 7), at(-10, 5)}
	if got, ok := holdFill(t, five); !ok || !slices.Equal(got, [][3]int{{0, 1, 3}, {1, 2, 3}, {3, 4, 0}}) {
		t.Fatal(got, ok)
	}
	// Triangles with nearly equal sides, one beside the other.
	seven := []api.Point{at(0, 0), at(100, 0), at(200, 5), at(150, 87), at(100, 174), at(50, 87), at(-50, 87)}
	if got, ok := holdFill(t, seven); !ok || !slices.Equal(got, [][3]int{{0, 1, 5}, {1, 2, 3}, {3, 4, 5}, {5, 1, 3}, {5, 6, 0}}) {
		t.Fatal(got, ok)
	}
	// From another corner on.
	turned := append(slices.Clone(seven[4:]), seven[:4]...)
	if got, ok := holdFill(t, turned); !ok || !slices.Equal(got, [][3]int{{0, 1, 6}, {1, 2, 3}, {3, 4, 1}, {4, 5, 6}, {6, 1, 4}}) {
		t.Fatal(got, ok)
	}
}

// bow are so many corners that turn left all the way.
func bow(many int) []api.Point {
	var l []api.Point
	for i := range int64(many) {
		l = append(l, at(i, i*i))
	}
	return l
}

// P13.2 and P13.6: up to 500 corners, and no more.
func TestFillMany(t *testing.T) {
	for _, n := range []int{3, 4, 5, 10, 99, 499, 500} {
		if got, ok := holdFill(t, bow(n)); !ok || len(got) != n-2 {
			t.Fatal(n, len(got), ok)
		}
	}
	for _, n := range []int{501, 502, 1000, 100000} {
		if got, ok := hole.Fill(bow(n)); len(got) != 0 || ok {
			t.Fatal(n, len(got), ok)
		}
	}
}

// P13.2: corners on a line, turning right, or some of them: none and false.
func TestFillNot(t *testing.T) {
	right := bow(9)
	slices.Reverse(right)
	var line []api.Point
	for i := range int64(6) {
		line = append(line, at(3*i, -i))
	}
	for _, l := range [][]api.Point{
		right, line,
		{at(0, 0), at(2, 0), at(1, 0), at(3, 0)},
		{at(0, 0), at(10, 0), at(5, -5), at(5, -10)},
		{at(0, 0), at(0, 10), at(10, 10), at(10, 0)},
		// The first edge has its triangle; what is left on the side of the second corner, or of the first one, turns right, or lies on a line.
		{at(0, 0), at(10, 0), at(-3, 20), at(5, 9)},
		{at(0, 0), at(10, 0), at(5, 9), at(13, 20)},
		{at(0, 0), at(10, 0), at(10, 10), at(5, 0)},
		{at(0, 0), at(10, 0), at(5, 9), at(5, 9)},
	} {
		if got, ok := holdFill(t, l); len(got) != 0 || ok {
			t.Fatal(l, got, ok)
		}
	}
	// Corners that go in are filled all the same.
	for _, l := range [][]api.Point{{at(0, 0), at(10, 0), at(4, 3), at(5, 9)}, {at(0, 0), at(10, 0), at(5, 9), at(6, 3)}} {
		if _, ok := holdFill(t, l); !ok {
			t.Fatal(l)
		}
	}
}

// P13.2: a corner on the line of others, where there is one to the left.
func TestFillStraight(t *testing.T) {
	l := []api.Point{at(0, 0), at(2, 0), at(4, 0), at(6, 0), at(6, 6), at(3, 6), at(0, 6), at(0, 3)}
	for i := range l {
		turned := append(slices.Clone(l[i:]), l[:i]...)
		if got, ok := holdFill(t, turned); !ok || len(got) != 6 {
			t.Fatal(turned, got, ok)
		}
	}
}

// P13.2: one corner that can't be, at any place, of holes that else can be filled up to the very ends.
func TestFillCant(t *testing.T) {
	l := []api.Point{at(-end, -end), at(0, -end), at(end, -end), at(end, end), at(3, end), at(-end, end)}
	if got, ok := holdFill(t, l); !ok || len(got) != 4 {
		t.Fatal(got, ok)
	}
	for i := range l {
		for _, by := range []api.Point{at(1, 0), at(-1, 0), at(0, 1), at(0, -1)} {
			bad := slices.Clone(l)
			bad[i] = at(bad[i].X+by.X, bad[i].Y+by.Y)
			if lift.Can(bad[i]) {
				continue
			}
			if got, ok := holdFill(t, bad); len(got) != 0 || ok {
				t.Fatal(bad, got, ok)
			}
		}
		for _, p := range []api.Point{at(math.MaxInt64, 0), at(0, math.MinInt64), at(end+1, end+1)} {
			bad := slices.Clone(l)
			bad[i] = p
			if got, ok := holdFill(t, bad); len(got) != 0 || ok {
				t.Fatal(bad, got, ok)
			}
		}
	}
}

// circle are all whole points of the circle about 0 0 whose radius squared is that, turning left.
func circle(radius2 int64) []api.Point {
	var l []api.Point
	for x := int64(-100); x <= 100; x++ {
		for y := int64(-100); y <= 100; y++ {
			if x*x+y*y == radius2 {
				l = append(l, at(x, y))
			}
		}
	}
	slices.SortFunc(l, func(p, q api.Point) int {
		lower := func(p api.Point) int {
			if p.Y < 0 || p.Y == 0 && p.X < 0 {
				return 1
			}
			return 0
		}
		if lower(p) != lower(q) {
			return lower(p) - lower(q)
		}
		return -pred.Orient(at(0, 0), p, q)
	})
	return l
}

// least are the triangles of places of l as points, each from its least corner on, in order.
func least(l []api.Point, list [][3]int) []class {
	var all []class
	for _, x := range list {
		k := class{l[x[0]], l[x[1]], l[x[2]]}
		for k[0] != slices.MinFunc(k[:], lift.Cmp) {
			k = class{k[1], k[2], k[0]}
		}
		all = append(all, k)
	}
	slices.SortFunc(all, cmpClass)
	return all
}

// P13.2: all corners on one circle: whichever of them is the first, the same triangles come, and no corner does away with one.
func TestFillCircle(t *testing.T) {
	for _, radius2 := range []int64{1, 2, 5, 25, 65, 325, 1105, 4225, 5525} {
		l := circle(radius2)
		first, ok := holdFill(t, l)
		if !ok {
			t.Fatal(l)
		}
		for i := range l {
			turned := append(slices.Clone(l[i:]), l[:i]...)
			got, ok := holdFill(t, turned)
			if !ok || !slices.Equal(least(turned, got), least(l, first)) {
				t.Fatal(turned, got, ok)
			}
		}
		for _, k := range least(l, first) {
			for _, d := range l {
				if tie.Conflict(k[0], k[1], k[2], d) {
					t.Fatal(l, k, d)
				}
			}
		}
	}
}

// hull are the outermost of these points, turning left all the way.
func hull(points []api.Point) []api.Point {
	slices.SortFunc(points, lift.Cmp)
	points = slices.Compact(points)
	half := func(points []api.Point) []api.Point {
		var l []api.Point
		for _, p := range points {
			for len(l) > 1 && pred.Orient(l[len(l)-2], l[len(l)-1], p) != 1 {
				l = l[:len(l)-1]
			}
			l = append(l, p)
		}
		return l[:len(l)-1]
	}
	below := half(points)
	slices.Reverse(points)
	return append(below, half(points)...)
}

// P13.2 and P13.6: corners that turn left all the way, near and far out: always filled, from every corner on alike, and no corner does away with a triangle.
func TestFillConvex(t *testing.T) {
	for seed := range int64(120) {
		r := rand.New(rand.NewSource(seed))
		wide := []int64{3, 6, 20, 1000, end}[seed%5]
		var points []api.Point
		for range 4 + r.Intn(40) {
			points = append(points, at(r.Int63n(2*wide+1)-wide, r.Int63n(2*wide+1)-wide))
		}
		l := hull(points)
		if len(l) < 3 {
			continue
		}
		first, ok := holdFill(t, l)
		if !ok {
			t.Fatal(l)
		}
		for i := range l {
			turned := append(slices.Clone(l[i:]), l[:i]...)
			got, ok := holdFill(t, turned)
			if !ok || !slices.Equal(least(turned, got), least(l, first)) {
				t.Fatal(turned, got, ok)
			}
		}
		for _, k := range least(l, first) {
			if slices.ContainsFunc(l, func(d api.Point) bool { return tie.Conflict(k[0], k[1], k[2], d) }) {
				t.Fatal(l, k)
			}
		}
	}
}

// P13.2 and P13.6: any corners at all: as the words say.
func TestFillAny(t *testing.T) {
	filled, not := 0, 0
	for seed := range int64(4000) {
		r := rand.New(rand.NewSource(seed))
		wide := []int64{2, 3, 5, 30}[seed%4]
		var l []api.Point
		for range r.Intn(9) {
			l = append(l, at(r.Int63n(2*wide+1)-wide, r.Int63n(2*wide+1)-wide))
			if r.Intn(60) == 0 {
				l[0].X = end + 1
			}
		}
		if _, ok := holdFill(t, l); ok {
			filled++
		} else {
			not++
		}
	}
	if filled < 200 || not < 200 {
		t.Fatal(filled, not)
	}
}

// P13.2: holes that are seen from within, but go in and out.
func TestFillStars(t *testing.T) {
	filled, not := 0, 0
	for seed := range int64(600) {
		r := rand.New(rand.NewSource(seed))
		l := circle([]int64{25, 65, 325, 1105}[seed%4])
		for i := range l {
			far := 1 + r.Int63n(9)
			l[i] = at(l[i].X*far, l[i].Y*far)
		}
		if _, ok := holdFill(t, l); ok {
			filled++
		} else {
			not++
		}
	}
	if filled < 20 || not < 20 {
		t.Fatal(filled, not)
	}
}

// P13.3: the faces that fill a hole in a grid, the numbers with which they are put, and what is left.
func TestRemoveGrid(t *testing.T) {
	m := grid(t, 3, 4)
	d := m.Dump()
	// The four next to the hole's middle lie on a circle: its last one, 9 5, is taken for a trifle farther out.
	want := []api.Tri{flat(1, 3, 5), flat(3, 6, 7), flat(7, 5, 3), flat(5, 2, 1)}
	plan, ok := holdPlan(t, m, 4)
	if !ok || !slices.Equal(plan, want) {
		t.Fatal(plan, ok)
	}
	same(t, m, d)
	faces, ok := hole.Remove(m, 4)
	if !ok || !slices.Equal(faces, []int{2, 3, 8, 7}) || m.Check() != api.OK {
		t.Fatal(faces, ok, m.Check())
	}
	for i, f := range faces {
		if got, _ := m.Face(f); got != want[i] {
			t.Fatal(got, want[i])
		}
	}
	if _, ok := m.Vert(4); ok {
		t.Fatal("4 is there")
	}
	// All else is as it was.
	for _, c := range d.Faces {
		if got, ok := m.Face(c.No); !slices.Contains([]int{1, 2, 3, 6, 7, 8}, c.No) && (!ok || got != c.Tri) {
			t.Fatal(c, got)
		}
	}
	if n := m.Dump(); len(n.Verts) != 8 || len(n.Faces) != 16 {
		t.Fatal(n)
	}
	isDelaunay(t, m)
	noRing(t, m, 4)
	// What came back last is lent first.
	if v := m.AddVert(at(0, 0), 7); v != 4 {
		t.Fatal(v)
	}
	if f, e := m.AddFace(tri(0, 0, 0, off(0, 0), off(2, 0), off(0, 2))); f != 6 || e != api.OK {
		t.Fatal(f, e)
	}
}

// P13.3: faces beyond the side have offs as seen from the vertex.
func TestPlanOffs(t *testing.T) {
	m := grid(t, 3, 4)
	plan, ok := holdPlan(t, m, 0)
	want := []api.Tri{
		tri(3, 1, 2, off(0, 0), off(0, 0), off(0, -1)), tri(1, 7, 6, off(0, 0), off(-1, 0), off(-1, 0)),
		tri(6, 2, 1, off(-1, 0), off(0, -1), off(0, 0)), tri(2, 5, 3, off(0, -1), off(0, -1), off(0, 0)),
	}
	if !ok || !slices.Equal(plan, want) {
		t.Fatal(plan, ok)
	}
	if !holdRemove(t, m, grid(t, 3, 4), 0) {
		t.Fatal("not taken")
	}
	isDelaunay(t, m)
}

// P13.3: numbers that came back ahead are lent behind those of the vertex's own faces.
func TestRemoveNumbers(t *testing.T) {
	prepared := func() *mesh.Mesh {
		m := grid(t, 5, 4)
		for range 3 {
			m.AddVert(at(0, 0), 0)
		}
		var spare []int
		for i := range 3 {
			f, e := m.AddFace(tri(25, 26, 27, off(0, 0), off(5+i, 0), off(-i, 7)))
			if e != api.OK {
				t.Fatal(e)
			}
			spare = append(spare, f)
		}
		for _, f := range []int{1, 2, 0} {
			m.DropFace(spare[f])
		}
		for _, v := range []int{26, 25, 27} {
			m.DropVert(v)
		}
		return m
	}
	m, w := prepared(), prepared()
	_, ring, _ := hole.Ring(m, 12)
	faces, ok := hole.Remove(prepared(), 12)
	if !ok || !slices.Equal(faces, []int{ring[5], ring[4], ring[3], ring[2]}) {
		t.Fatal(faces, ring)
	}
	for _, v := range []int{12, 3, 24, 13, 7, 0, 18} {
		if !holdRemove(t, m, w, v) || m.Check() != api.OK {
			t.Fatal(v)
		}
		isDelaunay(t, m)
		if got, want := lent(m), lent(w); !slices.Equal(got, want) {
			t.Fatal(got, want)
		}
		refused(t, m, w, v)
	}
	// The last one comes again, elsewhere, and goes.
	v, v2 := m.AddVert(at(2, 2), 1), w.AddVert(at(2, 2), 1)
	if v != 18 || v2 != 18 {
		t.Fatal(v, v2)
	}
	refused(t, m, w, v)
}

// P13.3: a knot of the ring is the vertex itself, and so one face is told twice: nothing is changed.
func TestRemoveItself(t *testing.T) {
	refused(t, one(t, 10), one(t, 10), 0)
	holdPlan(t, one(t, 10), 0)
	itself, told := 0, 0
	for seed := range int64(60) {
		r := rand.New(rand.NewSource(seed))
		m := delaunay(t, 12, someSites(r, 12, 1+r.Intn(4)), r)
		w := copied(t, m)
		for v := range m.Dump().Verts {
			knots, faces, _ := holdRing(t, m, v)
			twice := len(slices.Compact(slices.Sorted(slices.Values(faces)))) < len(faces)
			own := slices.ContainsFunc(knots, func(k api.Knot) bool { return k.V == v })
			// A face that is told twice has two corners at v.
			if twice && !own {
				t.Fatal(knots, faces)
			}
			if own {
				itself++
				if plan, ok := holdPlan(t, m, v); len(plan) != 0 || ok {
					t.Fatal(plan, ok)
				}
				refused(t, m, w, v)
			}
			if twice {
				told++
			}
		}
	}
	if itself < 50 || told < 50 {
		t.Fatal(itself, told)
	}
}

// P13.3: 500 corners are filled, 501 are not: then nothing is changed.
func TestRemoveMany(t *testing.T) {
	for _, n := range []int{4, 8, 100, 500} {
		m := wheel(t, n)
		if !holdRemove(t, m, wheel(t, n), 0) || len(m.Dump().Faces) != n-2 || len(m.Dump().Verts) != n {
			t.Fatal(n)
		}
	}
	for _, n := range []int{501, 502, 600} {
		m := wheel(t, n)
		if knots, _, ok := hole.Ring(m, 0); !ok || len(knots) != n {
			t.Fatal(n, len(knots), ok)
		}
		if plan, ok := hole.Plan(m, 0); len(plan) != 0 || ok {
			t.Fatal(n, len(plan), ok)
		}
		refused(t, m, wheel(t, n), 0)
	}
}

// P13.3: in closed meshes that are no Delaunay meshes either the hole is filled, and Check is right, or Fill tells false, and nothing is changed.
func TestRemoveScrambled(t *testing.T) {
	taken, not := 0, 0
	for seed := range int64(60) {
		r := rand.New(rand.NewSource(seed))
		m := scrambled(t, r, 2+r.Intn(2), 12)
		d := m.Dump()
		for v := range d.Verts {
			n := copied(t, m)
			if holdRemove(t, n, copied(t, m), v) {
				taken++
				if n.Check() != api.OK || len(n.Dump().Faces) != len(d.Faces)-2 {
					t.Fatal(d, v)
				}
			} else {
				not++
			}
		}
	}
	if taken < 200 || not < 20 {
		t.Fatal(taken, not)
	}
}

// P13.3: Fill tells false of a ring that goes far out and in.
func TestRemoveNotFilled(t *testing.T) {
	found := 0
	for seed := range int64(100) {
		r := rand.New(rand.NewSource(seed))
		verts := []api.Point{at(500, 500)}
		var faces []api.Tri
		l := circle(65)
		for i, p := range l {
			far := 1 + r.Int63n(9)
			verts = append(verts, at(500+p.X*far, 500+p.Y*far))
			faces = append(faces, flat(0, 1+i, 1+(i+1)%len(l)))
		}
		m := build(t, 1000, verts, faces...)
		_, ok := hole.Fill(verts[1:])
		if holdRemove(t, m, build(t, 1000, verts, faces...), 0) != ok {
			t.Fatal(verts)
		}
		if !ok {
			found++
		}
	}
	if found < 5 {
		t.Fatal("found but", found)
	}
}

// P13.3: a knot that, seen from the vertex, lies farther out than can be: there is a ring, and no plan, though noughts in its place could be filled.
func TestPlanTooFar(t *testing.T) {
	verts := []api.Point{at(5, 7), at(3, 3), at(2, 9), at(8, 8)}
	spokes := []struct {
		a    api.Off
		want bool
	}{
		{off(63, 0), true}, {off(64, 0), false}, {off(126, 0), false}, {off(126, 1), false},
	}
	b, c, o := off(0, 62), off(-1, -1), off(0, 0)
	for _, x := range spokes {
		wheel := func() *mesh.Mesh {
			return build(t, 1<<34, verts, moved(tri(0, 1, 2, o, x.a, b), off(-64, 0)), tri(0, 2, 3, o, b, c), moved(tri(0, 3, 1, o, c, x.a), off(-63, 0)))
		}
		m := wheel()
		knots, faces, ok := holdRing(t, m, 0)
		if !ok || !slices.Equal(knots, []api.Knot{{V: 1, Off: x.a}, {V: 2, Off: b}, {V: 3, Off: c}}) || !slices.Equal(faces, []int{0, 1, 2}) {
			t.Fatal(knots, faces, ok)
		}
		if got := holdRemove(t, m, wheel(), 0); got != x.want {
			t.Fatal(x, got)
		}
	}
	if pred.Orient(at(0, 0), at(2, 62<<34), at(8-1<<34, 8-1<<34)) != 1 {
		t.Fatal("noughts could not be filled")
	}
}

// P13.3: the mesh would not let the vertex go: two rings of faces lie about it, one over the other. Nothing is changed.
func TestRemoveTwoRings(t *testing.T) {
	verts := []api.Point{at(50, 50), at(40, 40), at(60, 40), at(60, 60), at(40, 60), at(20, 50), at(50, 20), at(80, 50), at(50, 80)}
	for _, inner := range []int{0, 1} {
		twice := func() *mesh.Mesh {
			var faces []api.Tri
			for i := range 4 {
				near, far := flat(0, 1+i, 1+(i+1)%4), flat(0, 5+i, 5+(i+1)%4)
				faces = append(faces, []api.Tri{near, far}[inner], []api.Tri{far, near}[inner])
			}
			return build(t, 100, verts, faces...)
		}
		m := twice()
		if knots, faces, ok := holdRing(t, m, 0); !ok || len(knots) != 4 || !slices.Equal(faces, []int{0, 2, 4, 6}) {
			t.Fatal(knots, faces, ok)
		}
		if plan, ok := holdPlan(t, m, 0); !ok || len(plan) != 2 {
			t.Fatal(plan, ok)
		}
		refused(t, m, twice(), 0)
	}
}

// P13.3: the mesh would refuse a face of the plan, the first one or a later one, since an edge of it is there already, in a face that lies over the hole. Nothing is changed.
func TestRemoveRefused(t *testing.T) {
	verts := []api.Point{at(50, 50), at(40, 40), at(60, 40), at(64, 50), at(60, 60), at(40, 60), at(10, 90), at(90, 90), at(90, 10), at(10, 10)}
	found := map[int]int{}
	for a := 1; a < 6; a++ {
		for b := 1; b < 6; b++ {
			for c := 6; c < 10; c++ {
				over := func() *mesh.Mesh {
					m := mesh.New(100)
					for i, p := range verts {
						m.AddVert(p, 100+i)
					}
					m.AddFace(flat(a, b, c))
					for i := range 5 {
						m.AddFace(flat(0, 1+i, 1+(i+1)%5))
					}
					return m
				}
				m, w := over(), over()
				plan, ok := holdPlan(t, m, 0)
				if !ok {
					if _, _, ring := hole.Ring(m, 0); ring {
						t.Fatal(a, b, c)
					}
					continue
				}
				if _, ok := removeByWords(over(), 0); ok {
					if !holdRemove(t, m, w, 0) {
						t.Fatal(a, b, c)
					}
					continue
				}
				edge := func(u api.Tri) bool { return hasEdge(u, a, b) }
				found[slices.IndexFunc(plan, edge)]++
				refused(t, m, w, 0)
			}
		}
	}
	if found[0] == 0 || found[1] == 0 || found[2] == 0 || found[-1] != 0 {
		t.Fatal(found)
	}
}

// hasEdge tells whether a face none of whose corners is off goes from a to b.
func hasEdge(u api.Tri, a, b int) bool {
	for i := range 3 {
		if u.V[i] == a && u.V[(i+1)%3] == b {
			return true
		}
	}
	return false
}

// P13.3: rings with faces that lie over them anyhow: Remove is done wholly, or not at all.
func TestRemoveAnyhow(t *testing.T) {
	taken, not := 0, 0
	for seed := range int64(300) {
		r := rand.New(rand.NewSource(seed))
		verts := append([]api.Point{at(30, 30)}, circle(325)...)
		for i := range verts {
			verts[i] = at(verts[i].X+30*int64(min(i, 1)), verts[i].Y+30*int64(min(i, 1)))
		}
		verts = append(verts, someSites(r, 60, 4)...)
		over := func(seed int64) *mesh.Mesh {
			r := rand.New(rand.NewSource(seed))
			m := mesh.New(60)
			for i, p := range verts {
				m.AddVert(p, 100+i)
			}
			ring := len(circle(325))
			for i := range ring {
				m.AddFace(flat(0, 1+i, 1+(i+1)%ring))
			}
			for range 5 + r.Intn(30) {
				m.AddFace(tri(r.Intn(len(verts)), r.Intn(len(verts)), r.Intn(len(verts)), off(0, 0), off(r.Intn(2), 0), off(0, r.Intn(2))))
			}
			return m
		}
		m, w := over(seed), over(seed)
		holdRing(t, m, 0)
		holdPlan(t, m, 0)
		if _, ok := removeByWords(over(seed), 0); !ok {
			not++
			refused(t, m, w, 0)
			continue
		}
		taken++
		if !holdRemove(t, m, w, 0) {
			t.Fatal(seed)
		}
	}
	if taken < 50 || not < 50 {
		t.Fatal(taken, not)
	}
}

// P13.4: in meshes all of whose edges have a face across, as many knots as the vertex has corners of faces.
func TestAboutIt(t *testing.T) {
	hold := func(m *mesh.Mesh) {
		t.Helper()
		if !isClosed(m) {
			t.Fatal("not closed")
		}
		d := m.Dump()
		for _, v := range d.Verts {
			knots, faces, ok := holdRing(t, m, v.No)
			if want := cornersAt(d, v.No); !ok || len(knots) != want || len(faces) != want {
				t.Fatalf("%d of %v: %v %v %v", v.No, d, knots, faces, ok)
			}
		}
	}
	for _, k := range []int{1, 2, 3, 5} {
		hold(grid(t, k, 6))
	}
	for _, k := range []int{1, 2, 7, 1 << 20} {
		hold(strip(t, 3, 1, k))
		hold(strip(t, 3, k, k))
	}
	for seed := range int64(60) {
		r := rand.New(rand.NewSource(seed))
		side := []int64{1, 2, 3, 10, 100, api.MaxSide}[seed%6]
		hold(delaunay(t, side, someSites(r, side, 1+r.Intn(12)), r))
		hold(scrambled(t, r, 1+r.Intn(3), 10))
	}
}

// P13.5: in Delaunay meshes with small circles, of several sites and sides, each vertex.
func TestDelaunaySmall(t *testing.T) {
	taken := 0
	for seed := range int64(12) {
		r := rand.New(rand.NewSource(seed))
		side := []int64{12, 40, 1000, 1 << 30, api.MaxSide - 1, api.MaxSide}[seed%6]
		m := delaunay(t, side, someSites(r, side, 30+r.Intn(20)), r)
		if !allSmall(m) {
			continue
		}
		w := copied(t, m)
		for v := range m.Dump().Verts {
			n := copied(t, w)
			if !holdRemove(t, n, copied(t, w), v) {
				t.Fatal(side, v)
			}
			if v%5 == 0 {
				isDelaunay(t, n)
			}
			taken++
		}
	}
	if taken < 100 {
		t.Fatal("taken but", taken)
	}
}

// P13.5: vertex after vertex, as long as circles are small, from grids on, where ties are many.
func TestDelaunayAgain(t *testing.T) {
	for _, x := range []struct {
		k   int
		gap int64
	}{{3, 2}, {4, 6}, {6, 2}, {6, 20}, {6, api.MaxSide / 6}} {
		r := rand.New(rand.NewSource(x.gap))
		m, w := grid(t, x.k, x.gap), grid(t, x.k, x.gap)
		taken := 0
		for ; allSmall(m); taken++ {
			verts := m.Dump().Verts
			if !holdRemove(t, m, w, verts[r.Intn(len(verts))].No) {
				t.Fatal(x, taken)
			}
			isDelaunay(t, m)
		}
		if taken < x.k*x.k/12 {
			t.Fatal(x, taken)
		}
	}
}

// P13.5: nine of each site on three sides: few sites, whose circles are great against their own side.
func TestDelaunayNine(t *testing.T) {
	for seed := range int64(40) {
		r := rand.New(rand.NewSource(seed))
		side := []int64{1, 2, 5, 12, 1000, api.MaxSide / 3}[seed%6]
		sites := someSites(r, side, 1+r.Intn(4))
		m := delaunay(t, 3*side, nine(side, sites), r)
		for range 4 {
			n, v := copied(t, m), r.Intn(9*len(sites))
			if !holdRemove(t, n, copied(t, m), v) {
				t.Fatal(side, sites, v)
			}
			isDelaunay(t, n)
		}
	}
}

// P13.5: nine of each of sites on lines, lattices and circles: each vertex.
func TestDelaunayNineTies(t *testing.T) {
	line, slope := []api.Point{}, []api.Point{}
	for i := range int64(4) {
		line = append(line, at(3*i, 5))
		slope = append(slope, at(3*i, 3*i))
	}
	var round []api.Point
	for _, p := range circle(25) {
		round = append(round, at(p.X+6, p.Y+6))
	}
	for i, sites := range [][]api.Point{line, slope, round, {at(0, 0)}, {at(0, 0), at(6, 6)}, {at(0, 0), at(6, 0)}, {at(0, 0), at(1, 0)}, {at(0, 0), at(4, 0), at(8, 0), at(0, 6)}} {
		m := delaunay(t, 36, nine(12, sites), rand.New(rand.NewSource(int64(i))))
		for v := range m.Dump().Verts {
			n := copied(t, m)
			if !holdRemove(t, n, copied(t, m), v) {
				t.Fatal(sites, v)
			}
			if v%13 == 0 {
				isDelaunay(t, n)
			}
		}
	}
}

// P13.3: in Delaunay meshes of few sites on one sheet circles are great: where the vertex can go Check is right behind it, and where not nothing is changed, down to the last one.
func TestRemoveAll(t *testing.T) {
	taken, not := 0, 0
	for seed := range int64(80) {
		r := rand.New(rand.NewSource(seed))
		side := []int64{2, 3, 4, 20, 1 << 20, api.MaxSide}[seed%6]
		m := delaunay(t, side, someSites(r, side, 1+r.Intn(8)), r)
		w := copied(t, m)
		for _, v := range r.Perm(len(m.Dump().Verts)) {
			if holdRemove(t, m, w, v) {
				taken++
			} else {
				not++
			}
			if m.Check() != api.OK {
				t.Fatal(m.Dump())
			}
		}
	}
	if taken < 80 || not < 80 {
		t.Fatal(taken, not)
	}
}

// Memory: l and its spare room are not changed; what is answered is new memory, its spare room too.
func TestMemory(t *testing.T) {
	room := []api.Point{at(0, 0), at(10, 0), at(20, 5), at(5, 7), at(-10, 5), at(77, 77), at(78, 78)}
	kept := slices.Clone(room)
	a, _ := hole.Fill(room[:5])
	b, _ := hole.Fill(room[:5])
	if !slices.Equal(room, kept) {
		t.Fatal(room)
	}
	for i := range a[:cap(a)] {
		a[:cap(a)][i] = [3]int{-9, -9, -9}
	}
	if !slices.Equal(b, [][3]int{{0, 1, 3}, {1, 2, 3}, {3, 4, 0}}) || !slices.Equal(room, kept) {
		t.Fatal(b, room)
	}
	m := grid(t, 3, 4)
	d := m.Dump()
	knots, faces, _ := hole.Ring(m, 4)
	plan, _ := hole.Plan(m, 4)
	for i := range knots[:cap(knots)] {
		knots[:cap(knots)][i] = knot(-9, 9, 9)
	}
	for i := range faces[:cap(faces)] {
		faces[:cap(faces)][i] = -9
	}
	for i := range plan[:cap(plan)] {
		plan[:cap(plan)][i] = flat(-9, -9, -9)
	}
	same(t, m, d)
	w := grid(t, 3, 4)
	if !holdRemove(t, m, w, 4) {
		t.Fatal("not taken")
	}
	put, _ := hole.Remove(m, 8)
	hole.Remove(w, 8)
	for i := range put[:cap(put)] {
		put[:cap(put)][i] = -9
	}
	same(t, m, w.Dump())
}

// Ends: a mesh that New didn't make has no vertices, and nothing panics.
func TestZeroMesh(t *testing.T) {
	var m mesh.Mesh
	hole.Ring(&m, 0)
	hole.Plan(&m, 0)
	hole.Remove(&m, 0)
}

// FuzzAll: any sites, any vertex, any corners: Ring, Fill, Plan and Remove are as the words say (P13.1 to P13.6).
func FuzzAll(f *testing.F) {
	f.Add(int64(10), []byte{0, 0}, 0, false)
	f.Add(int64(12), []byte{1, 1, 5, 1, 9, 1, 1, 5, 5, 5, 9, 5, 1, 9, 5, 9, 9, 9}, 4, false)
	f.Add(int64(5), []byte{1, 2, 3, 4, 0, 0}, 7, true)
	f.Fuzz(func(t *testing.T, side int64, raw []byte, v int, many bool) {
		if side < 1 || side > 40 {
			side = 9
		}
		var corners, sites []api.Point
		for i := 0; i+1 < len(raw) && i < 24; i += 2 {
			corners = append(corners, at(int64(int8(raw[i])), int64(int8(raw[i+1]))))
			if p := at(int64(raw[i])%side, int64(raw[i+1])%side); !slices.Contains(sites, p) {
				sites = append(sites, p)
			}
		}
		holdFill(t, corners)
		if len(sites) == 0 {
			sites = []api.Point{at(0, 0)}
		}
		if many {
			sites = sites[:min(len(sites), 5)]
			side, sites = 3*side, nine(side, sites)
		}
		m := delaunay(t, side, sites, rand.New(rand.NewSource(int64(v))))
		if knots, _, ok := holdRing(t, m, v); ok && len(knots) != cornersAt(m.Dump(), v) {
			t.Fatal(knots)
		}
		again := many || allSmall(m)
		if holdRemove(t, m, copied(t, m), v) {
			if again {
				isDelaunay(t, m)
			}
			if m.Check() != api.OK {
				t.Fatal(m.Dump())
			}
		}
	})
}
