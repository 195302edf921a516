package star_test

import (
	"math"
	"math/rand"
	"slices"
	"testing"

	"zellige/api"
	"zellige/lift"
	"zellige/mesh"
	"zellige/star"
	"zellige/tie"
)

// strange are numbers that no mesh of these tests ever lends.
func strange() []int {
	return []int{-1, -2, -3, math.MinInt32, math.MinInt, math.MinInt + 1, 1 << 20, math.MaxInt32, 1 << 32, math.MaxInt - 1, math.MaxInt}
}

// The chapter's example: a point within one of two faces does away with both of them, each twice, so that it can't be put.
func TestExample(t *testing.T) {
	m := one(t, 10)
	want := []api.Hit{hit(0, -1, 0), hit(1, -1, 0), hit(0, 0, 0), hit(1, 0, 0)}
	if got := holdHits(t, m, 0, off(0, 0), at(1, 5)); !slices.Equal(got, want) {
		t.Fatal(got)
	}
	refused(t, m, one(t, 10), 0, off(0, 0), at(1, 5))
	// A point near enough to a corner has none of the other circles about it, and can be put.
	put := 0
	for x := range int64(10) {
		for y := range int64(10) {
			p := at(x, y)
			all := holdAll(t, m, p)
			for _, h := range all {
				if !slices.Equal(holdHits(t, m, h.Face, h.By, p), all) {
					t.Fatal(p)
				}
				if twice(all) {
					refused(t, m, one(t, 10), h.Face, h.By, p)
					continue
				}
				n := one(t, 10)
				if !holdInsert(t, n, one(t, 10), h.Face, h.By, p, 3) || n.Check() != api.OK {
					t.Fatal(p)
				}
				put++
			}
		}
	}
	if put == 0 {
		t.Fatal("none is put")
	}
}

// P12.1: in a grid, a point within one face does away with both halves of its square, from whichever it is begun, and with none elsewhere.
func TestHitsGrid(t *testing.T) {
	m := grid(t, 4, 4)
	for f := range 32 {
		want := []api.Hit(nil)
		if f == 10 || f == 11 {
			want = []api.Hit{hit(10, 0, 0), hit(11, 0, 0)}
		}
		for _, p := range []api.Point{at(6, 6), at(8, 7), at(7, 7)} {
			if got := holdHits(t, m, f, off(0, 0), p); !slices.Equal(got, want) {
				t.Errorf("Hits(%d, %v): %v, not %v", f, p, got, want)
			}
		}
	}
}

// P12.1: none, if p does not do away with f, though it does away with others, with its neighbours, and with f itself, moved otherwise.
func TestHitsNotThis(t *testing.T) {
	m := grid(t, 4, 4)
	for _, by := range []api.Off{off(1, 0), off(0, 1), off(-1, 0), off(0, -1), off(1, 1), off(-7, 9)} {
		if got := holdHits(t, m, 10, by, at(6, 6)); len(got) != 0 {
			t.Error(by, got)
		}
	}
	for _, f := range []int{8, 9, 12, 13, 2, 3, 18, 19} {
		if got := star.Hits(m, f, off(0, 0), at(6, 6)); len(got) != 0 {
			t.Error(f, got)
		}
	}
}

// P12.1: none, if there is no such face: a number that is no face's, was one's, of an empty mesh, of a nil mesh.
func TestHitsNoFace(t *testing.T) {
	m := grid(t, 3, 4)
	m.DropFace(0)
	w := grid(t, 3, 4)
	w.DropFace(0)
	for _, f := range append(strange(), 0, 18, 19) {
		if got := star.Hits(m, f, off(0, 0), at(2, 2)); len(got) != 0 {
			t.Error(f, got)
		}
		refused(t, m, w, f, off(0, 0), at(2, 2))
		for _, empty := range []*mesh.Mesh{nil, mesh.New(3)} {
			if got := star.Hits(empty, f, off(0, 0), at(0, 0)); len(got) != 0 {
				t.Error(f, got)
			}
			if v, faces, ok := star.Insert(empty, f, off(0, 0), at(0, 0), 5); v != -1 || len(faces) != 0 || ok {
				t.Error(v, faces, ok)
			}
			if rim := star.Rim(empty, []api.Hit{hit(f, 0, 0), hit(0, 1, 2)}); len(rim) != 0 {
				t.Error(rim)
			}
		}
	}
}

// P12.1: a point on a corner does away with none; on an edge with the faces on both sides; on a circle as the points' order says; far outside with none.
func TestHitsWhere(t *testing.T) {
	m := grid(t, 4, 4)
	for f := range 32 {
		for _, p := range []api.Point{at(5, 5), at(9, 5), at(5, 9), at(9, 9), at(21, 5), at(-11, 25)} {
			if got := holdHits(t, m, f, off(0, 0), p); len(got) != 0 {
				t.Error(f, p, got)
			}
		}
	}
	// On an edge between two squares both halves of both are done away with, on a diagonal both halves of one.
	if got := holdHits(t, m, 10, off(0, 0), at(7, 5)); !slices.Equal(got, []api.Hit{hit(8, 0, 0), hit(9, 0, 0), hit(10, 0, 0), hit(11, 0, 0)}) {
		t.Error(got)
	}
	if got := holdHits(t, m, 9, off(0, 0), at(6, 5)); !slices.Equal(got, []api.Hit{hit(8, 0, 0), hit(9, 0, 0), hit(10, 0, 0), hit(11, 0, 0)}) {
		t.Error(got)
	}
	if got := holdHits(t, m, 11, off(0, 0), at(7, 7)); !slices.Equal(got, []api.Hit{hit(10, 0, 0), hit(11, 0, 0)}) {
		t.Error(got)
	}
	for _, p := range []api.Point{at(7, 107), at(-300, 7), at(end, end), at(-end, 0), at(end+1, 7), at(7, -end-1), at(math.MaxInt64, math.MinInt64)} {
		for f := range 32 {
			if got := holdHits(t, m, f, off(0, 0), p); len(got) != 0 {
				t.Error(f, p, got)
			}
		}
	}
	// One triangle: the fourth point of its circle does away with it, or not, by their order alone.
	c := build(t, 100, []api.Point{at(45, 50), at(55, 50), at(50, 55)}, flat(0, 1, 2))
	for _, x := range []struct {
		p    api.Point
		want bool
	}{
		{at(50, 45), true}, {at(54, 47), true}, {at(46, 47), true}, {at(47, 46), true},
		{at(53, 54), true}, {at(54, 53), true}, {at(47, 54), false}, {at(46, 53), false},
		{at(50, 44), false}, {at(50, 46), true}, {at(55, 51), false}, {at(45, 51), false}, {at(45, 50), false}, {at(55, 50), false}, {at(50, 50), true},
	} {
		if got := holdHits(t, c, 0, off(0, 0), x.p); (len(got) == 1) != x.want {
			t.Error(x.p, got)
		}
	}
	// Of four points on a circle the last one is a trifle farther out.
	e := build(t, 100, []api.Point{at(45, 50), at(50, 45), at(50, 55)}, flat(0, 1, 2))
	if got := holdHits(t, e, 0, off(0, 0), at(55, 50)); len(got) != 0 {
		t.Error(got)
	}
	if got := holdHits(t, e, 0, off(0, 0), at(54, 50)); len(got) != 1 {
		t.Error(got)
	}
}

// P12.1: Hits of a point that is moved by whole sides, from the face that is moved so, are moved so, too; up to the ends of what can be.
func TestHitsMoved(t *testing.T) {
	for _, side := range []int64{12, 3 << 20, 3 << 32} {
		m := grid(t, 3, side/3)
		p := at(side/6, side/6+1)
		home := holdHits(t, m, 0, off(0, 0), p)
		if len(home) < 2 {
			t.Fatal(home)
		}
		most := int(end/side) - 1
		for _, by := range []api.Off{off(1, 0), off(0, 1), off(-1, -1), off(5, -8), off(most, most), off(-most, most), off(0, -most), off(most-1, 0)} {
			q, ok := lift.At(p, by, side)
			if !ok {
				t.Fatal(side, by)
			}
			var want []api.Hit
			for _, h := range home {
				want = append(want, api.Hit{Face: h.Face, By: plus(h.By, by)})
			}
			if got := holdHits(t, m, 0, by, q); !slices.Equal(got, want) {
				t.Fatalf("side %d: %v by %v: %v, not %v", side, q, by, got, want)
			}
			if len(holdHits(t, m, 0, off(0, 0), q)) != 0 && by != off(0, 0) {
				t.Fatal(by)
			}
			w := grid(t, 3, side/3)
			n := copied(t, w)
			if !holdInsert(t, n, w, 0, by, q, 7) || n.Check() != api.OK {
				t.Fatal(side, by)
			}
			if v, _ := n.Vert(9); v != (api.Vert{No: 9, At: p, ID: 7}) {
				t.Fatal(v)
			}
		}
	}
}

// P12.1: a face that can't be moved so far is done away with by no point, not even by one of where it would come to, modulo whatever.
func TestHitsTooFar(t *testing.T) {
	for _, side := range []int64{1, 2, 12, 1 << 34} {
		m := one(t, side)
		ends := []int{math.MinInt, math.MinInt + 1, -1 << 62, -1<<41 - 1, 1<<41 + 1, 1 << 62, math.MaxInt - 1, math.MaxInt, int(end/side) + 1, -int(end/side) - 1}
		for _, far := range ends {
			for _, by := range []api.Off{off(far, 0), off(0, far), off(far, far)} {
				for _, p := range []api.Point{at(0, 0), at(side/2, side/2), at(end, end), at(-end, -end), at(end, side/2), at(side/2, -end)} {
					for f := range 2 {
						if got := star.Hits(m, f, by, p); len(got) != 0 {
							t.Fatalf("side %d: Hits(%d, %v, %v): %v", side, f, by, p, got)
						}
						refused(t, m, one(t, side), f, by, p)
					}
				}
			}
		}
	}
	// The last place that can be, and the first one that can't, where a face of corners far off goes just up to the end.
	m := build(t, 1<<34, []api.Point{at(0, 0), at(1<<33, 0), at(0, 1<<33)}, flat(0, 1, 2))
	for _, x := range []struct {
		by   api.Off
		p    api.Point
		want int
	}{
		{off(63, 0), at(end-1<<33, 1), 1}, {off(64, 0), at(end, 1), 0}, {off(-64, -64), at(1-end, 1-end), 1}, {off(-65, 0), at(-end, 1), 0},
		{off(0, 63), at(1, end-1<<33), 1}, {off(0, 64), at(1, end), 0}, {off(0, -65), at(1, -end), 0},
	} {
		if got := holdHits(t, m, 0, x.by, x.p); len(got) != x.want {
			t.Error(x.by, x.p, got)
		}
	}
}

// P12.1: a face only one or two corners of which go beyond is done away with by no point, not even if noughts stood in their place.
func TestHitsPartlyTooFar(t *testing.T) {
	r := rand.New(rand.NewSource(12))
	side, tried := int64(1<<34), 0
	for range 400 {
		verts := someSites(r, side, 3)
		m := mesh.New(side)
		for _, p := range verts {
			m.AddVert(p, 0)
		}
		if _, e := m.AddFace(tri(0, 1, 2, off(r.Intn(3), r.Intn(3)), off(r.Intn(3), r.Intn(3)), off(r.Intn(3), r.Intn(3)))); e != api.OK {
			continue
		}
		d := m.Dump()
		for _, by := range []api.Off{off(62, 0), off(63, 0), off(-65, 0), off(-66, 0), off(0, 62), off(0, 63), off(0, -65), off(0, -66), off(62, 63)} {
			var noughts [3]api.Point
			beyond := 0
			for i := range noughts {
				if q, can := corner(d, d.Faces[0].Tri, i, by); can {
					noughts[i] = q
				} else {
					beyond++
				}
			}
			middle := at((noughts[0].X+noughts[1].X+noughts[2].X)/3, (noughts[0].Y+noughts[1].Y+noughts[2].Y)/3)
			if beyond == 0 || !tie.Conflict(noughts[0], noughts[1], noughts[2], middle) {
				continue
			}
			tried++
			if got := holdHits(t, m, 0, by, middle); len(got) != 0 {
				t.Fatal(d, by, middle, got)
			}
		}
	}
	if tried < 20 {
		t.Fatal("tried but", tried)
	}
}

// P12.1: at the ends of what can be those faces are left out that would go beyond.
func TestHitsAtTheEnds(t *testing.T) {
	cut := 0
	for _, side := range []int64{4, 1 << 20, 1 << 34} {
		m := one(t, side)
		most := int(end / side)
		for _, x := range []int{-most, -most + 1, 0, most - 2, most - 1} {
			for _, y := range []int{-most, 0, most - 1} {
				for _, in := range []api.Point{at(0, 1), at(side/2, side/4), at(side-1, side/2)} {
					p, ok := lift.At(in, off(x, y), side)
					if !ok {
						t.Fatal(side, x, y)
					}
					free := star.Hits(m, 0, off(0, 0), in)
					got := holdHits(t, m, 0, off(x, y), p)
					if len(free) == 0 || len(got) == 0 || len(got) > len(free) {
						t.Fatal(side, p, got, free)
					}
					if len(got) < len(free) {
						cut++
					}
				}
			}
		}
	}
	if cut < 10 {
		t.Fatal("cut off but", cut, "times")
	}
}

// strip are the halves of a square that goes so many sides to the right and up from one vertex: they close up, and lie over the torus many times.
func strip(t *testing.T, side int64, right, up int) *mesh.Mesh {
	t.Helper()
	return build(t, side, []api.Point{at(0, 0)},
		tri(0, 0, 0, off(0, 0), off(right, 0), off(0, up)), tri(0, 0, 0, off(right, 0), off(right, up), off(0, up)))
}

// P12.1: circles that go over many squares: one face is told many times, each time moved otherwise, in order, each once.
func TestHitsManySquares(t *testing.T) {
	most := 0
	for _, k := range []int{1, 2, 3, 8, 25} {
		for _, side := range []int64{1, 3, 1 << 20} {
			for _, m := range []*mesh.Mesh{strip(t, side, 1, k), strip(t, side, k, 1), strip(t, side, k, k+1)} {
				half := int64(k) * side / 2
				for _, p := range []api.Point{at(side/2, half), at(half, side/3), at(side-1, 0), at(half, half), at(half/2, side+half/3)} {
					for f := range 2 {
						got := holdHits(t, m, f, off(0, 0), p)
						most = max(most, len(got))
						if !slices.IsSortedFunc(got, cmpHit) || len(slices.Compact(slices.Clone(got))) != len(got) {
							t.Fatal(got)
						}
						if twice(got) {
							refused(t, m, copied(t, m), f, off(0, 0), p)
						}
					}
				}
			}
		}
	}
	if most < 50 {
		t.Fatal("at most", most)
	}
}

// cmpHit is P12.1's order.
func cmpHit(a, b api.Hit) int {
	if slices.Equal(inOrder([]api.Hit{b, a}), []api.Hit{b, a}) {
		return 1
	}
	return -1
}

// P12.1: where a mesh is not closed, going across comes to an end: what lies behind is not told.
func TestHitsOpen(t *testing.T) {
	// A row of halves of high narrow squares, all of whose circles have p within.
	row := func() *mesh.Mesh {
		var verts []api.Point
		var faces []api.Tri
		for i := range 6 {
			verts = append(verts, at(int64(10*i)+20, 10), at(int64(10*i)+20, 60))
		}
		for i := range 5 {
			a := 2 * i
			faces = append(faces, flat(a, a+2, a+1), flat(a+2, a+3, a+1))
		}
		return build(t, 100, verts, faces...)
	}
	m := row()
	p := at(42, 31)
	all := holdHits(t, m, 6, off(0, 0), p)
	if len(all) != 10 {
		t.Fatal(all)
	}
	for gone := range 10 {
		m := row()
		m.DropFace(gone)
		left := holdHits(t, m, 0, off(0, 0), p)
		right := holdHits(t, m, 9, off(0, 0), p)
		if len(left) != gone || len(right) != 9-gone {
			t.Fatal(gone, left, right)
		}
		if len(holdHits(t, m, gone, off(0, 0), p)) != 0 {
			t.Fatal(gone)
		}
	}
	// A face alone.
	single := build(t, 100, []api.Point{at(10, 10), at(40, 10), at(10, 40)}, flat(0, 1, 2))
	if got := holdHits(t, single, 0, off(0, 0), at(20, 20)); !slices.Equal(got, []api.Hit{hit(0, 0, 0)}) {
		t.Fatal(got)
	}
	if got := holdHits(t, single, 0, off(-3, 2), at(-280, 220)); !slices.Equal(got, []api.Hit{hit(0, -3, 2)}) {
		t.Fatal(got)
	}
}

// P12.1: in a mesh that is no Delaunay mesh some that p does away with can't be come to: they are not told.
func TestHitsNotCome(t *testing.T) {
	// The circle of a flat face goes over all that lies above it; that of the face across does not.
	verts := []api.Point{at(100, 500), at(500, 490), at(900, 500), at(500, 560), at(500, 700), at(520, 720), at(480, 720)}
	m := build(t, 1000, verts, flat(0, 1, 2), flat(0, 2, 3), flat(4, 5, 6))
	p := at(500, 710)
	for f := range 3 {
		got := holdHits(t, m, f, off(0, 0), p)
		if f == 1 && len(got) != 0 || f != 1 && !slices.Equal(got, []api.Hit{hit(f, 0, 0)}) {
			t.Fatal(f, got)
		}
	}
	// In closed meshes without order: what is told from two faces is the same, or has none in common.
	apart := 0
	for seed := range int64(30) {
		r := rand.New(rand.NewSource(seed))
		m := scrambled(t, r)
		for range 4 {
			p := at(r.Int63n(m.Side()), r.Int63n(m.Side()))
			all := allNear(m, p)
			parts := map[api.Hit]int{}
			for _, h := range all {
				got := holdHits(t, m, h.Face, h.By, p)
				for _, g := range got {
					if n, ok := parts[g]; ok && n != len(got) {
						t.Fatal(got)
					}
					parts[g] = len(got)
				}
				if len(got) < len(all) {
					apart++
				}
			}
		}
	}
	if apart < 100 {
		t.Fatal("apart but", apart, "times")
	}
}

// scrambled is a closed mesh that is no Delaunay mesh: a grid into whose faces vertices were put, without any look at circles.
func scrambled(t *testing.T, r *rand.Rand) *mesh.Mesh {
	t.Helper()
	m := grid(t, 3, 40000)
	for range 8 {
		cells := m.Dump().Faces
		c := cells[r.Intn(len(cells))]
		var sum api.Point
		for i := range 3 {
			q, _ := m.Corner(c.No, i)
			sum = at(sum.X+q.X, sum.Y+q.Y)
		}
		home, o, _ := lift.Home(at(sum.X/3, sum.Y/3), m.Side())
		v := m.AddVert(home, 0)
		m.DropFace(c.No)
		for i := range 3 {
			k := (i + 1) % 3
			if _, e := m.AddFace(tri(c.Tri.V[i], c.Tri.V[k], v, c.Tri.Off[i], c.Tri.Off[k], o)); e != api.OK {
				t.Fatal(e)
			}
		}
	}
	if m.Check() != api.OK {
		t.Fatal("no mesh")
	}
	return m
}

// allNear are moved faces that p does away with, moved by at most one side.
func allNear(m *mesh.Mesh, p api.Point) []api.Hit {
	d := m.Dump()
	var list []api.Hit
	for _, c := range d.Faces {
		for x := -1; x <= 1; x++ {
			for y := -1; y <= 1; y++ {
				if conflicts(d, c.Tri, off(x, y), p) {
					list = append(list, hit(c.No, x, y))
				}
			}
		}
	}
	return list
}

// fan is so many faces at one vertex, side by side, all of whose circles have the point within.
func fan(t *testing.T, many int) (*mesh.Mesh, api.Point) {
	t.Helper()
	verts := []api.Point{at(0, 0)}
	var faces []api.Tri
	for x := range many + 1 {
		verts = append(verts, at(int64(x), 1<<30))
		if x > 0 {
			faces = append(faces, flat(0, x+1, x))
		}
	}
	return build(t, api.MaxSide, verts, faces...), at(1, 1<<29)
}

// P12.1: 100000 are told, 100001 are none; so it is with Insert, which puts two faces more than it drops.
func TestMaxHits(t *testing.T) {
	m, p := fan(t, 100000)
	for _, f := range []int{0, 50000, 99999} {
		got := star.Hits(m, f, off(0, 0), p)
		if len(got) != 100000 {
			t.Fatal(len(got))
		}
		for i, h := range got {
			if h != hit(i, 0, 0) {
				t.Fatal(i, h)
			}
		}
		if rim := star.Rim(m, got); len(rim) != 100002 {
			t.Fatal(len(rim))
		}
	}
	more, q := fan(t, 100001)
	for _, f := range []int{0, 50000, 100000} {
		if got := star.Hits(more, f, off(0, 0), q); len(got) != 0 {
			t.Fatal(len(got))
		}
		if v, faces, ok := star.Insert(more, f, off(0, 0), q, 1); v != -1 || len(faces) != 0 || ok {
			t.Fatal(v, len(faces), ok)
		}
	}
	if d := more.Dump(); len(d.Verts) != 100003 || len(d.Faces) != 100001 {
		t.Fatal(len(d.Verts), len(d.Faces))
	}
	v, faces, ok := star.Insert(m, 7, off(0, 0), p, 1)
	if v != 100002 || len(faces) != 100002 || !ok || len(m.Dump().Faces) != 100002 {
		t.Fatal(v, len(faces), ok)
	}
	// The number that came back last is lent first; two were never lent.
	for i, f := range faces {
		if want := 99999 - i; i < 100000 && f != want || i >= 100000 && f != i {
			t.Fatal(i, f)
		}
	}
}

// P12.1: two faces, told again and again over more squares than MaxHits allows: it ends, with none; where they are fewer, all are told.
func TestTooManySquares(t *testing.T) {
	for _, k := range []int{1000, 50000} {
		m := strip(t, 1, 1, k)
		got := star.Hits(m, 0, off(0, 0), at(0, int64(k/2)))
		if len(got) != 2*k {
			t.Fatal(k, len(got))
		}
		for i, h := range got {
			if h != hit(i%2, i/2-k/2, 0) {
				t.Fatal(k, i, h)
			}
		}
	}
	for _, k := range []int{50002, 1 << 20, 1 << 38} {
		for _, m := range []*mesh.Mesh{strip(t, 1, 1, k), strip(t, 1, k, 1)} {
			p := at(int64(k/2), 0)
			if u, _ := m.Face(0); u.Off[1].X == 1 {
				p = at(0, int64(k/2))
			}
			if got := star.Hits(m, 0, off(0, 0), p); len(got) != 0 {
				t.Fatal(k, len(got))
			}
			if v, faces, ok := star.Insert(m, 0, off(0, 0), p, 0); v != -1 || len(faces) != 0 || ok {
				t.Fatal(v, faces, ok)
			}
		}
	}
}

// P12.2: of no faces none; of one its three edges, from knot to knot, moved; of two that meet all but those in common.
func TestRim(t *testing.T) {
	m := grid(t, 3, 4)
	if got := star.Rim(m, nil); len(got) != 0 {
		t.Fatal(got)
	}
	if got := star.Rim(m, []api.Hit{}); len(got) != 0 {
		t.Fatal(got)
	}
	k := func(v, x, y int) api.Knot { return api.Knot{V: v, Off: off(x, y)} }
	for _, x := range []struct {
		name string
		l    []api.Hit
		want [][2]api.Knot
	}{
		{"one", []api.Hit{hit(0, 0, 0)}, [][2]api.Knot{{k(0, 0, 0), k(3, 0, 0)}, {k(3, 0, 0), k(1, 0, 0)}, {k(1, 0, 0), k(0, 0, 0)}}},
		{"one moved", []api.Hit{hit(0, -2, 5)}, [][2]api.Knot{{k(0, -2, 5), k(3, -2, 5)}, {k(3, -2, 5), k(1, -2, 5)}, {k(1, -2, 5), k(0, -2, 5)}}},
		{"one that goes beyond the side", []api.Hit{hit(17, 0, 0)}, [][2]api.Knot{{k(2, 1, 0), k(0, 1, 1)}, {k(0, 1, 1), k(6, 0, 1)}, {k(6, 0, 1), k(2, 1, 0)}}},
		{"two", []api.Hit{hit(0, 0, 0), hit(1, 0, 0)}, [][2]api.Knot{{k(0, 0, 0), k(3, 0, 0)}, {k(1, 0, 0), k(0, 0, 0)}, {k(3, 0, 0), k(4, 0, 0)}, {k(4, 0, 0), k(1, 0, 0)}}},
		{"two turned about", []api.Hit{hit(1, 0, 0), hit(0, 0, 0)}, [][2]api.Knot{{k(3, 0, 0), k(4, 0, 0)}, {k(4, 0, 0), k(1, 0, 0)}, {k(0, 0, 0), k(3, 0, 0)}, {k(1, 0, 0), k(0, 0, 0)}}},
		{"two that meet across the side", []api.Hit{hit(17, 0, 0), hit(2, 1, 1)}, [][2]api.Knot{{k(2, 1, 0), k(0, 1, 1)}, {k(0, 1, 1), k(6, 0, 1)}, {k(6, 0, 1), k(2, 1, 0)}, {k(1, 1, 1), k(4, 1, 1)}, {k(4, 1, 1), k(2, 1, 1)}, {k(2, 1, 1), k(1, 1, 1)}}},
		{"the same two faces, moved otherwise: they don't meet", []api.Hit{hit(0, 0, 0), hit(1, 1, 0)}, [][2]api.Knot{
			{k(0, 0, 0), k(3, 0, 0)}, {k(3, 0, 0), k(1, 0, 0)}, {k(1, 0, 0), k(0, 0, 0)}, {k(3, 1, 0), k(4, 1, 0)}, {k(4, 1, 0), k(1, 1, 0)}, {k(1, 1, 0), k(3, 1, 0)}}},
		{"one twice, moved otherwise", []api.Hit{hit(0, 1, 0), hit(0, 0, 0)}, [][2]api.Knot{
			{k(0, 1, 0), k(3, 1, 0)}, {k(3, 1, 0), k(1, 1, 0)}, {k(1, 1, 0), k(0, 1, 0)}, {k(0, 0, 0), k(3, 0, 0)}, {k(3, 0, 0), k(1, 0, 0)}, {k(1, 0, 0), k(0, 0, 0)}}},
		{"those that are not there have no edges", []api.Hit{hit(99, 0, 0), hit(0, 0, 0), hit(-1, 0, 0), hit(18, 1, 1)}, [][2]api.Knot{{k(0, 0, 0), k(3, 0, 0)}, {k(3, 0, 0), k(1, 0, 0)}, {k(1, 0, 0), k(0, 0, 0)}}},
		{"none of them is there", []api.Hit{hit(99, 0, 0), hit(-1, 3, 0)}, nil},
	} {
		if got := holdRim(t, m, x.l); !slices.Equal(got, x.want) {
			t.Errorf("%s: %v, not %v", x.name, got, x.want)
		}
	}
}

// P12.2: a face that is twice in the list, moved alike, has its edges told twice, in the list's order.
func TestRimAlike(t *testing.T) {
	m := grid(t, 3, 4)
	two := star.Rim(m, []api.Hit{hit(0, 0, 0), hit(1, 0, 0)})
	got := holdRim(t, m, []api.Hit{hit(0, 0, 0), hit(1, 0, 0), hit(0, 0, 0)})
	if want := append(slices.Clone(two), two[:2]...); !slices.Equal(got, want) {
		t.Fatalf("%v, not %v", got, want)
	}
}

// P12.2: an edge across from which there is no face counts, also if the list has faces that are not there.
func TestRimOpen(t *testing.T) {
	m := build(t, 100, []api.Point{at(10, 10), at(40, 10), at(10, 40), at(40, 40)}, flat(0, 1, 2), flat(2, 1, 3))
	for _, l := range [][]api.Hit{
		{hit(0, 0, 0)}, {hit(1, 0, 0)}, {hit(0, 0, 0), hit(1, 0, 0)}, {hit(1, 4, 4), hit(0, 4, 4)}, {hit(0, 0, 0), hit(1, 0, 1)},
		{hit(-1, 0, 0), hit(0, 0, 0)}, {hit(0, 0, 0), hit(-1, 0, 0), hit(2, 0, 0)}, {hit(0, 2, 2), hit(-1, 2, 2)},
	} {
		holdRim(t, m, l)
	}
	if got := star.Rim(m, []api.Hit{hit(0, 0, 0), hit(-1, 0, 0), hit(2, 0, 0)}); len(got) != 3 {
		t.Fatal(got)
	}
	if got := star.Rim(m, []api.Hit{hit(0, 0, 0), hit(1, 0, 0)}); len(got) != 4 {
		t.Fatal(got)
	}
	// The face 0, not moved, is what a place that is no face's might be taken for.
	n := build(t, 100, []api.Point{at(10, 10), at(40, 10), at(10, 40), at(60, 60), at(80, 60), at(60, 80)}, flat(0, 1, 2), flat(3, 4, 5))
	if got := holdRim(t, n, []api.Hit{hit(1, 0, 0), hit(0, 0, 0)}); len(got) != 6 {
		t.Fatal(got)
	}
}

// P12.2: lists of any faces, moved anyhow, in any order, some of them twice, some not there; moved by the ends of 64 bits, too, round which offs go.
func TestRimAny(t *testing.T) {
	for seed := range int64(60) {
		r := rand.New(rand.NewSource(seed))
		m := delaunay(t, 30, someSites(r, 30, 1+r.Intn(8)), r)
		many := len(m.Dump().Faces)
		if seed%3 == 0 {
			m.DropFace(r.Intn(many))
		}
		base := off(0, 0)
		if seed%5 == 0 {
			base = off(math.MaxInt, math.MinInt)
		}
		var l []api.Hit
		for range r.Intn(20) {
			l = append(l, api.Hit{Face: r.Intn(many+2) - 1, By: plus(base, off(r.Intn(3)-1, r.Intn(3)-1))})
		}
		holdRim(t, m, l)
		holdRim(t, m, append(l, l...))
	}
}

// P12.3: numbers, places, ids and offs of what is put, in a grid, from both faces and of a point moved by sides.
func TestInsert(t *testing.T) {
	tests := []struct {
		f  int
		by api.Off
		p  api.Point
	}{
		{0, off(0, 0), at(2, 2)}, {1, off(0, 0), at(2, 2)}, {1, off(3, -2), at(38, -22)}, {0, off(-1, -1), at(-10, -10)},
	}
	for _, x := range tests {
		m := grid(t, 3, 4)
		v, faces, ok := star.Insert(m, x.f, x.by, x.p, -77)
		if v != 9 || !slices.Equal(faces, []int{1, 0, 18, 19}) || !ok || m.Check() != api.OK {
			t.Fatal(v, faces, ok)
		}
		if a, _ := m.Vert(9); a != (api.Vert{No: 9, At: at(2, 2), ID: -77}) {
			t.Fatal(a)
		}
		b := x.by
		for i, want := range []api.Tri{tri(0, 3, 9, b, b, b), tri(1, 0, 9, b, b, b), tri(3, 4, 9, b, b, b), tri(4, 1, 9, b, b, b)} {
			if got, _ := m.Face(faces[i]); got != want {
				t.Fatal(got, want)
			}
		}
		isDelaunay(t, m)
	}
	// Beyond the side: the vertex lies in the first square, and its offs say where p was.
	m := grid(t, 3, 4)
	v, faces, ok := star.Insert(m, 16, off(0, 0), at(12, 12), 3)
	if v != 9 || !slices.Equal(faces, []int{17, 16, 18, 19}) || !ok {
		t.Fatal(v, faces, ok)
	}
	if a, _ := m.Vert(9); a != (api.Vert{No: 9, At: at(0, 0), ID: 3}) {
		t.Fatal(a)
	}
	want := []api.Tri{
		tri(8, 2, 9, off(0, 0), off(1, 0), off(1, 1)), tri(6, 8, 9, off(0, 1), off(0, 0), off(1, 1)),
		tri(2, 0, 9, off(1, 0), off(1, 1), off(1, 1)), tri(0, 6, 9, off(1, 1), off(0, 1), off(1, 1)),
	}
	for i, u := range want {
		if got, _ := m.Face(faces[i]); got != u {
			t.Fatal(got, u)
		}
	}
	isDelaunay(t, m)
}

// P12.3: numbers that came back are lent again, the last one first: those of faces and of vertices dropped ahead, too.
func TestInsertNumbers(t *testing.T) {
	prepared := func() *mesh.Mesh {
		m := grid(t, 4, 4)
		for range 3 {
			m.AddVert(at(0, 0), 0)
		}
		var spare []int
		for i := range 3 {
			f, e := m.AddFace(tri(16, 17, 18, off(0, 0), off(5+i, 0), off(-i, 7)))
			if e != api.OK {
				t.Fatal(e)
			}
			spare = append(spare, f)
		}
		for _, f := range []int{1, 2, 0} {
			m.DropFace(spare[f])
		}
		for _, v := range []int{17, 16, 18} {
			m.DropVert(v)
		}
		return m
	}
	m, w := prepared(), prepared()
	v, faces, ok := star.Insert(m, 10, off(0, 0), at(6, 6), 1)
	if v != 18 || !slices.Equal(faces, []int{11, 10, 32, 34}) || !ok {
		t.Fatal(v, faces, ok)
	}
	if !holdInsert(t, prepared(), w, 10, off(0, 0), at(6, 6), 1) {
		t.Fatal("not put")
	}
	for _, p := range []api.Point{at(14, 2), at(3, 11), at(0, 0), at(10, 6)} {
		h := allHits(w, p)[0]
		if !holdInsert(t, m, w, h.Face, h.By, p, 4) || m.Check() != api.OK {
			t.Fatal(p)
		}
	}
}

// P12.3: where Hits tells none, or a corner lies at p, nothing is changed.
func TestInsertNot(t *testing.T) {
	m, w := grid(t, 4, 4), grid(t, 4, 4)
	for f := range 34 {
		for _, p := range []api.Point{at(5, 5), at(1, 1), at(21, 17), at(end, 0), at(end+1, 0), at(6, 6)} {
			if p == at(6, 6) && (f == 10 || f == 11) {
				continue
			}
			refused(t, m, w, f, off(0, 0), p)
			refused(t, m, w, f, off(0, 1), p)
		}
	}
	same(t, m, grid(t, 4, 4).Dump())
}

// P12.3: a corner lies at p, and yet Hits tells some: of a mesh whose diagonals go the other way, each face is done away with by the fourth corner of its square.
func TestInsertAtCorner(t *testing.T) {
	build := func() *mesh.Mesh {
		var verts []api.Point
		var faces []api.Tri
		knot := func(x, y int) (int, api.Off) { return x%3*3 + y%3, off(x/3, y/3) }
		for x := range 3 {
			for y := range 3 {
				verts = append(verts, at(int64(x)*4, int64(y)*4))
				a, oa := knot(x, y)
				b, ob := knot(x+1, y)
				c, oc := knot(x+1, y+1)
				d, od := knot(x, y+1)
				faces = append(faces, tri(a, b, c, oa, ob, oc), tri(a, c, d, oa, oc, od))
			}
		}
		return build(t, 12, verts, faces...)
	}
	m, w := build(), build()
	if got := holdHits(t, m, 0, off(0, 0), at(0, 4)); !slices.Equal(got, []api.Hit{hit(0, 0, 0)}) {
		t.Fatal(got)
	}
	refused(t, m, w, 0, off(0, 0), at(0, 4))
	refused(t, m, w, 1, off(0, 0), at(4, 0))
	refused(t, m, w, 1, off(1, -2), at(16, -24))
	if m.Check() != api.OK {
		t.Fatal("no mesh any more")
	}
	// Any point that is none of the corners can be put there.
	if !holdInsert(t, m, w, 0, off(0, 0), at(1, 1), 5) || m.Check() != api.OK {
		t.Fatal("not put")
	}
}

// P12.3: one face is told twice: nothing is changed, be it begun where it may.
func TestInsertTwice(t *testing.T) {
	told := 0
	for seed := range int64(20) {
		r := rand.New(rand.NewSource(seed))
		sites := someSites(r, 20, 1+r.Intn(4))
		m := delaunay(t, 20, sites, r)
		w := copied(t, m)
		for range 10 {
			p := at(r.Int63n(60)-20, r.Int63n(60)-20)
			hits := allHits(m, p)
			if !twice(hits) {
				continue
			}
			told++
			for _, h := range hits {
				refused(t, m, w, h.Face, h.By, p)
			}
		}
	}
	if told < 50 {
		t.Fatal("told twice but", told, "times")
	}
}

// P12.3: in a mesh that is not closed, a point within what is cut out can be put; where a face with an edge of the rim would turn right, there can't be one, and nothing is changed.
func TestInsertOpen(t *testing.T) {
	single := func() *mesh.Mesh {
		return build(t, 100, []api.Point{at(10, 10), at(40, 10), at(10, 40)}, flat(0, 1, 2))
	}
	m, w := single(), single()
	for _, p := range []api.Point{at(25, 25), at(30, 30), at(25, 10), at(25, 5), at(5, 25)} {
		if len(holdHits(t, m, 0, off(0, 0), p)) != 1 {
			t.Fatal(p)
		}
		refused(t, m, w, 0, off(0, 0), p)
	}
	if !holdInsert(t, m, w, 0, off(0, 0), at(20, 20), 6) || len(m.Dump().Faces) != 3 {
		t.Fatal(m.Dump())
	}
	if !holdInsert(t, m, w, 2, off(0, 0), at(15, 20), 6) {
		t.Fatal(m.Dump())
	}
}

// P12.3: meshes of any faces, open, one over the other, at small sides: Insert is done wholly, or not at all.
func TestInsertAnywhere(t *testing.T) {
	put, not := 0, 0
	for seed := range int64(150) {
		r := rand.New(rand.NewSource(seed))
		m := anyhow(t, r)
		w := copied(t, m)
		for range 12 {
			side := m.Side()
			p := at(r.Int63n(3*side)-side, r.Int63n(3*side)-side)
			for _, h := range allNear(m, p) {
				if holdInsert(t, m, w, h.Face, h.By, p, 5) {
					put++
					break
				}
				not++
			}
		}
	}
	if put < 100 || not < 100 {
		t.Fatal(put, not)
	}
}

// anyhow is a mesh of faces that were put without any look at one another.
func anyhow(t *testing.T, r *rand.Rand) *mesh.Mesh {
	t.Helper()
	m := mesh.New(2 + r.Int63n(12))
	for i := range 5 {
		m.AddVert(at(r.Int63n(m.Side()), r.Int63n(m.Side())), 100+i)
	}
	o := func() api.Off { return off(r.Intn(3)-1, r.Intn(3)-1) }
	for range 60 {
		m.AddFace(tri(r.Intn(5), r.Intn(5), r.Intn(5), o(), o(), o()))
	}
	return m
}

// P12.4 to P12.6: every set of sites of sides 1 and 2, many of side 3, each point of the first squares.
func TestSmallSides(t *testing.T) {
	put := 0
	for _, side := range []int64{1, 2, 3} {
		r := rand.New(rand.NewSource(side))
		for set := 1; set < 1<<(side*side); set++ {
			if side == 3 && set%5 != 0 {
				continue
			}
			var sites []api.Point
			for i := range side * side {
				if set>>i&1 == 1 {
					sites = append(sites, at(i/side, i%side))
				}
			}
			m := delaunay(t, side, sites, r)
			isDelaunay(t, m)
			for x := -side; x < 2*side; x++ {
				p := at(x, r.Int63n(3*side)-side)
				hits := holdAll(t, m, p)
				if len(hits) == 0 {
					continue
				}
				h := hits[r.Intn(len(hits))]
				holdHits(t, m, h.Face, h.By, p)
				n := copied(t, m)
				if holdInsert(t, n, copied(t, m), h.Face, h.By, p, 1) {
					put++
					if n.Check() != api.OK {
						t.Fatal(n.Dump())
					}
				}
			}
		}
	}
	if put < 20 {
		t.Fatal("put but", put)
	}
}

// P12.4 and P12.5: few sites and many, of small and great sides, points anywhere; Check is right behind Insert.
func TestDelaunayMeshes(t *testing.T) {
	told, put, not := 0, 0, 0
	for seed := range int64(60) {
		r := rand.New(rand.NewSource(seed))
		side := []int64{4, 7, 100, 1 << 20, api.MaxSide - 1, api.MaxSide}[seed%6]
		sites := someSites(r, side, 1+r.Intn(1+int(seed)/3))
		m := delaunay(t, side, sites, r)
		isDelaunay(t, m)
		for range 6 {
			p := at(r.Int63n(5*side)-2*side, r.Int63n(5*side)-2*side)
			hits := holdAll(t, m, p)
			if len(hits) == 0 {
				continue
			}
			told = max(told, len(hits))
			h := hits[r.Intn(len(hits))]
			holdHits(t, m, h.Face, h.By, p)
			n := copied(t, m)
			if holdInsert(t, n, copied(t, m), h.Face, h.By, p, 1) {
				put++
			} else {
				not++
			}
			if n.Check() != api.OK {
				t.Fatal(n.Dump())
			}
		}
	}
	if told < 6 || put < 30 || not < 30 {
		t.Fatal(told, put, not)
	}
}

// P12.4: sites on a line, on a lattice, on a circle: there ties are many, and circles are great.
func TestDelaunayTies(t *testing.T) {
	line, slope, circle := []api.Point{}, []api.Point{}, []api.Point{}
	for i := range int64(6) {
		line = append(line, at(2*i, 5))
		slope = append(slope, at(2*i, 2*i))
	}
	for x := int64(-5); x <= 5; x++ {
		for y := int64(-5); y <= 5; y++ {
			if x*x+y*y == 25 {
				circle = append(circle, at(x+6, y+6))
			}
		}
	}
	for i, sites := range [][]api.Point{line, slope, circle, {at(0, 0), at(6, 6)}, {at(0, 0), at(6, 0)}, {at(0, 0), at(4, 0), at(8, 0), at(0, 6)}} {
		r := rand.New(rand.NewSource(int64(i)))
		m := delaunay(t, 12, sites, r)
		isDelaunay(t, m)
		for x := range int64(12) {
			for y := range int64(12) {
				p := at(x, y)
				hits := holdAll(t, m, p)
				if len(hits) == 0 || twice(hits) {
					continue
				}
				n := copied(t, m)
				if !holdInsert(t, n, copied(t, m), hits[0].Face, hits[0].By, p, 2) || n.Check() != api.OK {
					t.Fatal(p)
				}
				if allSmall(m) {
					isDelaunay(t, n)
				}
			}
		}
	}
}

// P12.6: from grids whose circles are small on, point after point: in ties with many, on edges, anywhere; it is the Delaunay mesh again and again.
func TestDelaunayAgain(t *testing.T) {
	for _, x := range []struct {
		k   int
		gap int64
	}{{3, 2}, {3, 4}, {4, 6}, {5, 20}, {5, api.MaxSide / 5}, {3, api.MaxSide / 3}} {
		r := rand.New(rand.NewSource(x.gap))
		m := grid(t, x.k, x.gap)
		w := copied(t, m)
		if !allSmall(m) {
			t.Fatal(x)
		}
		side := m.Side()
		for step := range 40 {
			p := at(r.Int63n(3*side)-side, r.Int63n(3*side)-side)
			if half := x.gap / 2; step%3 == 0 {
				p = at(r.Int63n(int64(2*x.k))*half+1, r.Int63n(int64(2*x.k))*half+1)
			}
			hits := allHits(m, p)
			if len(hits) == 0 {
				continue
			}
			h := hits[r.Intn(len(hits))]
			if !holdInsert(t, m, w, h.Face, h.By, p, step) || m.Check() != api.OK || !allSmall(m) {
				t.Fatal(x, p)
			}
			if step%8 == 0 {
				isDelaunay(t, m)
			}
		}
		isDelaunay(t, m)
		for range 5 {
			holdAll(t, m, at(r.Int63n(3*side)-side, r.Int63n(3*side)-side))
		}
	}
}

// P12.6: many sites anywhere, each circle small; Insert of points anywhere, on sites, on middles of edges.
func TestDelaunayRandom(t *testing.T) {
	put := 0
	for seed := range int64(4) {
		r := rand.New(rand.NewSource(seed))
		side := []int64{40, 1000, 1 << 30, api.MaxSide}[seed%4]
		m := delaunay(t, side, someSites(r, side, 70), r)
		if !allSmall(m) {
			continue
		}
		w := copied(t, m)
		for step := range 12 {
			p := at(r.Int63n(side), r.Int63n(side))
			if step%4 == 3 {
				a, _ := m.Corner(m.Dump().Faces[step].No, 0)
				b, _ := m.Corner(m.Dump().Faces[step].No, 1)
				p = at((a.X+b.X)/2, (a.Y+b.Y)/2)
			}
			hits := holdAll(t, m, p)
			if len(hits) == 0 {
				continue
			}
			h := hits[r.Intn(len(hits))]
			if !holdInsert(t, m, w, h.Face, h.By, p, step) || m.Check() != api.OK {
				t.Fatal(side, p)
			}
			put++
		}
		isDelaunay(t, m)
	}
	if put < 20 {
		t.Fatal("put but", put)
	}
}

// Memory: l and its spare room are not changed; what is answered is new memory, its spare room too.
func TestMemory(t *testing.T) {
	m := grid(t, 3, 4)
	room := []api.Hit{hit(1, 0, 0), hit(0, 0, 0), hit(7, 7, 7), hit(8, 8, 8)}
	kept := slices.Clone(room)
	star.Rim(m, room[:2])
	if !slices.Equal(room, kept) {
		t.Fatal(room)
	}
	p := at(2, 2)
	a, b := star.Hits(m, 0, off(0, 0), p), star.Hits(m, 0, off(0, 0), p)
	ra, rb := star.Rim(m, a), star.Rim(m, a)
	for i := range a[:cap(a)] {
		a[:cap(a)][i] = hit(-9, -9, -9)
	}
	for i := range ra[:cap(ra)] {
		ra[:cap(ra)][i] = [2]api.Knot{{V: -9}, {V: -9}}
	}
	if !slices.Equal(b, holdHits(t, m, 0, off(0, 0), p)) || !slices.Equal(rb, holdRim(t, m, b)) {
		t.Fatal(b, rb)
	}
	v, faces, _ := star.Insert(m, 0, off(0, 0), p, 1)
	d := m.Dump()
	for i := range faces[:cap(faces)] {
		faces[:cap(faces)][i] = -9
	}
	same(t, m, d)
	if v != 9 || len(m.Around(9)) != 4 {
		t.Fatal(v)
	}
}

// Ends: a mesh that New didn't make has no faces, and nothing panics.
func TestZeroMesh(t *testing.T) {
	var m mesh.Mesh
	star.Hits(&m, 0, off(0, 0), at(0, 0))
	star.Rim(&m, []api.Hit{hit(0, 0, 0)})
	star.Insert(&m, 0, off(0, 0), at(0, 0), 0)
}

// FuzzAll: any sites, any point, any face: Hits, Rim and Insert are as the words say (P12.1 to P12.5).
func FuzzAll(f *testing.F) {
	f.Add(int64(10), []byte{0, 0}, int64(1), int64(5), 0, 0, 0)
	f.Add(int64(12), []byte{1, 1, 5, 1, 9, 1, 1, 5, 5, 5, 9, 5, 1, 9, 5, 9, 9, 9}, int64(2), int64(2), 3, 0, 0)
	f.Add(int64(5), []byte{1, 2, 3, 4, 0, 0}, int64(-3), int64(8), 1, -1, 1)
	f.Fuzz(func(t *testing.T, side int64, raw []byte, x, y int64, face, right, up int) {
		if side < 1 || side > 40 {
			side = 9
		}
		var sites []api.Point
		for i := 0; i+1 < len(raw) && i < 24; i += 2 {
			if p := at(int64(raw[i])%side, int64(raw[i+1])%side); !slices.Contains(sites, p) {
				sites = append(sites, p)
			}
		}
		if len(sites) == 0 {
			sites = []api.Point{at(0, 0)}
		}
		m := delaunay(t, side, sites, rand.New(rand.NewSource(x^y)))
		p := at(x%(3*side), y%(3*side))
		holdHits(t, m, face, off(right, up), at(x, y))
		for _, h := range holdAll(t, m, p) {
			n := copied(t, m)
			if holdInsert(t, n, copied(t, m), h.Face, h.By, p, 5) && n.Check() != api.OK {
				t.Fatal(n.Dump())
			}
		}
	})
}
