package cover_test

import (
	"math"
	"math/rand"
	"slices"
	"testing"

	"zellige/api"
	"zellige/cover"
	"zellige/mesh"
)

// who is a vertex that has that id.
func who(id int, x, y int64) api.Vert {
	return api.Vert{At: at(x, y), ID: id}
}

// The chapter's example: nine of the mesh of one vertex and two faces, all of it written out.
func TestExample(t *testing.T) {
	m := one(t, 4)
	n := holdNine(t, m)
	d := n.Dump()
	if d.Side != 12 || len(d.Verts) != 9 || len(d.Faces) != 18 || n.Check() != api.OK {
		t.Fatal(d)
	}
	verts := []api.Point{at(0, 0), at(0, 4), at(0, 8), at(4, 0), at(4, 4), at(4, 8), at(8, 0), at(8, 4), at(8, 8)}
	for i, v := range d.Verts {
		if v != (api.Vert{No: i, At: verts[i], ID: 100}) {
			t.Fatal(i, v)
		}
	}
	o, x, y, xy := off(0, 0), off(1, 0), off(0, 1), off(1, 1)
	faces := []api.Tri{
		tri(0, 3, 1, o, o, o), tri(1, 4, 2, o, o, o), tri(2, 5, 0, o, o, y),
		tri(3, 6, 4, o, o, o), tri(4, 7, 5, o, o, o), tri(5, 8, 3, o, o, y),
		tri(6, 0, 7, o, x, o), tri(7, 1, 8, o, x, o), tri(8, 2, 6, o, x, y),
		tri(3, 4, 1, o, o, o), tri(4, 5, 2, o, o, o), tri(5, 3, 0, o, y, y),
		tri(6, 7, 4, o, o, o), tri(7, 8, 5, o, o, o), tri(8, 6, 3, o, y, y),
		tri(0, 1, 7, x, x, o), tri(1, 2, 8, x, x, o), tri(2, 0, 6, x, xy, y),
	}
	for i, c := range d.Faces {
		if c != (api.Cell{No: i, Tri: faces[i]}) {
			t.Fatal(c, faces[i])
		}
	}
	back, ok := holdOne(t, n)
	if !ok {
		t.Fatal("no nine sheets")
	}
	same(t, back, m.Dump())
}

// P14.1: faces that are the same but for one corner's V, Off.X or Off.Y, each corner's in turn.
func TestCmpOneNumber(t *testing.T) {
	a := tri(5, 6, 7, off(1, 2), off(3, 4), off(5, 6))
	if cover.Cmp(a, a) != 0 || cover.Cmp(api.Tri{}, api.Tri{}) != 0 {
		t.Fatal("not the same")
	}
	for i := range 3 {
		for n, change := range []func(u *api.Tri, by int){
			func(u *api.Tri, by int) { u.V[i] += by },
			func(u *api.Tri, by int) { u.Off[i].X += by },
			func(u *api.Tri, by int) { u.Off[i].Y += by },
		} {
			for _, by := range []int{1, 2, 1000, math.MaxInt - 10} {
				less, more := a, a
				change(&less, -by)
				change(&more, by)
				for _, x := range []struct {
					a, b api.Tri
					want int
				}{{less, a, -1}, {a, less, 1}, {a, more, -1}, {more, a, 1}, {less, more, -1}, {more, less, 1}, {less, less, 0}} {
					if got := cover.Cmp(x.a, x.b); got != x.want {
						t.Fatalf("corner %d, number %d, %d: Cmp(%v, %v): %d", i, n, by, x.a, x.b, got)
					}
				}
			}
		}
	}
}

// P14.1: what comes first counts more: of two numbers that speak against each other the first one tells.
func TestCmpFirstNumber(t *testing.T) {
	set := func(n, to int) api.Tri {
		var u api.Tri
		switch n % 3 {
		case 0:
			u.V[n/3] = to
		case 1:
			u.Off[n/3].X = to
		case 2:
			u.Off[n/3].Y = to
		}
		return u
	}
	for n := range 9 {
		for k := n + 1; k < 9; k++ {
			if a, b := set(n, 1), set(k, 9); cover.Cmp(a, b) != 1 || cover.Cmp(b, a) != -1 {
				t.Fatal(n, k)
			}
			if a, b := set(n, -1), set(k, -9); cover.Cmp(a, b) != -1 || cover.Cmp(b, a) != 1 {
				t.Fatal(n, k)
			}
		}
	}
}

// P14.1: the greatest and the least numbers that there are.
func TestCmpEnds(t *testing.T) {
	a, b := flat(math.MinInt, 0, 0), flat(math.MaxInt, 0, 0)
	c := tri(0, 0, 0, off(math.MinInt, 0), off(0, 0), off(0, 0))
	d := tri(0, 0, 0, off(math.MaxInt, 0), off(0, 0), off(0, 0))
	e := tri(0, 0, 0, off(0, math.MinInt), off(0, 0), off(0, 0))
	f := tri(0, 0, 0, off(0, math.MaxInt), off(0, 0), off(0, 0))
	order := []api.Tri{a, c, e, f, d, b}
	for i := range order {
		for k := range order {
			want := 0
			if i < k {
				want = -1
			}
			if i > k {
				want = 1
			}
			if got := cover.Cmp(order[i], order[k]); got != want {
				t.Fatal(i, k, got)
			}
		}
	}
}

// P14.1: Normal of faces that are written out.
func TestNormalExamples(t *testing.T) {
	o := off(0, 0)
	for _, x := range []struct{ t, want api.Tri }{
		// One vertex: offs tell.
		{tri(0, 0, 0, o, off(1, 0), off(0, 1)), tri(0, 0, 0, o, off(-1, 1), off(-1, 0))},
		{tri(0, 0, 0, off(1, 0), off(1, 1), off(0, 1)), tri(0, 0, 0, o, off(-1, 0), off(0, -1))},
		{tri(4, 4, 4, o, o, o), flat(4, 4, 4)},
		// The least vertex is the first, second, third one.
		{flat(1, 2, 3), flat(1, 2, 3)},
		{flat(3, 1, 2), flat(1, 2, 3)},
		{flat(2, 3, 1), flat(1, 2, 3)},
		{flat(1, 3, 2), flat(1, 3, 2)},
		{flat(-1, 3, -2), flat(-2, -1, 3)},
		// The first corner is off.
		{tri(1, 2, 3, off(5, 7), off(5, 7), off(5, 7)), flat(1, 2, 3)},
		{tri(1, 2, 3, off(5, 7), off(6, 9), off(-1, 7)), tri(1, 2, 3, o, off(1, 2), off(-6, 0))},
		{tri(2, 1, 3, off(5, 5), off(4, 5), off(5, 6)), tri(1, 3, 2, o, off(1, 1), off(1, 0))},
		// A vertex twice: the second corner tells, by V, Off.X, Off.Y, and then the third one.
		{flat(1, 1, 2), flat(1, 1, 2)},
		{flat(1, 2, 1), flat(1, 1, 2)},
		{flat(2, 1, 1), flat(1, 1, 2)},
		{tri(1, 1, 2, o, off(1, 0), off(0, 1)), tri(1, 1, 2, o, off(1, 0), off(0, 1))},
		{tri(1, 2, 1, off(-1, 0), off(-1, 1), o), tri(1, 1, 2, o, off(-1, 0), off(-1, 1))},
		// From any corner on all is the same but for the third corner's off.
		{tri(0, 0, 0, o, off(1, 1), off(2, 2)), tri(0, 0, 0, o, off(-2, -2), off(-1, -1))},
		{tri(0, 0, 0, o, off(0, 1), off(0, -1)), tri(0, 0, 0, o, off(0, -2), off(0, -1))},
	} {
		if got := cover.Normal(x.t); got != x.want {
			t.Errorf("Normal(%v): %v, not %v", x.t, got, x.want)
		}
	}
}

// P14.1: Normal is the same from another corner on, and moved, and of itself; no face of these stands ahead of it.
func TestNormalSame(t *testing.T) {
	r := rand.New(rand.NewSource(1))
	for range 3000 {
		u := anyFace(r, 3)
		want := cover.Normal(u)
		holdFaces(t, u, anyFace(r, 3))
		holdFaces(t, u, want)
		for i := range 3 {
			for _, by := range []api.Off{off(0, 0), off(1, 0), off(-3, 7), off(math.MaxInt, math.MinInt)} {
				w := moved(from(u, i), by)
				if got := cover.Normal(w); got != want {
					t.Fatalf("Normal(%v): %v, not %v", w, got, want)
				}
				if w.Off[0] == off(0, 0) && cover.Cmp(w, want) < 0 {
					t.Fatalf("%v stands ahead of %v", w, want)
				}
			}
		}
		if want.Off[0] != off(0, 0) || cover.Normal(want) != want {
			t.Fatalf("Normal(%v): %v", u, want)
		}
		// The other way round it is another face, unless it has no inside.
		w := tri(u.V[0], u.V[2], u.V[1], u.Off[0], u.Off[2], u.Off[1])
		holdFaces(t, u, w)
	}
}

// anyFace is any face of few vertices, little off, or of strange ones.
func anyFace(r *rand.Rand, few int) api.Tri {
	strange := []int{math.MinInt, math.MinInt + 1, -1, 0, 1, math.MaxInt - 1, math.MaxInt}
	number := func() int {
		if r.Intn(8) == 0 {
			return strange[r.Intn(len(strange))]
		}
		return r.Intn(few) - 1
	}
	var u api.Tri
	for i := range 3 {
		u.V[i], u.Off[i] = number(), off(number(), number())
	}
	return u
}

// P14.2: no mesh, and sides at and above a third of MaxSide.
func TestNineNone(t *testing.T) {
	if cover.Nine(nil) != nil {
		t.Fatal("nine of none")
	}
	const third = 5726623061
	for _, side := range []int64{third + 1, third + 2, 1 << 33, api.MaxSide - 1, api.MaxSide} {
		if n := cover.Nine(mesh.New(side)); n != nil {
			t.Fatal(side, n.Side())
		}
		if n := holdNine(t, one(t, side)); n != nil {
			t.Fatal(side, n.Side())
		}
	}
	for _, side := range []int64{1, 2, 3, 1 << 30, third - 1, third} {
		n := holdNine(t, build(t, side, []api.Point{at(side-1, side-1)}, tri(0, 0, 0, off(0, 0), off(1, 0), off(0, 1)), tri(0, 0, 0, off(1, 0), off(1, 1), off(0, 1))))
		if n == nil || n.Side() != 3*side || n.Check() != api.OK {
			t.Fatal(side)
		}
	}
}

// P14.2: a mesh without vertices, and one without faces.
func TestNineEmpty(t *testing.T) {
	n := holdNine(t, mesh.New(7))
	if d := n.Dump(); d.Side != 21 || len(d.Verts) != 0 || len(d.Faces) != 0 {
		t.Fatal(d)
	}
	n = holdNine(t, build(t, 5, []api.Point{at(1, 2), at(0, 4)}))
	d := n.Dump()
	if len(d.Faces) != 0 || len(d.Verts) != 18 {
		t.Fatal(d)
	}
	for _, x := range []api.Vert{{No: 0, At: at(1, 2), ID: 100}, {No: 1, At: at(1, 7), ID: 100}, {No: 3, At: at(6, 2), ID: 100}, {No: 8, At: at(11, 12), ID: 100}, {No: 9, At: at(0, 4), ID: 101}, {No: 17, At: at(10, 14), ID: 101}} {
		if d.Verts[x.No] != x {
			t.Fatal(d.Verts[x.No], x)
		}
	}
}

// P14.2: numbers with gaps: r is how many stand ahead of a vertex, and faces come by their numbers.
func TestNineGaps(t *testing.T) {
	d := api.Dump{
		Side:  10,
		Verts: []api.Vert{{No: 2, At: at(3, 3), ID: 7}, {No: 5, At: at(6, 3), ID: 9}, {No: 6, At: at(3, 8), ID: 8}},
		Faces: []api.Cell{{No: 3, Tri: flat(2, 5, 6)}, {No: 8, Tri: tri(6, 5, 2, off(0, 0), off(0, 0), off(1, 2))}},
	}
	n := holdNine(t, meshOf(t, d))
	got := n.Dump()
	if len(got.Verts) != 27 || len(got.Faces) != 18 {
		t.Fatal(got)
	}
	if got.Verts[9*1+3*2+1] != (api.Vert{No: 16, At: at(26, 13), ID: 9}) {
		t.Fatal(got.Verts[16])
	}
	if got.Faces[5].Tri != flat(5, 14, 23) {
		t.Fatal(got.Faces[5])
	}
	if got.Faces[9+3*1+2].Tri != tri(18+3+2, 9+3+2, 3*2+1, off(0, 0), off(0, 0), off(0, 1)) {
		t.Fatal(got.Faces[14])
	}
	for seed := range int64(40) {
		r := rand.New(rand.NewSource(seed))
		m := delaunay(t, 30, someSites(r, 30, 1+r.Intn(8)), r)
		holdNine(t, meshOf(t, shuffled(r, m.Dump(), true)))
	}
}

// P14.2: two vertices with one id, or at one place, or both, and strange ids.
func TestNineAlike(t *testing.T) {
	for _, verts := range [][]api.Vert{
		{who(4, 1, 1), who(4, 2, 3)},
		{who(4, 1, 1), who(5, 1, 1)},
		{who(4, 1, 1), who(4, 1, 1)},
		{who(math.MinInt, 1, 1), who(math.MaxInt, 4, 4), who(-1, 0, 0)},
	} {
		n := holdNine(t, meshOf(t, numbered(5, verts)))
		if len(n.Dump().Verts) != 9*len(verts) {
			t.Fatal(verts)
		}
	}
	alike := numbered(5, []api.Vert{who(4, 1, 1), who(4, 1, 1), who(4, 3, 1), who(4, 1, 4), who(4, 1, 3)}, flat(0, 2, 3), flat(1, 2, 4))
	n := holdNine(t, meshOf(t, alike))
	if d := n.Dump(); d.Faces[4].Tri != flat(4, 22, 31) || d.Faces[13].Tri != flat(13, 22, 40) {
		t.Fatal(d.Faces)
	}
}

// P14.2: faces that are moved themselves, to both sides, far over the edges.
func TestNineMoved(t *testing.T) {
	for x := -7; x <= 7; x++ {
		for y := -7; y <= 7; y++ {
			by := off(x, y)
			m := build(t, 4, []api.Point{at(1, 3)},
				moved(tri(0, 0, 0, off(0, 0), off(1, 0), off(0, 1)), by), moved(tri(0, 0, 0, off(1, 0), off(1, 1), off(0, 1)), by))
			n := holdNine(t, m)
			if n.Check() != api.OK {
				t.Fatal(by)
			}
			for f := range 18 {
				for i := range 3 {
					was, _ := m.Corner(f/9, i)
					is, _ := n.Corner(f, i)
					if is != at(was.X+4*int64(f%9/3), was.Y+4*int64(f%3)) {
						t.Fatal(by, f, i, was, is)
					}
				}
			}
		}
	}
}

// P14.2, P14.4: far out a face that is moved on can't be; it is the same, three old sides back.
func TestNineFar(t *testing.T) {
	for _, side := range []int64{1, 2, 3, 1 << 20, 5726623061} {
		last := int(end/side) - 1
		for _, by := range []api.Off{off(last, 0), off(0, last), off(last, last), off(last-1, last), off(last-2, last-2), off(-last, -last), off(last, -last)} {
			m := build(t, side, []api.Point{at(0, 0)},
				moved(tri(0, 0, 0, off(0, 0), off(1, 0), off(0, 1)), by), moved(tri(0, 0, 0, off(1, 0), off(1, 1), off(0, 1)), by))
			d := m.Dump()
			n := cover.Nine(m)
			same(t, m, d)
			if n.Check() != api.OK || len(n.Dump().Faces) != 18 {
				t.Fatal(side, by, n.Dump())
			}
			for f := range 18 {
				isMovedOn(t, m, n, f)
			}
			back, ok := cover.One(n)
			if !ok {
				t.Fatal(side, by)
			}
			same(t, back, d)
		}
	}
}

// isMovedOn holds that n's face f is the one that Nine of m is to have there, and where that can't be, the same three of m's sides back.
func isMovedOn(t *testing.T, m, n *mesh.Mesh, f int) {
	t.Helper()
	i, k := int64(f%9/3)*m.Side(), int64(f%3)*m.Side()
	tooFar := func(coord func(p api.Point) int64, by int64) int64 {
		for c := range 3 {
			if p, _ := m.Corner(f/9, c); coord(p)+by > end {
				return by - 3*m.Side()
			}
		}
		return by
	}
	i, k = tooFar(func(p api.Point) int64 { return p.X }, i), tooFar(func(p api.Point) int64 { return p.Y }, k)
	for c := range 3 {
		was, _ := m.Corner(f/9, c)
		is, _ := n.Corner(f, c)
		if is != at(was.X+i, was.Y+k) {
			t.Fatal(f, c, was, is)
		}
	}
}

// P14.2: a face as wide as all that can be is there only where it can be.
func TestNineWide(t *testing.T) {
	m := build(t, 1, []api.Point{at(0, 0)}, tri(0, 0, 0, off(-end, -end), off(end, -end), off(-end, 1-end)))
	n := cover.Nine(m)
	var corners [][3]api.Point
	for _, c := range n.Dump().Faces {
		var l [3]api.Point
		for i := range 3 {
			l[i], _ = n.Corner(c.No, i)
		}
		corners = append(corners, l)
	}
	var want [][3]api.Point
	for y := range int64(3) {
		want = append(want, [3]api.Point{at(-end, y-end), at(end, y-end), at(-end, y+1-end)})
	}
	if !slices.Equal(corners, want) {
		t.Fatal(corners)
	}
	if one, ok := cover.One(n); ok || one != nil {
		t.Fatal("one of three")
	}
}

// P14.3: no mesh, and sides that are no multiples of three.
func TestOneNone(t *testing.T) {
	if m, ok := cover.One(nil); m != nil || ok {
		t.Fatal("one of none")
	}
	for _, side := range []int64{1, 2, 4, 5, 10, 100, 1 << 34} {
		if m, ok := holdOne(t, mesh.New(side)); m != nil || ok {
			t.Fatal(side)
		}
		if m, ok := holdOne(t, one(t, side)); m != nil || ok {
			t.Fatal(side)
		}
	}
	// Nine in nine squares, but for the side.
	for _, side := range []int64{10, 11} {
		m := mesh.New(side)
		for x := range int64(3) {
			for y := range int64(3) {
				m.AddVert(at(3*x, 3*y), 1)
			}
		}
		if _, ok := holdOne(t, m); ok {
			t.Fatal(side)
		}
	}
	for _, side := range []int64{3, 6, 9, 300, api.MaxSide - 1} {
		m, ok := holdOne(t, mesh.New(side))
		if !ok || m.Side() != side/3 || len(m.Dump().Verts) != 0 || len(m.Dump().Faces) != 0 {
			t.Fatal(side)
		}
		if _, ok := holdOne(t, one(t, side)); ok {
			t.Fatal(side)
		}
	}
}

// dropped is d without its n-th vertex.
func dropped(d api.Dump, n int) api.Dump {
	d.Verts = slices.Delete(slices.Clone(d.Verts), n, n+1)
	return d
}

// changed is d, its n-th vertex being another one.
func changed(d api.Dump, n int, change func(v *api.Vert)) api.Dump {
	d.Verts = slices.Clone(d.Verts)
	change(&d.Verts[n])
	return d
}

// P14.3: one of nine vertices lacks, is one too many, has another id, lies in another's square, or elsewhere.
func TestOneVerts(t *testing.T) {
	d := cover.Nine(build(t, 10, []api.Point{at(0, 0), at(9, 3), at(9, 4)})).Dump()
	whole, ok := holdOne(t, meshOf(t, d))
	if !ok || len(whole.Dump().Verts) != 3 {
		t.Fatal(whole.Dump())
	}
	no := func(d api.Dump) {
		t.Helper()
		if m, ok := holdOne(t, meshOf(t, d)); ok || m != nil {
			t.Fatal(d)
		}
	}
	for n, v := range d.Verts {
		no(dropped(d, n))
		// Another one at the same place, of the same id, or of another one.
		for _, id := range []int{v.ID, 7} {
			more := d
			more.Verts = append(slices.Clone(d.Verts), api.Vert{No: len(d.Verts), At: v.At, ID: id})
			no(more)
		}
		for _, id := range []int{0, -1, 100, 101, 102, 103} {
			if id != v.ID {
				no(changed(d, n, func(v *api.Vert) { v.ID = id }))
			}
		}
		for _, by := range []int64{1, 10, 20, 29} {
			no(changed(d, n, func(v *api.Vert) { v.At.X = (v.At.X + by) % 30 }))
			no(changed(d, n, func(v *api.Vert) { v.At.Y = (v.At.Y + by) % 30 }))
		}
	}
}

// P14.3: as many vertices as nine of some, but not nine of each.
func TestOneCounts(t *testing.T) {
	var sites []api.Point
	for i := range int64(10) {
		sites = append(sites, at(i, 9-i))
	}
	d := cover.Nine(build(t, 10, sites)).Dump()
	less := d
	less.Verts = nil
	for i, v := range d.Verts {
		// The first nine have eight each, so that all are 81.
		if i%9 != i/9 {
			less.Verts = append(less.Verts, v)
		}
	}
	if len(less.Verts) != 81 {
		t.Fatal(len(less.Verts))
	}
	if _, ok := holdOne(t, meshOf(t, less)); ok {
		t.Fatal("eight of nine")
	}
	// One of the first site's goes to another square of its own: 8 squares of 9, and 90 in all.
	if _, ok := holdOne(t, meshOf(t, changed(d, 0, func(v *api.Vert) { v.At.X += 10 }))); ok {
		t.Fatal("two in one square")
	}
	// Eighteen of one id and place: two in each square.
	twice := numbered(10, []api.Vert{who(5, 3, 3), who(5, 3, 3)})
	if _, ok := holdOne(t, holdNine(t, meshOf(t, twice))); ok {
		t.Fatal("two in each square")
	}
	// At one place, but of two ids; of one id, but at two places.
	for _, verts := range [][]api.Vert{{who(5, 3, 3), who(6, 3, 3)}, {who(5, 3, 3), who(5, 4, 3)}, {who(5, 3, 3), who(5, 3, 4)}} {
		d := numbered(10, verts)
		m, ok := holdOne(t, holdNine(t, meshOf(t, d)))
		if !ok {
			t.Fatal(verts)
		}
		same(t, m, d)
	}
}

// P14.3: the squares' edges: places just at a third of the side, and just below.
func TestOneSquares(t *testing.T) {
	for _, side := range []int64{1, 2, 10, 5726623061} {
		for _, p := range []api.Point{at(0, 0), at(side-1, 0), at(0, side-1), at(side-1, side-1)} {
			m, ok := holdOne(t, holdNine(t, build(t, side, []api.Point{p})))
			if !ok || m.Dump().Verts[0].At != p || m.Side() != side {
				t.Fatal(side, p)
			}
		}
	}
}

// P14.3: each face that lacks makes it no nine sheets; with all nine it is open, and still nine sheets.
func TestOneFaces(t *testing.T) {
	r := rand.New(rand.NewSource(3))
	for _, m := range []*mesh.Mesh{one(t, 4), grid(t, 2, 6), delaunay(t, 50, someSites(r, 50, 5), r)} {
		d := cover.Nine(m).Dump()
		for _, c := range d.Faces {
			n := meshOf(t, d)
			n.DropFace(c.No)
			if _, ok := holdOne(t, n); ok {
				t.Fatal(c)
			}
			for f := range 9 {
				n.DropFace(c.No/9*9 + f)
			}
			back, ok := holdOne(t, n)
			if !ok || len(back.Dump().Faces) != len(m.Dump().Faces)-1 {
				t.Fatal(c)
			}
		}
	}
}

// P14.3: as many faces as nine of some, but not nine of each: one lacks of each of nine.
func TestOneFaceCounts(t *testing.T) {
	m := grid(t, 3, 4)
	n := cover.Nine(m)
	for f := range 9 {
		n.DropFace(9*f + f)
	}
	if len(n.Dump().Faces) != 9*17 {
		t.Fatal(len(n.Dump().Faces))
	}
	if _, ok := holdOne(t, n); ok {
		t.Fatal("nine lack")
	}
}

// P14.3: in one of the nine sheets an edge is flipped: vertices and areas are right, and it is no nine sheets; in all nine it is.
func TestOneFlipped(t *testing.T) {
	m := grid(t, 2, 6)
	n := cover.Nine(m)
	all := 0
	for f := range 9 {
		flip(t, n, f)
		all++
		if n.Check() != api.OK {
			t.Fatal(f)
		}
		if _, ok := holdOne(t, n); ok != (all == 9) {
			t.Fatal(f, ok)
		}
	}
}

// flip makes of the face f and of the one across from its first corner the other two of these four corners.
func flip(t *testing.T, m *mesh.Mesh, f int) {
	t.Helper()
	g, i, by, ok := m.Across(f, 0)
	if !ok {
		t.Fatal(f)
	}
	a, _ := m.Face(f)
	b, _ := m.Face(g)
	b = from(moved(b, by), i)
	m.DropFace(f)
	m.DropFace(g)
	addFace(t, m, tri(a.V[0], a.V[1], b.V[0], a.Off[0], a.Off[1], b.Off[0]))
	addFace(t, m, tri(a.V[0], b.V[0], a.V[2], a.Off[0], b.Off[0], a.Off[2]))
}

// P14.3: a face is there also from another corner on, or moved by whole sides; the order is that of the least number of each nine, and the corners are this one's.
func TestOneOrder(t *testing.T) {
	// Two sites: of the second one stands, ahead of all, the one at 5 8, of the first one the one at 8 4.
	places := []api.Vert{who(2, 5, 8), who(1, 8, 4), who(1, 0, 0), who(2, 1, 0), who(1, 4, 4), who(2, 9, 8), who(2, 9, 0), who(1, 0, 4), who(1, 4, 0), who(2, 1, 4),
		who(1, 8, 8), who(2, 5, 0), who(1, 0, 8), who(2, 5, 4), who(2, 1, 8), who(1, 4, 8), who(1, 8, 0), who(2, 9, 4)}
	number := func(id int, x, y int64) int {
		return slices.IndexFunc(places, func(v api.Vert) bool { return v == who(id, x, y) })
	}
	var faces, others []api.Tri
	for x := range int64(3) {
		for y := range int64(3) {
			o := off(0, int(y+1)/3)
			up := (y + 1) % 3 * 4
			a, b, c := number(1, 4*x, 4*y), number(2, 4*x+1, 4*y), number(1, 4*x, up)
			n := int(3*x + y)
			faces = append(faces, moved(from(tri(a, b, c, off(0, 0), off(0, 0), o), n%3), off(n-4, 2*n)))
			others = append(others, moved(from(tri(b, number(2, 4*x+1, up), c, off(0, 0), o, o), (n+1)%3), off(3-n, n)))
		}
	}
	// Of the others the last one comes first of all.
	slices.Reverse(others)
	d := numbered(12, places, slices.Concat(others[:1], faces, others[1:])...)
	m, ok := holdOne(t, meshOf(t, d))
	if !ok {
		t.Fatal("no nine sheets")
	}
	// The others' last one lies at 9 8, over the upper edge: in thirds at 1 0, 2 2 off; moved by -5 8 sides it is -15 24 thirds farther off. It is told from its first corner on.
	want := numbered(4, []api.Vert{who(2, 1, 0), who(1, 0, 0)},
		tri(0, 0, 1, off(2-15, 2+24), off(2-15, 3+24), off(2-15, 3+24)), tri(1, 0, 1, off(-12, 0), off(-12, 0), off(-12, 1)))
	same(t, m, want)
}

// P14.3: nine sheets in any order, with gaps or without, faces told anyhow.
func TestOneShuffled(t *testing.T) {
	for seed := range int64(60) {
		r := rand.New(rand.NewSource(seed))
		side := []int64{1, 2, 3, 10, 100, 5726623061}[seed%6]
		m := delaunay(t, side, someSites(r, side, 1+r.Intn(6)), r)
		d := cover.Nine(m).Dump()
		n := meshOf(t, shuffled(r, d, seed%2 == 1))
		back, ok := holdOne(t, n)
		if !ok || back.Check() != api.OK {
			t.Fatal(seed)
		}
		if !slices.Equal(classes(back), classes(m)) {
			t.Fatal(seed)
		}
	}
}

// P14.3: meshes that may be nine sheets or not: some vertices and faces of nine sheets lack, or are others.
func TestOneAnyhow(t *testing.T) {
	yes, no := 0, 0
	for seed := range int64(600) {
		r := rand.New(rand.NewSource(seed))
		side := []int64{2, 3, 10, 1000}[seed%4]
		sites := someSites(r, side, 1+r.Intn(3))
		var verts []api.Vert
		for _, p := range sites {
			verts = append(verts, api.Vert{At: p, ID: r.Intn(2)})
		}
		m := meshOf(t, numbered(side, verts))
		for range r.Intn(10) {
			var u api.Tri
			for i := range 3 {
				u.V[i], u.Off[i] = r.Intn(len(verts)), off(r.Intn(5)-2, r.Intn(5)-2)
			}
			m.AddFace(u)
		}
		d := shuffled(r, holdNine(t, m).Dump(), seed%3 == 0)
		n := meshOf(t, d)
		for range r.Intn(3) {
			if len(d.Faces) > 0 {
				n.DropFace(d.Faces[r.Intn(len(d.Faces))].No)
			}
			n.DropVert(d.Verts[r.Intn(len(d.Verts))].No)
			if r.Intn(2) == 0 {
				n.AddVert(at(r.Int63n(3*side), r.Int63n(3*side)), r.Intn(2))
			}
		}
		if _, ok := holdOne(t, n); ok {
			yes++
		} else {
			no++
		}
	}
	if yes < 100 || no < 100 {
		t.Fatal(yes, no)
	}
}

// P14.4: there and back, in meshes of all kinds, closed or open.
func TestThereAndBack(t *testing.T) {
	hold := func(m *mesh.Mesh) {
		t.Helper()
		d := m.Dump()
		back, ok := cover.One(holdNine(t, m))
		if !ok {
			t.Fatal(d)
		}
		same(t, back, d)
	}
	hold(mesh.New(1))
	hold(mesh.New(5726623061))
	for _, side := range []int64{1, 2, 3, 4, 9, 1000, 5726623061} {
		hold(one(t, side))
	}
	for _, k := range []int{1, 2, 3, 4, 7, 1000} {
		hold(strip(t, 3, 1, k))
		hold(strip(t, 2, k, 1))
		hold(strip(t, 1, k, k))
	}
	for k := 1; k < 5; k++ {
		hold(grid(t, k, 5))
		// Nine sheets of nine sheets.
		hold(cover.Nine(grid(t, k, 5)))
	}
	for seed := range int64(40) {
		r := rand.New(rand.NewSource(seed))
		side := []int64{1, 2, 5, 30, 1 << 30, 5726623061}[seed%6]
		m := delaunay(t, side, someSites(r, side, 1+r.Intn(12)), r)
		hold(m)
		n := meshOf(t, shuffled(r, m.Dump(), false))
		hold(n)
		hold(scrambled(t, r, 1+r.Intn(3), 10))
		// Open: some vertices, and faces that lie over one another anyhow.
		open := build(t, 50, someSites(r, 50, 6))
		for range 20 {
			var u api.Tri
			for i := range 3 {
				u.V[i], u.Off[i] = r.Intn(6), off(r.Intn(9)-4, r.Intn(9)-4)
			}
			open.AddFace(u)
		}
		hold(open)
	}
}

// P14.4's other way round: nine sheets of one sheet are those that were, but for numbers and how faces are told.
func TestBackAndThere(t *testing.T) {
	for seed := range int64(20) {
		r := rand.New(rand.NewSource(seed))
		m := delaunay(t, 40, someSites(r, 40, 1+r.Intn(8)), r)
		n := meshOf(t, shuffled(r, cover.Nine(m).Dump(), false))
		back, _ := cover.One(n)
		if again := cover.Nine(back); !slices.Equal(classes(again), classes(n)) {
			t.Fatal(seed)
		}
	}
}

// P14.5: Nine of Delaunay meshes with small circles: those of their vertices, nine of each.
func TestDelaunay(t *testing.T) {
	for _, x := range []struct {
		k   int
		gap int64
	}{{3, 2}, {3, 1908874353}, {4, 7}, {5, 3}} {
		m := grid(t, x.k, x.gap)
		if !allSmall(m) {
			t.Fatal(x)
		}
		isDelaunay(t, m)
		isDelaunay(t, holdNine(t, m))
	}
	found := 0
	for seed := int64(0); found < 4; seed++ {
		r := rand.New(rand.NewSource(seed))
		side := []int64{12, 60, 1 << 30, 5726623061}[seed%4]
		m := delaunay(t, side, someSites(r, side, 22+r.Intn(8)), r)
		if !allSmall(m) {
			continue
		}
		found++
		n := holdNine(t, m)
		isDelaunay(t, n)
		if len(n.Dump().Verts) != 9*len(m.Dump().Verts) || !allSmall(n) {
			t.Fatal(seed)
		}
	}
}

// Beyond P14.5: few sites have great circles, and nine sheets of their Delaunay mesh are small and Delaunay, too: so an engine may begin.
func TestDelaunayFew(t *testing.T) {
	for seed := range int64(12) {
		r := rand.New(rand.NewSource(seed))
		side := []int64{1, 2, 12, 5726623061}[seed%4]
		m := delaunay(t, side, someSites(r, side, 1+r.Intn(4)), r)
		n := holdNine(t, m)
		isDelaunay(t, n)
		if !allSmall(n) {
			t.Fatal(seed)
		}
	}
}

// Memory: what is answered knows nothing of what was handed in: a change of one is not seen in the other.
func TestMemory(t *testing.T) {
	m := grid(t, 2, 6)
	d := m.Dump()
	n := cover.Nine(m)
	dn := n.Dump()
	back, _ := cover.One(n)
	spoil := func(m *mesh.Mesh) {
		for f := range 3 {
			m.DropFace(f)
		}
		m.AddVert(at(0, 0), 9)
	}
	spoil(back)
	same(t, n, dn)
	same(t, m, d)
	spoil(n)
	same(t, m, d)
	again := cover.Nine(m)
	spoil(m)
	same(t, again, dn)
	back, _ = cover.One(again)
	spoil(again)
	same(t, back, d)
}

// Ends: a mesh that New didn't make has no vertices, and nothing panics.
func TestZeroMesh(t *testing.T) {
	var m mesh.Mesh
	cover.Nine(&m)
	cover.One(&m)
}

// FuzzAll: any faces, any sites: Normal, Cmp, Nine and One are as the words say (P14.1 to P14.4).
func FuzzAll(f *testing.F) {
	f.Add(int64(4), []byte{1, 2}, int64(1), 3, 2)
	f.Add(int64(9), []byte{0, 0, 3, 3, 3, 3}, int64(5), math.MaxInt, math.MinInt)
	f.Fuzz(func(t *testing.T, side int64, raw []byte, seed int64, x, y int) {
		r := rand.New(rand.NewSource(seed))
		a, b := anyFace(r, 3), anyFace(r, 3)
		a.V[r.Intn(3)], b.Off[r.Intn(3)] = x, off(x, y)
		holdFaces(t, a, b)
		if side < 1 || side > 40 {
			side = 9
		}
		m := mesh.New(side)
		for i := 0; i+1 < len(raw) && i < 16; i += 2 {
			m.AddVert(at(int64(raw[i])%side, int64(raw[i+1])%side), int(raw[i]>>6))
		}
		verts := len(m.Dump().Verts)
		for range min(verts, 1) * 12 {
			var u api.Tri
			for i := range 3 {
				u.V[i], u.Off[i] = r.Intn(verts), off(r.Intn(7)-3, r.Intn(7)-3)
			}
			m.AddFace(u)
		}
		holdOne(t, m)
		n := holdNine(t, m)
		holdOne(t, n)
		holdOne(t, meshOf(t, shuffled(r, n.Dump(), seed%2 == 0)))
		n.DropFace(r.Intn(20))
		holdOne(t, n)
	})
}
