package star_test

import (
	"math/big"
	"math/rand"
	"slices"
	"testing"

	"zellige/api"
	"zellige/circum"
	"zellige/lift"
	"zellige/mesh"
	"zellige/pred"
	"zellige/star"
	"zellige/tie"
)

// end is the greatest number that a point may have, written out apart from api.
const end = 1099511627776

func at(x, y int64) api.Point {
	return api.Point{X: x, Y: y}
}

func off(x, y int) api.Off {
	return api.Off{X: x, Y: y}
}

// hit is the face f, moved by x sides to the right and y up.
func hit(f, x, y int) api.Hit {
	return api.Hit{Face: f, By: off(x, y)}
}

func plus(a, b api.Off) api.Off {
	return api.Off{X: a.X + b.X, Y: a.Y + b.Y}
}

func minus(a, b api.Off) api.Off {
	return api.Off{X: a.X - b.X, Y: a.Y - b.Y}
}

// tri is a face of the vertices a, b, c, off by those.
func tri(a, b, c int, oa, ob, oc api.Off) api.Tri {
	return api.Tri{V: [3]int{a, b, c}, Off: [3]api.Off{oa, ob, oc}}
}

// flat is a face none of whose corners is off.
func flat(a, b, c int) api.Tri {
	return api.Tri{V: [3]int{a, b, c}}
}

// moved is the face with all its corners so much farther off.
func moved(t api.Tri, by api.Off) api.Tri {
	for i := range t.Off {
		t.Off[i] = plus(t.Off[i], by)
	}
	return t
}

// from is the face told from its corner i on.
func from(t api.Tri, i int) api.Tri {
	var u api.Tri
	for k := range 3 {
		u.V[k], u.Off[k] = t.V[(i+k)%3], t.Off[(i+k)%3]
	}
	return u
}

// build is a mesh of these vertices, whose ids are 100 and on, and of these faces, all of which are to be taken.
func build(t *testing.T, side int64, verts []api.Point, faces ...api.Tri) *mesh.Mesh {
	t.Helper()
	m := mesh.New(side)
	for i, p := range verts {
		if v := m.AddVert(p, 100+i); v != i {
			t.Fatalf("AddVert(%v): %d", p, v)
		}
	}
	for i, u := range faces {
		if f, e := m.AddFace(u); f != i || e != api.OK {
			t.Fatalf("AddFace(%v): %d %d", u, f, e)
		}
	}
	return m
}

// copied is another mesh that has the same vertices and faces with the same numbers; those that came back are lent again in the same order only if both have no gaps.
func copied(t *testing.T, m *mesh.Mesh) *mesh.Mesh {
	t.Helper()
	d := m.Dump()
	verts := make([]api.Point, len(d.Verts))
	for i, v := range d.Verts {
		verts[i] = v.At
	}
	faces := make([]api.Tri, len(d.Faces))
	for i, c := range d.Faces {
		faces[i] = c.Tri
	}
	w := build(t, d.Side, verts, faces...)
	same(t, w, d)
	return w
}

// same holds a dump against what the mesh is now.
func same(t *testing.T, m *mesh.Mesh, want api.Dump) {
	t.Helper()
	got := m.Dump()
	if got.Side != want.Side || !slices.Equal(got.Verts, want.Verts) || !slices.Equal(got.Faces, want.Faces) {
		t.Fatalf("the mesh is %v, not %v", got, want)
	}
}

// one is the mesh of the vertex 0 0 and of the two halves of its square.
func one(t *testing.T, side int64) *mesh.Mesh {
	t.Helper()
	return build(t, side, []api.Point{at(0, 0)},
		tri(0, 0, 0, off(0, 0), off(1, 0), off(0, 1)), tri(0, 0, 0, off(1, 0), off(1, 1), off(0, 1)))
}

// grid is k by k vertices, gap apart from 1 1 on, each square halved from right below to left above: the face 2 (k x + y) is the lower half of a square, the next one the upper half.
func grid(t *testing.T, k int, gap int64) *mesh.Mesh {
	t.Helper()
	var verts []api.Point
	var faces []api.Tri
	knot := func(x, y int) (int, api.Off) { return x%k*k + y%k, off(x/k, y/k) }
	for x := range k {
		for y := range k {
			verts = append(verts, at(int64(x)*gap+1, int64(y)*gap+1))
			a, oa := knot(x, y)
			b, ob := knot(x+1, y)
			c, oc := knot(x+1, y+1)
			d, od := knot(x, y+1)
			faces = append(faces, tri(a, b, d, oa, ob, od), tri(b, c, d, ob, oc, od))
		}
	}
	return build(t, int64(k)*gap, verts, faces...)
}

// corner is where the moved face's corner lies, by math/big, and whether it can be.
func corner(d api.Dump, t api.Tri, i int, by api.Off) (api.Point, bool) {
	n := slices.IndexFunc(d.Verts, func(v api.Vert) bool { return v.No == t.V[i] })
	along := func(from int64, a, b int) (int64, bool) {
		far := new(big.Int).Add(big.NewInt(int64(a)), big.NewInt(int64(b)))
		far.Mul(far, big.NewInt(d.Side)).Add(far, big.NewInt(from))
		return far.Int64(), far.CmpAbs(big.NewInt(end)) <= 0
	}
	x, canX := along(d.Verts[n].At.X, t.Off[i].X, by.X)
	y, canY := along(d.Verts[n].At.Y, t.Off[i].Y, by.Y)
	return at(x, y), canX && canY
}

// conflicts tells by P12.1's words whether p does away with the moved face.
func conflicts(d api.Dump, t api.Tri, by api.Off, p api.Point) bool {
	var c [3]api.Point
	for i := range c {
		q, can := corner(d, t, i, by)
		if !can {
			return false
		}
		c[i] = q
	}
	return tie.Conflict(c[0], c[1], c[2], p)
}

// faceOf is the face of that number, if the dump has one.
func faceOf(d api.Dump, f int) (api.Tri, bool) {
	for _, c := range d.Faces {
		if c.No == f {
			return c.Tri, true
		}
	}
	return api.Tri{}, false
}

// neighbours are all moved faces that have an edge of the moved face the other way round: each face is held against it, knot by knot.
func neighbours(d api.Dump, h api.Hit) []api.Hit {
	var list []api.Hit
	t, _ := faceOf(d, h.Face)
	t = moved(t, h.By)
	for _, c := range d.Faces {
		for i := range 3 {
			for k := range 3 {
				by := minus(t.Off[i], c.Tri.Off[(k+1)%3])
				u := moved(c.Tri, by)
				if u.V[(k+1)%3] == t.V[i] && u.V[k] == t.V[(i+1)%3] && u.Off[k] == t.Off[(i+1)%3] {
					list = append(list, api.Hit{Face: c.No, By: by})
				}
			}
		}
	}
	return list
}

// inOrder sorts by P12.1's words.
func inOrder(list []api.Hit) []api.Hit {
	slices.SortFunc(list, func(a, b api.Hit) int {
		for _, d := range []int{a.By.X - b.By.X, a.By.Y - b.By.Y, a.Face - b.Face} {
			if d != 0 {
				return d
			}
		}
		return 0
	})
	return list
}

// slowHits is Hits by the words: as long as there is a neighbour of one of the list that p does away with, it is put into the list.
func slowHits(d api.Dump, f int, by api.Off, p api.Point) []api.Hit {
	t, ok := faceOf(d, f)
	if !ok || !conflicts(d, t, by, p) {
		return nil
	}
	list := []api.Hit{{Face: f, By: by}}
	for grown := true; grown; {
		grown = false
		for _, h := range slices.Clone(list) {
			for _, n := range neighbours(d, h) {
				u, _ := faceOf(d, n.Face)
				if !slices.Contains(list, n) && conflicts(d, u, n.By, p) {
					list, grown = append(list, n), true
				}
			}
		}
	}
	return inOrder(list)
}

// slowRim is Rim by the words: an edge counts, if none of the list has it the other way round.
func slowRim(d api.Dump, l []api.Hit) [][2]api.Knot {
	edges := func(h api.Hit) (list [][2]api.Knot) {
		t, ok := faceOf(d, h.Face)
		if !ok {
			return nil
		}
		t = moved(t, h.By)
		for i := range 3 {
			k := (i + 1) % 3
			list = append(list, [2]api.Knot{{V: t.V[i], Off: t.Off[i]}, {V: t.V[k], Off: t.Off[k]}})
		}
		return list
	}
	var all, rim [][2]api.Knot
	for _, h := range l {
		all = append(all, edges(h)...)
	}
	for _, e := range all {
		if !slices.Contains(all, [2]api.Knot{e[1], e[0]}) {
			rim = append(rim, e)
		}
	}
	return rim
}

// twice tells whether one face is in the list twice.
func twice(l []api.Hit) bool {
	for i, h := range l {
		if slices.ContainsFunc(l[:i], func(g api.Hit) bool { return g.Face == h.Face }) {
			return true
		}
	}
	return false
}

// holdHits holds Hits, and Rim of them, against the words, and answers Hits.
func holdHits(t *testing.T, m *mesh.Mesh, f int, by api.Off, p api.Point) []api.Hit {
	t.Helper()
	d := m.Dump()
	got, want := star.Hits(m, f, by, p), slowHits(d, f, by, p)
	if !slices.Equal(got, want) {
		t.Fatalf("Hits(%d, %v, %v) of %v: %v, not %v", f, by, p, d, got, want)
	}
	holdRim(t, m, got)
	same(t, m, d)
	return got
}

// holdRim holds Rim against the words, and answers it.
func holdRim(t *testing.T, m *mesh.Mesh, l []api.Hit) [][2]api.Knot {
	t.Helper()
	d := m.Dump()
	got, want := star.Rim(m, l), slowRim(d, l)
	if !slices.Equal(got, want) {
		t.Fatalf("Rim(%v) of %v: %v, not %v", l, d, got, want)
	}
	return got
}

// insertByWords does to m what P12.3 says, step by step, of faces that are not told twice and of no corner at p.
func insertByWords(t *testing.T, m *mesh.Mesh, hits []api.Hit, p api.Point, id int) (int, []int) {
	t.Helper()
	rim := slowRim(m.Dump(), hits)
	for _, h := range hits {
		if !m.DropFace(h.Face) {
			t.Fatalf("no face %d", h.Face)
		}
	}
	side := m.Side()
	home := func(c int64) (int64, int) {
		rest := (c%side + side) % side
		return rest, int((c - rest) / side)
	}
	x, right := home(p.X)
	y, up := home(p.Y)
	v := m.AddVert(at(x, y), id)
	var faces []int
	for _, e := range rim {
		f, err := m.AddFace(tri(e[0].V, e[1].V, v, e[0].Off, e[1].Off, off(right, up)))
		if err != api.OK {
			t.Fatalf("the face of %v and %v: %d", e, p, err)
		}
		faces = append(faces, f)
	}
	return v, faces
}

// sees tells whether p lies to the left of all these edges: only then there can be a face of each of them and p (11).
func sees(m *mesh.Mesh, rim [][2]api.Knot, p api.Point) bool {
	return !slices.ContainsFunc(rim, func(e [2]api.Knot) bool {
		var c [2]api.Point
		for i, k := range e {
			v, _ := m.Vert(k.V)
			c[i], _ = lift.At(v.At, k.Off, m.Side())
		}
		return pred.Orient(c[0], c[1], p) != 1
	})
}

// holdInsert holds Insert against the words, done to w, which is to be as m is, and answers whether it was done.
func holdInsert(t *testing.T, m, w *mesh.Mesh, f int, by api.Off, p api.Point, id int) bool {
	t.Helper()
	d := w.Dump()
	hits := slowHits(d, f, by, p)
	v, faces, ok := star.Insert(m, f, by, p, id)
	if len(hits) == 0 || twice(hits) || !sees(w, slowRim(d, hits), p) {
		if v != -1 || len(faces) != 0 || ok {
			t.Fatalf("Insert(%d, %v, %v) of %v: %d %v %v", f, by, p, d, v, faces, ok)
		}
		same(t, m, d)
		return false
	}
	v2, faces2 := insertByWords(t, w, hits, p, id)
	if v != v2 || !slices.Equal(faces, faces2) || !ok {
		t.Fatalf("Insert(%d, %v, %v) of %v: %d %v %v, not %d %v true", f, by, p, d, v, faces, ok, v2, faces2)
	}
	same(t, m, w.Dump())
	return true
}

// refused holds that Insert answers -1, none and false, and that nothing is changed: numbers that are lent behind it are those that are lent in w, which is to be as m is.
func refused(t *testing.T, m, w *mesh.Mesh, f int, by api.Off, p api.Point) {
	t.Helper()
	if v, faces, ok := star.Insert(m, f, by, p, 9); v != -1 || len(faces) != 0 || ok {
		t.Fatalf("Insert(%d, %v, %v): %d %v %v", f, by, p, v, faces, ok)
	}
	same(t, m, w.Dump())
	if m.Check() != w.Check() {
		t.Fatal(m.Check())
	}
	lent := func(m *mesh.Mesh) (list []int) {
		for range 3 {
			list = append(list, m.AddVert(at(0, 0), 0))
		}
		a, b, c := list[0], list[1], list[2]
		for i := range 4 {
			f, _ := m.AddFace(tri(a, b, c, off(0, 0), off(i+1, 0), off(-i, 1)))
			list = append(list, f)
		}
		// The last one first, so that they would be lent again in the same order.
		for i := 6; i >= 3; i-- {
			m.DropFace(list[i])
		}
		for i := 2; i >= 0; i-- {
			m.DropVert(list[i])
		}
		return list
	}
	if got, want := lent(m), lent(w); !slices.Equal(got, want) {
		t.Fatalf("%v are lent, not %v", got, want)
	}
	same(t, m, w.Dump())
}

// class is a triangle over the torus: its corners, turning left, moved by whole sides so that the first one lies in the first square, and from the corner on that makes it the least.
type class [3]api.Point

func cmpClass(a, b class) int {
	for i := range a {
		if c := lift.Cmp(a[i], b[i]); c != 0 {
			return c
		}
	}
	return 0
}

func classOf(c [3]api.Point, side int64) class {
	var all []class
	for i := range 3 {
		_, o, _ := lift.Home(c[i], side)
		var k class
		for j := range 3 {
			k[j] = at(c[(i+j)%3].X-int64(o.X)*side, c[(i+j)%3].Y-int64(o.Y)*side)
		}
		all = append(all, k)
	}
	return slices.MinFunc(all, cmpClass)
}

// classes are those of all faces of a mesh, in order.
func classes(m *mesh.Mesh) []class {
	var list []class
	for _, c := range m.Dump().Faces {
		var at [3]api.Point
		for i := range 3 {
			at[i], _ = m.Corner(c.No, i)
		}
		list = append(list, classOf(at, m.Side()))
	}
	slices.SortFunc(list, cmpClass)
	return list
}

// sitesOf are where the vertices of a mesh lie.
func sitesOf(m *mesh.Mesh) []api.Point {
	var list []api.Point
	for _, v := range m.Dump().Verts {
		list = append(list, v.At)
	}
	return list
}

// about are all places of the sites by -2 to 2 sides off: no circle that has none of a site's places within is wider than a square's diagonal, so that all corners of a face lie there, if one lies in the first square.
func about(side int64, sites []api.Point) []api.Point {
	var list []api.Point
	for _, p := range sites {
		list = append(list, lift.Window(p, side, 2)...)
	}
	return list
}

// wrap are the classes of the Delaunay mesh (18) of different sites: from an edge that is in it, from a site to the nearest place, one goes on to the third corner of each edge's face, and so from edge to edge.
func wrap(t *testing.T, side int64, sites []api.Point) []class {
	t.Helper()
	places := about(side, sites)
	a := sites[0]
	near := slices.MinFunc(places, func(p, q api.Point) int {
		return cmpDist(a, p, q)
	})
	todo := [][2]api.Point{{a, near}}
	seen := map[[2]api.Point]bool{}
	found := map[class]bool{}
	for len(todo) > 0 {
		e := todo[0]
		todo = todo[1:]
		_, o, _ := lift.Home(e[0], side)
		for i := range e {
			e[i] = at(e[i].X-int64(o.X)*side, e[i].Y-int64(o.Y)*side)
		}
		if seen[e] {
			continue
		}
		seen[e] = true
		c := places[tie.Best(e[0], e[1], places)]
		found[classOf([3]api.Point{e[0], e[1], c}, side)] = true
		todo = append(todo, [2]api.Point{e[1], e[0]}, [2]api.Point{e[1], c}, [2]api.Point{c, e[0]})
	}
	var list []class
	for k := range found {
		list = append(list, k)
	}
	slices.SortFunc(list, cmpClass)
	if len(list) != 2*len(sites) {
		t.Fatalf("side %d, %v: %d faces", side, sites, len(list))
	}
	return list
}

// cmpDist is whether p or q is nearer to a, a itself being the farthest.
func cmpDist(a, p, q api.Point) int {
	if p == a || q == a {
		if p == q {
			return 0
		}
		if p == a {
			return 1
		}
		return -1
	}
	far := func(p api.Point) *big.Int {
		x, y := big.NewInt(p.X-a.X), big.NewInt(p.Y-a.Y)
		return x.Mul(x, x).Add(x, y.Mul(y, y))
	}
	return far(p).Cmp(far(q))
}

// delaunay is the Delaunay mesh (18) of different sites; its faces come in any order, moved anyhow, from any corner on.
func delaunay(t *testing.T, side int64, sites []api.Point, r *rand.Rand) *mesh.Mesh {
	t.Helper()
	number := map[api.Point]int{}
	for i, p := range sites {
		number[p] = i
	}
	list := wrap(t, side, sites)
	r.Shuffle(len(list), func(i, k int) { list[i], list[k] = list[k], list[i] })
	var faces []api.Tri
	for _, k := range list {
		var u api.Tri
		for i, p := range k {
			home, o, _ := lift.Home(p, side)
			u.V[i], u.Off[i] = number[home], o
		}
		faces = append(faces, moved(from(u, r.Intn(3)), off(r.Intn(5)-2, r.Intn(5)-2)))
	}
	m := build(t, side, sites, faces...)
	if e := m.Check(); e != api.OK {
		t.Fatalf("side %d, %v: Check is %d", side, sites, e)
	}
	return m
}

// isDelaunay holds that m is the Delaunay mesh of its vertices (18): its faces are those that wrap tells, and, asked point by point, none of the places about a face does away with it.
func isDelaunay(t *testing.T, m *mesh.Mesh) {
	t.Helper()
	sites := sitesOf(m)
	list := classes(m)
	if want := wrap(t, m.Side(), sites); !slices.Equal(list, want) {
		t.Fatalf("side %d, %v: %v, not %v", m.Side(), sites, list, want)
	}
	places := about(m.Side(), sites)
	for _, k := range list {
		for _, p := range places {
			if tie.Conflict(k[0], k[1], k[2], p) {
				t.Fatalf("side %d, %v: %v does away with %v", m.Side(), sites, p, k)
			}
		}
	}
}

// allSmall tells whether each face's circle is small against the side (9).
func allSmall(m *mesh.Mesh) bool {
	for _, k := range classes(m) {
		if !circum.Small(k[0], k[1], k[2], m.Side()) {
			return false
		}
	}
	return true
}

// allHits are all moved faces that p does away with, of a mesh no circle of which is wider than a square's diagonal: such a face has a corner by at most two sides off p's square.
func allHits(m *mesh.Mesh, p api.Point) []api.Hit {
	d := m.Dump()
	_, to, _ := lift.Home(p, d.Side)
	var list []api.Hit
	for _, c := range d.Faces {
		for x := -3; x <= 3; x++ {
			for y := -3; y <= 3; y++ {
				by := minus(plus(to, off(x, y)), c.Tri.Off[0])
				if conflicts(d, c.Tri, by, p) {
					list = append(list, api.Hit{Face: c.No, By: by})
				}
			}
		}
	}
	return inOrder(list)
}

// holdAll holds P12.4 and P12.5 of a Delaunay mesh and a point: Hits from each moved face that p does away with are all of them, and their rim has two edges more; it answers them.
func holdAll(t *testing.T, m *mesh.Mesh, p api.Point) []api.Hit {
	t.Helper()
	want := allHits(m, p)
	for _, h := range want {
		got := star.Hits(m, h.Face, h.By, p)
		if !slices.Equal(got, want) {
			t.Fatalf("Hits(%d, %v, %v) of %v: %v, not %v", h.Face, h.By, p, m.Dump(), got, want)
		}
		rim := holdRim(t, m, got)
		if len(rim) != len(got)+2 {
			t.Fatalf("%v has the rim %v", got, rim)
		}
		isRing(t, m, rim, p)
	}
	// On the torus p lies somewhere: if no place of a vertex is p, something is done away with.
	home, _, _ := lift.Home(p, m.Side())
	if slices.Contains(sitesOf(m), home) != (len(want) == 0) {
		t.Fatalf("%v does away with %v", p, want)
	}
	return want
}

// isRing holds that the edges, one joined to the next, are one ring that goes round p, to the left.
func isRing(t *testing.T, m *mesh.Mesh, rim [][2]api.Knot, p api.Point) {
	t.Helper()
	next := map[api.Knot]api.Knot{}
	for _, e := range rim {
		next[e[0]] = e[1]
	}
	if !sees(m, rim, p) {
		t.Fatalf("%v does not lie to the left of all of %v", p, rim)
	}
	k, steps := next[rim[0][0]], 1
	for ; k != rim[0][0] && steps <= len(rim); steps++ {
		k = next[k]
	}
	if steps != len(rim) {
		t.Fatalf("%v is no ring", rim)
	}
}

// someSites are so many different sites, at most as many as there are.
func someSites(r *rand.Rand, side int64, many int) []api.Point {
	var list []api.Point
	for len(list) < many && int64(len(list)) < side*min(side, 1<<20) {
		if p := at(r.Int63n(side), r.Int63n(side)); !slices.Contains(list, p) {
			list = append(list, p)
		}
	}
	return list
}
