package hole_test

import (
	"math/big"
	"math/rand"
	"slices"
	"testing"

	"zellige/api"
	"zellige/circum"
	"zellige/hole"
	"zellige/lift"
	"zellige/mesh"
	"zellige/pred"
	"zellige/tie"
)

// end is the greatest number that a point may have, written out apart from api.
const end = 1099511627776

func at(x, y int64) api.Point {
	return api.Point{X: x, Y: y}
}

func off(x, y int) api.Off {
	return api.Off{X: x, Y: y}
}

// knot is the vertex v, x sides to the right and y up.
func knot(v, x, y int) api.Knot {
	return api.Knot{V: v, Off: off(x, y)}
}

func plus(a, b api.Off) api.Off {
	return api.Off{X: a.X + b.X, Y: a.Y + b.Y}
}

func minus(a, b api.Off) api.Off {
	return api.Off{X: a.X - b.X, Y: a.Y - b.Y}
}

// tri is a face of the vertices a, b, c, off by those.
func tri(a, b, c int, oa, ob, oc api.Off) api.Tri {
	return api.Tri{V: [3]int{a, b, c}, Off: [3]api.Off{oa, ob, oc}}
}

// flat is a face none of whose corners is off.
func flat(a, b, c int) api.Tri {
	return api.Tri{V: [3]int{a, b, c}}
}

// moved is the face with all its corners so much farther off.
func moved(t api.Tri, by api.Off) api.Tri {
	for i := range t.Off {
		t.Off[i] = plus(t.Off[i], by)
	}
	return t
}

// from is the face told from its corner i on.
func from(t api.Tri, i int) api.Tri {
	var u api.Tri
	for k := range 3 {
		u.V[k], u.Off[k] = t.V[(i+k)%3], t.Off[(i+k)%3]
	}
	return u
}

// build is a mesh of these vertices, whose ids are 100 and on, and of these faces, all of which are to be taken.
func build(t *testing.T, side int64, verts []api.Point, faces ...api.Tri) *mesh.Mesh {
	t.Helper()
	m := mesh.New(side)
	for i, p := range verts {
		if v := m.AddVert(p, 100+i); v != i {
			t.Fatalf("AddVert(%v): %d", p, v)
		}
	}
	for i, u := range faces {
		if f, e := m.AddFace(u); f != i || e != api.OK {
			t.Fatalf("AddFace(%v): %d %d", u, f, e)
		}
	}
	return m
}

// copied is another mesh that has the same vertices and faces with the same numbers, which must have no gaps.
func copied(t *testing.T, m *mesh.Mesh) *mesh.Mesh {
	t.Helper()
	d := m.Dump()
	verts := make([]api.Point, len(d.Verts))
	for i, v := range d.Verts {
		verts[i] = v.At
	}
	faces := make([]api.Tri, len(d.Faces))
	for i, c := range d.Faces {
		faces[i] = c.Tri
	}
	w := build(t, d.Side, verts, faces...)
	same(t, w, d)
	return w
}

// same holds a dump against what the mesh is now.
func same(t *testing.T, m *mesh.Mesh, want api.Dump) {
	t.Helper()
	got := m.Dump()
	if got.Side != want.Side || !slices.Equal(got.Verts, want.Verts) || !slices.Equal(got.Faces, want.Faces) {
		t.Fatalf("the mesh is %v, not %v", got, want)
	}
}

// one is the mesh of the vertex 0 0 and of the two halves of its square.
func one(t *testing.T, side int64) *mesh.Mesh {
	t.Helper()
	return strip(t, side, 1, 1)
}

// strip are the halves of a square that goes so many sides to the right and up from one vertex: they close up, and lie over the torus many times.
func strip(t *testing.T, side int64, right, up int) *mesh.Mesh {
	t.Helper()
	return build(t, side, []api.Point{at(0, 0)},
		tri(0, 0, 0, off(0, 0), off(right, 0), off(0, up)), tri(0, 0, 0, off(right, 0), off(right, up), off(0, up)))
}

// grid is k by k vertices, gap apart from 1 1 on, each square halved from right below to left above: the face 2 (k x + y) is the lower half of a square, the next one the upper half.
func grid(t *testing.T, k int, gap int64) *mesh.Mesh {
	t.Helper()
	var verts []api.Point
	var faces []api.Tri
	node := func(x, y int) (int, api.Off) { return x%k*k + y%k, off(x/k, y/k) }
	for x := range k {
		for y := range k {
			verts = append(verts, at(int64(x)*gap+1, int64(y)*gap+1))
			a, oa := node(x, y)
			b, ob := node(x+1, y)
			c, oc := node(x+1, y+1)
			d, od := node(x, y+1)
			faces = append(faces, tri(a, b, d, oa, ob, od), tri(b, c, d, ob, oc, od))
		}
	}
	return build(t, int64(k)*gap, verts, faces...)
}

// wheel is the vertex 0 with so many faces all about it, each of it and of two that follow one another on a square's edge about it.
func wheel(t *testing.T, many int) *mesh.Mesh {
	t.Helper()
	edge := (many + 3) / 4
	rest := 4*edge - many
	verts := []api.Point{at(int64(edge), int64(edge))}
	for i := range 4 * edge {
		// The square's own corners are never left out.
		if 0 < i && i <= rest {
			continue
		}
		to, e := 2*int64(i%edge), 2*int64(edge)
		verts = append(verts, []api.Point{at(to, 0), at(e, to), at(e-to, e), at(0, e-to)}[i/edge])
	}
	var faces []api.Tri
	for i := range many {
		faces = append(faces, flat(0, 1+i, 1+(i+1)%many))
	}
	return build(t, api.MaxSide, verts, faces...)
}

// cornersAt is how many corners of faces lie at v.
func cornersAt(d api.Dump, v int) int {
	n := 0
	for _, c := range d.Faces {
		for _, w := range c.Tri.V {
			if w == v {
				n++
			}
		}
	}
	return n
}

// isClosed tells whether each edge of each face has a face across.
func isClosed(m *mesh.Mesh) bool {
	for _, c := range m.Dump().Faces {
		for i := range 3 {
			if _, _, _, ok := m.Across(c.No, i); !ok {
				return false
			}
		}
	}
	return true
}

// slowRing is Ring by the words: moved faces are held against one another knot by knot.
func slowRing(d api.Dump, v int) ([]api.Knot, []int, bool) {
	first := slices.IndexFunc(d.Faces, func(c api.Cell) bool { return slices.Contains(c.Tri.V[:], v) })
	if first < 0 {
		return nil, nil, false
	}
	here := d.Faces[first]
	here.Tri = moved(here.Tri, minus(off(0, 0), here.Tri.Off[slices.Index(here.Tri.V[:], v)]))
	start := here
	var knots []api.Knot
	var faces []int
	for {
		i := 0
		for here.Tri.V[i] != v || here.Tri.Off[i] != off(0, 0) {
			i++
		}
		u := from(here.Tri, i)
		knots, faces = append(knots, api.Knot{V: u.V[1], Off: u.Off[1]}), append(faces, here.No)
		next, ok := across(d, api.Knot{V: u.V[2], Off: u.Off[2]}, v)
		if !ok || len(faces) > 100000 {
			return nil, nil, false
		}
		if next == start {
			return knots, faces, true
		}
		here = next
	}
}

// across is the face, moved, that has an edge from v, not moved, to that knot.
func across(d api.Dump, k api.Knot, v int) (api.Cell, bool) {
	for _, c := range d.Faces {
		for i := range 3 {
			u := moved(c.Tri, minus(off(0, 0), c.Tri.Off[i]))
			if j := (i + 1) % 3; u.V[i] == v && u.V[j] == k.V && u.Off[j] == k.Off {
				return api.Cell{No: c.No, Tri: u}, true
			}
		}
	}
	return api.Cell{}, false
}

// slowBest is tie.Best by P8.2's words.
func slowBest(a, b api.Point, l []api.Point) int {
	return slices.IndexFunc(l, func(c api.Point) bool {
		return pred.Orient(a, b, c) == 1 && !slices.ContainsFunc(l, func(d api.Point) bool {
			return pred.Orient(a, b, d) == 1 && tie.Conflict(a, b, c, d)
		})
	})
}

// slowFill is Fill by the words: what is left to be filled lies on a heap, the one that comes next on top.
func slowFill(l []api.Point) ([][3]int, bool) {
	if len(l) < 3 || len(l) > 500 {
		return nil, false
	}
	type corner struct {
		at    api.Point
		place int
	}
	var all []corner
	for i, p := range l {
		all = append(all, corner{p, i})
	}
	var list [][3]int
	for heap := [][]corner{all}; len(heap) > 0; {
		top := heap[len(heap)-1]
		heap = heap[:len(heap)-1]
		var others []api.Point
		for _, c := range top[2:] {
			others = append(others, c.at)
		}
		c := slowBest(top[0].at, top[1].at, others)
		if c < 0 {
			return nil, false
		}
		c += 2
		list = append(list, [3]int{top[0].place, top[1].place, top[c].place})
		if side := append(slices.Clone(top[c:]), top[0]); len(side) >= 3 {
			heap = append(heap, side)
		}
		if side := slices.Clone(top[1 : c+1]); len(side) >= 3 {
			heap = append(heap, side)
		}
	}
	return list, true
}

// slowPlan is Plan by the words, and the ring's faces.
func slowPlan(d api.Dump, v int) ([]api.Tri, []int, bool) {
	knots, faces, ok := slowRing(d, v)
	if !ok {
		return nil, nil, false
	}
	var corners []api.Point
	for i, k := range knots {
		if k.V == v || slices.Contains(faces[:i], faces[i]) {
			return nil, nil, false
		}
		corners = append(corners, place(d, k))
	}
	list, ok := slowFill(corners)
	if !ok {
		return nil, nil, false
	}
	var plan []api.Tri
	for _, x := range list {
		a, b, c := knots[x[0]], knots[x[1]], knots[x[2]]
		plan = append(plan, tri(a.V, b.V, c.V, a.Off, b.Off, c.Off))
	}
	return plan, faces, true
}

// place is where a knot lies, by math/big; of one that can't be, a point that can't be.
func place(d api.Dump, k api.Knot) api.Point {
	n := slices.IndexFunc(d.Verts, func(v api.Vert) bool { return v.No == k.V })
	along := func(from int64, sides int) int64 {
		far := new(big.Int).Mul(big.NewInt(int64(sides)), big.NewInt(d.Side))
		far.Add(far, big.NewInt(from))
		if far.CmpAbs(big.NewInt(end)) > 0 {
			return end + 1
		}
		return far.Int64()
	}
	return at(along(d.Verts[n].At.X, k.Off.X), along(d.Verts[n].At.Y, k.Off.Y))
}

// holdRing holds Ring against the words, and answers it.
func holdRing(t *testing.T, m *mesh.Mesh, v int) ([]api.Knot, []int, bool) {
	t.Helper()
	d := m.Dump()
	knots, faces, ok := hole.Ring(m, v)
	knots2, faces2, ok2 := slowRing(d, v)
	if !slices.Equal(knots, knots2) || !slices.Equal(faces, faces2) || ok != ok2 {
		t.Fatalf("Ring(%d) of %v: %v %v %v, not %v %v %v", v, d, knots, faces, ok, knots2, faces2, ok2)
	}
	same(t, m, d)
	return knots, faces, ok
}

// holdFill holds Fill against the words, and that it is a filling, and answers it.
func holdFill(t *testing.T, l []api.Point) ([][3]int, bool) {
	t.Helper()
	kept := slices.Clone(l)
	got, ok := hole.Fill(l)
	want, ok2 := slowFill(l)
	if !slices.Equal(got, want) || ok != ok2 {
		t.Fatalf("Fill(%v): %v %v, not %v %v", l, got, ok, want, ok2)
	}
	if !slices.Equal(l, kept) {
		t.Fatalf("%v became %v", kept, l)
	}
	if ok {
		isFilling(t, l, got)
	}
	return got, ok
}

// isFilling holds P13.6, and that the triangles turn left, have all edges of the hole once and each other one both ways, and are as great as it.
func isFilling(t *testing.T, l []api.Point, list [][3]int) {
	t.Helper()
	if len(list) != len(l)-2 {
		t.Fatalf("%v has the triangles %v", l, list)
	}
	edges := map[[2]int]int{}
	sum := new(big.Int)
	for _, x := range list {
		if pred.Orient(l[x[0]], l[x[1]], l[x[2]]) != 1 {
			t.Fatalf("%v of %v does not turn left", x, l)
		}
		sum.Add(sum, area2(l[x[0]], l[x[1]], l[x[2]]))
		for i := range 3 {
			edges[[2]int{x[i], x[(i+1)%3]}]++
		}
	}
	if sum.Cmp(area2(l...)) != 0 {
		t.Fatalf("%v is not as great as %v", list, l)
	}
	for e, n := range edges {
		rim := e[1] == (e[0]+1)%len(l)
		if n != 1 || (edges[[2]int{e[1], e[0]}] == 0) != rim {
			t.Fatalf("%v of %v: the edge %v", list, l, e)
		}
	}
}

// area2 is twice the area of a polygon, by math/big.
func area2(l ...api.Point) *big.Int {
	sum := new(big.Int)
	for i, p := range l {
		q := l[(i+1)%len(l)]
		sum.Add(sum, new(big.Int).Mul(big.NewInt(p.X), big.NewInt(q.Y)))
		sum.Sub(sum, new(big.Int).Mul(big.NewInt(p.Y), big.NewInt(q.X)))
	}
	return sum
}

// holdPlan holds Plan against the words, and answers it.
func holdPlan(t *testing.T, m *mesh.Mesh, v int) ([]api.Tri, bool) {
	t.Helper()
	d := m.Dump()
	got, ok := hole.Plan(m, v)
	want, _, ok2 := slowPlan(d, v)
	if !slices.Equal(got, want) || ok != ok2 {
		t.Fatalf("Plan(%d) of %v: %v %v, not %v %v", v, d, got, ok, want, ok2)
	}
	same(t, m, d)
	return got, ok
}

// removeByWords does to m what P13.3 says, step by step, and tells whether the mesh let it.
func removeByWords(m *mesh.Mesh, v int) ([]int, bool) {
	plan, faces, ok := slowPlan(m.Dump(), v)
	for _, f := range faces {
		ok = m.DropFace(f) && ok
	}
	if !ok || !m.DropVert(v) {
		return nil, false
	}
	var put []int
	for _, u := range plan {
		f, e := m.AddFace(u)
		if e != api.OK {
			return nil, false
		}
		put = append(put, f)
	}
	return put, true
}

// holdRemove holds Ring, Plan and Remove against the words, done to w, which is to be as m is, and answers whether it was done.
func holdRemove(t *testing.T, m, w *mesh.Mesh, v int) bool {
	t.Helper()
	holdRing(t, m, v)
	if _, ok := holdPlan(t, m, v); !ok {
		refused(t, m, w, v)
		return false
	}
	d := m.Dump()
	want, ok := removeByWords(w, v)
	if !ok {
		t.Fatalf("the mesh %v does not let %d go", d, v)
	}
	got, ok := hole.Remove(m, v)
	if !ok || !slices.Equal(got, want) {
		t.Fatalf("Remove(%d) of %v: %v %v, not %v true", v, d, got, ok, want)
	}
	same(t, m, w.Dump())
	return true
}

// refused holds that Remove answers none and false, and that nothing is changed: numbers that are lent behind it are those that are lent in w, which is to be as m is.
func refused(t *testing.T, m, w *mesh.Mesh, v int) {
	t.Helper()
	d := m.Dump()
	if faces, ok := hole.Remove(m, v); len(faces) != 0 || ok {
		t.Fatalf("Remove(%d) of %v: %v %v", v, d, faces, ok)
	}
	same(t, m, d)
	same(t, m, w.Dump())
	for _, a := range d.Verts {
		if !slices.Equal(m.Around(a.No), w.Around(a.No)) {
			t.Fatalf("about %d: %v", a.No, m.Around(a.No))
		}
	}
	for _, c := range d.Faces {
		for i := range 3 {
			f, k, by, ok := m.Across(c.No, i)
			if f2, k2, by2, ok2 := w.Across(c.No, i); f != f2 || k != k2 || by != by2 || ok != ok2 {
				t.Fatalf("across from %d of %d: %d %d %v %v", i, c.No, f, k, by, ok)
			}
		}
	}
	if m.Check() != w.Check() {
		t.Fatal(m.Check())
	}
	if got, want := lent(m), lent(w); !slices.Equal(got, want) {
		t.Fatalf("%v are lent, not %v", got, want)
	}
	same(t, m, d)
}

// lent are the numbers that the mesh lends next; behind it all is as it was.
func lent(m *mesh.Mesh) []int {
	var list []int
	for range 3 {
		list = append(list, m.AddVert(at(0, 0), 0))
	}
	a, b, c := list[0], list[1], list[2]
	for i := range 12 {
		f, _ := m.AddFace(tri(a, b, c, off(0, 0), off(i+1, 0), off(-i, 1)))
		list = append(list, f)
	}
	// The last one first, so that they would be lent again in the same order.
	for i := len(list) - 1; i >= 3; i-- {
		m.DropFace(list[i])
	}
	for i := 2; i >= 0; i-- {
		m.DropVert(list[i])
	}
	return list
}

// class is a triangle over the torus: its corners, turning left, moved by whole sides so that the first one lies in the first square, and from the corner on that makes it the least.
type class [3]api.Point

func cmpClass(a, b class) int {
	for i := range a {
		if c := lift.Cmp(a[i], b[i]); c != 0 {
			return c
		}
	}
	return 0
}

func classOf(c [3]api.Point, side int64) class {
	var all []class
	for i := range 3 {
		_, o, _ := lift.Home(c[i], side)
		var k class
		for j := range 3 {
			k[j] = at(c[(i+j)%3].X-int64(o.X)*side, c[(i+j)%3].Y-int64(o.Y)*side)
		}
		all = append(all, k)
	}
	return slices.MinFunc(all, cmpClass)
}

// classes are those of all faces of a mesh, in order.
func classes(m *mesh.Mesh) []class {
	var list []class
	for _, c := range m.Dump().Faces {
		var at [3]api.Point
		for i := range 3 {
			at[i], _ = m.Corner(c.No, i)
		}
		list = append(list, classOf(at, m.Side()))
	}
	slices.SortFunc(list, cmpClass)
	return list
}

// sitesOf are where the vertices of a mesh lie.
func sitesOf(m *mesh.Mesh) []api.Point {
	var list []api.Point
	for _, v := range m.Dump().Verts {
		list = append(list, v.At)
	}
	return list
}

// about are all places of the sites by -2 to 2 sides off: no circle that has none of a site's places within is wider than a square's diagonal, so that all corners of a face lie there, if one lies in the first square.
func about(side int64, sites []api.Point) []api.Point {
	var list []api.Point
	for _, p := range sites {
		list = append(list, lift.Window(p, side, 2)...)
	}
	return list
}

// wrap are the classes of the Delaunay mesh (18) of different sites: from an edge that is in it, from a site to the nearest place, one goes on to the third corner of each edge's face, and so from edge to edge.
func wrap(t *testing.T, side int64, sites []api.Point) []class {
	t.Helper()
	places := about(side, sites)
	a := sites[0]
	near := slices.MinFunc(places, func(p, q api.Point) int {
		return cmpDist(a, p, q)
	})
	todo := [][2]api.Point{{a, near}}
	seen := map[[2]api.Point]bool{}
	found := map[class]bool{}
	for len(todo) > 0 {
		e := todo[0]
		todo = todo[1:]
		_, o, _ := lift.Home(e[0], side)
		for i := range e {
			e[i] = at(e[i].X-int64(o.X)*side, e[i].Y-int64(o.Y)*side)
		}
		if seen[e] {
			continue
		}
		seen[e] = true
		c := places[tie.Best(e[0], e[1], places)]
		found[classOf([3]api.Point{e[0], e[1], c}, side)] = true
		todo = append(todo, [2]api.Point{e[1], e[0]}, [2]api.Point{e[1], c}, [2]api.Point{c, e[0]})
	}
	var list []class
	for k := range found {
		list = append(list, k)
	}
	slices.SortFunc(list, cmpClass)
	if len(list) != 2*len(sites) {
		t.Fatalf("side %d, %v: %d faces", side, sites, len(list))
	}
	return list
}

// cmpDist is whether p or q is nearer to a, a itself being the farthest.
func cmpDist(a, p, q api.Point) int {
	if p == a || q == a {
		if p == q {
			return 0
		}
		if p == a {
			return 1
		}
		return -1
	}
	far := func(p api.Point) *big.Int {
		x, y := big.NewInt(p.X-a.X), big.NewInt(p.Y-a.Y)
		return x.Mul(x, x).Add(x, y.Mul(y, y))
	}
	return far(p).Cmp(far(q))
}

// delaunay is the Delaunay mesh (18) of different sites; its faces come in any order, moved anyhow, from any corner on.
func delaunay(t *testing.T, side int64, sites []api.Point, r *rand.Rand) *mesh.Mesh {
	t.Helper()
	number := map[api.Point]int{}
	for i, p := range sites {
		number[p] = i
	}
	list := wrap(t, side, sites)
	r.Shuffle(len(list), func(i, k int) { list[i], list[k] = list[k], list[i] })
	var faces []api.Tri
	for _, k := range list {
		var u api.Tri
		for i, p := range k {
			home, o, _ := lift.Home(p, side)
			u.V[i], u.Off[i] = number[home], o
		}
		faces = append(faces, moved(from(u, r.Intn(3)), off(r.Intn(5)-2, r.Intn(5)-2)))
	}
	m := build(t, side, sites, faces...)
	if e := m.Check(); e != api.OK {
		t.Fatalf("side %d, %v: Check is %d", side, sites, e)
	}
	return m
}

// isDelaunay holds that m is the Delaunay mesh of its vertices (18): its faces are those that wrap tells, and, asked point by point, none of the places about a face does away with it.
func isDelaunay(t *testing.T, m *mesh.Mesh) {
	t.Helper()
	if e := m.Check(); e != api.OK {
		t.Fatal(e)
	}
	sites := sitesOf(m)
	list := classes(m)
	if want := wrap(t, m.Side(), sites); !slices.Equal(list, want) {
		t.Fatalf("side %d, %v: %v, not %v", m.Side(), sites, list, want)
	}
	places := about(m.Side(), sites)
	for _, k := range list {
		for _, p := range places {
			if tie.Conflict(k[0], k[1], k[2], p) {
				t.Fatalf("side %d, %v: %v does away with %v", m.Side(), sites, p, k)
			}
		}
	}
}

// allSmall tells whether each face's circle is small against the side (9).
func allSmall(m *mesh.Mesh) bool {
	for _, k := range classes(m) {
		if !circum.Small(k[0], k[1], k[2], m.Side()) {
			return false
		}
	}
	return true
}

// someSites are so many different sites, at most as many as there are.
func someSites(r *rand.Rand, side int64, many int) []api.Point {
	var list []api.Point
	for len(list) < many && int64(len(list)) < side*min(side, 1<<20) {
		if p := at(r.Int63n(side), r.Int63n(side)); !slices.Contains(list, p) {
			list = append(list, p)
		}
	}
	return list
}

// nine are the sites' places on the torus of three sides, nine of each.
func nine(side int64, sites []api.Point) []api.Point {
	var list []api.Point
	for _, p := range sites {
		for x := range int64(3) {
			for y := range int64(3) {
				list = append(list, at(p.X+x*side, p.Y+y*side))
			}
		}
	}
	return list
}

// scrambled is a closed mesh that is no Delaunay mesh: a grid into whose faces vertices were put, without any look at circles.
func scrambled(t *testing.T, r *rand.Rand, k, many int) *mesh.Mesh {
	t.Helper()
	m := grid(t, k, 40000)
	for range many {
		cells := m.Dump().Faces
		c := cells[r.Intn(len(cells))]
		// Anywhere within the face.
		weights := [3]int64{1 + r.Int63n(9), 1 + r.Int63n(9), 1 + r.Int63n(9)}
		var sum api.Point
		for i, w := range weights {
			q, _ := m.Corner(c.No, i)
			sum = at(sum.X+w*q.X, sum.Y+w*q.Y)
		}
		all := weights[0] + weights[1] + weights[2]
		home, o, _ := lift.Home(at(sum.X/all, sum.Y/all), m.Side())
		v := m.AddVert(home, 100+len(m.Dump().Verts))
		m.DropFace(c.No)
		for i := range 3 {
			j := (i + 1) % 3
			if _, e := m.AddFace(tri(c.Tri.V[i], c.Tri.V[j], v, c.Tri.Off[i], c.Tri.Off[j], o)); e != api.OK {
				t.Fatal(e)
			}
		}
	}
	if m.Check() != api.OK {
		t.Fatal("no mesh")
	}
	return m
}
