package pdt

import (
	"math/rand"
	"slices"
	"testing"

	"zellige/api"
	"zellige/cover"
	"zellige/mesh"
	"zellige/star"
	"zellige/walk"
)

// anywhere are so many different sites.
func anywhere(r *rand.Rand, n int64, many int) []api.Place {
	var l []api.Place
	met := map[api.Point]bool{}
	for len(l) < many {
		p := api.Point{X: r.Int63n(n), Y: r.Int63n(n)}
		if !met[p] {
			met[p] = true
			l = append(l, api.Place{ID: len(l), At: p})
		}
	}
	return l
}

// laid is the mesh of these places, laid at once.
func laid(t *testing.T, n int64, l []api.Place) *sheet {
	t.Helper()
	e, _ := Open(n, api.MaxM)
	if err := e.Set(l); err != api.OK {
		t.Fatal(err)
	}
	return e.sheet
}

// sameDump tells whether two meshes are the same, numbers and all.
func sameDump(a, b *mesh.Mesh) bool {
	x, y := a.Dump(), b.Dump()
	return x.Side == y.Side && slices.Equal(x.Verts, y.Verts) && slices.Equal(x.Faces, y.Faces)
}

// What digs without a bound does what star.Insert does within it.
func TestDigAsStar(t *testing.T) {
	r := rand.New(rand.NewSource(1))
	for _, c := range []struct {
		n    int64
		many int
	}{{5, 1}, {5, 3}, {12, 20}, {12, 100}, {api.MaxN, 5}, {api.MaxN, 60}} {
		for range 20 {
			l := anywhere(r, c.n, c.many+1)
			a, b := laid(t, c.n, l[1:]), laid(t, c.n, l[1:])
			if !sameDump(a.Mesh, b.Mesh) {
				t.Fatal("two meshes of the same places")
			}
			p := l[0].At
			f, by, _, _ := walk.Find(a.Mesh, a.faceNear(p, nil), p, api.Fuel)
			first := api.Hit{Face: f, By: by}
			hits := a.hits(first, p)
			v, faces := a.dig(first, p, 99)
			w, others, ok := star.Insert(b.Mesh, f, by, p, 99)
			if !ok || v != w || len(faces) != len(hits)+2 || len(faces) != len(others) || a.Check() != api.OK {
				t.Fatalf("n %d, %v: %d %v, not %d %v", c.n, l, v, faces, w, others)
			}
			// The faces are the same, but for their numbers.
			if x, y := kinds(a.Mesh), kinds(b.Mesh); !slices.Equal(x, y) {
				t.Fatalf("n %d, %v: %v, not %v", c.n, l, x, y)
			}
		}
	}
}

// kinds are a mesh's faces, however they are told.
func kinds(m *mesh.Mesh) []api.Tri {
	var l []api.Tri
	for _, c := range m.Dump().Faces {
		l = append(l, cover.Normal(c.Tri))
	}
	slices.SortFunc(l, cover.Cmp)
	return l
}

// onLine is the Delaunay mesh of so many sites on the left edge of a torus, gap apart, with a tenth of the torus left free below them and above: one sheet, whose circles are as wide as the torus, and a little more.
func onLine(t *testing.T, many int, gap int64) *sheet {
	t.Helper()
	n := int64(many) * gap / 9 * 10
	m := mesh.New(n)
	for i := range many {
		m.AddVert(api.Point{Y: n/20 + int64(i)*gap}, i)
	}
	for i := range many {
		k, up := (i+1)%many, (i+1)/many
		for _, u := range []api.Tri{
			{V: [3]int{i, i, k}, Off: [3]api.Off{{}, {X: 1}, {Y: up}}},
			{V: [3]int{i, k, k}, Off: [3]api.Off{{X: 1}, {X: 1, Y: up}, {Y: up}}},
		} {
			if _, err := m.AddFace(u); err != api.OK {
				t.Fatal(err)
			}
		}
	}
	return over(m, n)
}

// A point between two lines of sites does away with about two faces of each site, and so with more than star goes through; the mesh is the Delaunay mesh all the same.
// The circles are too wide for one sheet; but beside the middle between the lines, no circle is so wide that the point lies in one face twice.
func TestManyHits(t *testing.T) {
	for _, many := range []int{100, api.MaxHits/2 + 500} {
		s := onLine(t, many, 90)
		p := api.Point{X: s.n / 10 * 7, Y: s.n/2 + 1}
		f, by, _, _ := walk.Find(s.Mesh, s.faceNear(p, nil), p, api.Fuel)
		if hits := star.Hits(s.Mesh, f, by, p); (len(hits) == 0) != (2*many > api.MaxHits) {
			t.Fatalf("%d sites: %d hits", many, len(hits))
		}
		s.putVert(many, p, s.faceNear(p, nil))
		if len(s.verts[many]) != 1 || s.Check() != api.OK {
			t.Fatalf("%d sites: no mesh", many)
		}
		around := s.Around(s.verts[many][0])
		if len(around) < 2*many-2 {
			t.Fatalf("%d sites: %d faces", many, len(around))
		}
		isLocal(t, s, around)
		isJudged(t, s)
	}
}

// isLocal holds these faces against those across their edges.
func isLocal(t *testing.T, s *sheet, faces []int) {
	t.Helper()
	for _, f := range faces {
		for i := range 3 {
			g, k, by, _ := s.Across(f, i)
			q, _ := s.Corner(g, k)
			q = api.Point{X: q.X + int64(by.X)*s.Side(), Y: q.Y + int64(by.Y)*s.Side()}
			if s.doesAway(api.Hit{Face: f}, q) {
				t.Fatalf("%v does away with the face %d", q, f)
			}
		}
	}
}

// isJudged holds what is noted of faces and vertices against all that there are.
func isJudged(t *testing.T, s *sheet) {
	t.Helper()
	fresh := over(s.Mesh, s.n)
	if len(fresh.great) != len(s.great) || len(fresh.verts) != len(s.verts) || fresh.grid.Len() != s.grid.Len() {
		t.Fatalf("%d great faces, %d ids, %d in the grid, not %d, %d, %d", len(s.great), len(s.verts), s.grid.Len(), len(fresh.great), len(fresh.verts), fresh.grid.Len())
	}
	for f := range s.great {
		if _, ok := fresh.great[f]; !ok {
			t.Fatalf("the face %d is not great", f)
		}
	}
	for id, verts := range s.verts {
		if !slices.Equal(slices.Sorted(slices.Values(verts)), slices.Sorted(slices.Values(fresh.verts[id]))) {
			t.Fatalf("the vertices of %d are %v", id, verts)
		}
	}
}

// What is noted of faces and vertices stays true, whatever is done.
func TestJudged(t *testing.T) {
	r := rand.New(rand.NewSource(2))
	for _, n := range []int64{3, 12, 40, api.MaxN} {
		e, _ := Open(n, 40)
		for range 300 {
			p := api.Point{X: r.Int63n(n), Y: r.Int63n(n)}
			switch r.Intn(5) {
			case 0, 1:
				e.Insert(p)
			case 2:
				e.Remove(r.Intn(40))
			case 3:
				e.Move(r.Intn(40), p)
			case 4:
				l := e.Sites()
				e.Set(l[:r.Intn(len(l)+1)])
			}
			if e.sheet == nil {
				continue
			}
			isJudged(t, e.sheet)
			for id, verts := range e.sheet.verts {
				for _, v := range verts {
					if told, ok := e.sheet.Vert(v); !ok || told.ID != id {
						t.Fatalf("the vertex %d of %d is %v", v, id, told)
					}
				}
			}
		}
	}
}

// All places are laid, and the mesh, numbers and all, hangs on which they are alone, not on their order.
func TestLay(t *testing.T) {
	r := rand.New(rand.NewSource(3))
	for many := 1; many < 70; many++ {
		l := anywhere(r, 1000, many)
		s := laid(t, 1000, l)
		if len(s.verts) != many || s.Check() != api.OK {
			t.Fatalf("%d ids of %d", len(s.verts), many)
		}
		r.Shuffle(many, func(i, k int) { l[i], l[k] = l[k], l[i] })
		if !sameDump(s.Mesh, laid(t, 1000, l).Mesh) {
			t.Fatalf("another mesh of %v", l)
		}
	}
	if laid(t, 1000, nil) != nil {
		t.Fatal("a mesh without places")
	}
}

// What comes back is kept but once, however often ids come and go.
func TestVacantStaysSmall(t *testing.T) {
	e, _ := Open(100, 50)
	for i := range 50 {
		e.Insert(api.Point{X: int64(i), Y: int64(i*i) % 100})
	}
	l := e.Sites()
	for range 30 {
		e.Remove(7)
		e.Set(l[:49])
		e.Remove(3)
		e.Remove(5)
		e.Insert(api.Point{X: 99, Y: 98})
		e.Set(l)
		e.Remove(9)
		e.Insert(l[9].At)
	}
	if len(e.vacant.back) > 50 {
		t.Fatalf("%d ids came back", len(e.vacant.back))
	}
}
