package pdt

import (
	"slices"

	"zellige/api"
	"zellige/bucket"
	"zellige/circum"
	"zellige/cover"
	"zellige/hole"
	"zellige/lift"
	"zellige/mesh"
	"zellige/star"
	"zellige/walk"
)

// sheet is the Delaunay mesh of one site or more, of one sheet or of nine.
// What star and hole ask for holds at any time: each circle is small against the mesh's side. Of nine sheets it always is: a circle without any of a site's places within is no wider than a square's diagonal, which is less than three halves of the square's side.
type sheet struct {
	*mesh.Mesh
	n     int64            // the side of the sites' torus
	verts map[int][]int    // of each id its vertices: one, or nine
	great map[int]struct{} // the faces whose circles are not small against n
	grid  *bucket.Grid
}

// first is the mesh of one site.
func first(n int64, id int, p api.Point) *sheet {
	m := mesh.New(n)
	v := m.AddVert(p, id)
	all := [3]int{v, v, v}
	m.AddFace(api.Tri{V: all, Off: [3]api.Off{{}, {X: 1}, {Y: 1}}})
	m.AddFace(api.Tri{V: all, Off: [3]api.Off{{X: 1}, {X: 1, Y: 1}, {Y: 1}}})
	return over(cover.Nine(m), n)
}

// over is the sheet of that mesh, for sites on the torus of side n.
func over(m *mesh.Mesh, n int64) *sheet {
	s := &sheet{
		Mesh:  m,
		n:     n,
		verts: map[int][]int{},
		great: map[int]struct{}{},
		grid:  bucket.New(m.Side(), api.MaxCells),
	}
	d := m.Dump()
	for _, v := range d.Verts {
		s.know(v.No, v.At, v.ID)
	}
	for _, c := range d.Faces {
		s.judge(c.No)
	}
	return s
}

// sheets is how many sheets there are, each way.
func (s *sheet) sheets() int {
	return int(s.Side() / s.n)
}

// settled is the mesh of as many sheets as its circles ask for.
func (s *sheet) settled() *sheet {
	if s.sheets() == 1 && len(s.great) > 0 {
		return over(cover.Nine(s.Mesh), s.n)
	}
	if s.sheets() == 3 && len(s.great) == 0 {
		one, _ := cover.One(s.Mesh)
		return over(one, s.n)
	}
	return s
}

// put puts the id's site, on each sheet; the sites of the ids beside it should lie near.
func (s *sheet) put(id int, p api.Point, beside []int) {
	for right := range s.sheets() {
		for up := range s.sheets() {
			at, _ := lift.At(p, api.Off{X: right, Y: up}, s.n)
			s.putVert(id, at, s.faceNear(at, beside))
		}
	}
}

// drop takes the id's site away, which is not the only one, and tells whether that could be done: if not, the mesh is of no use any more.
func (s *sheet) drop(id int) bool {
	verts := s.verts[id]
	delete(s.verts, id)
	return s.dropVerts(verts)
}

// move is drop, and put of the id's new site. The new one comes first: so there is always one, and circles are no greater meanwhile than they are ahead of it, or behind it.
func (s *sheet) move(id int, p api.Point, beside []int) bool {
	verts := s.verts[id]
	delete(s.verts, id)
	s.put(id, p, beside)
	return s.dropVerts(verts)
}

// putVert puts a vertex at p, which lies in the first square, where none is; one goes there from a face.
func (s *sheet) putVert(id int, p api.Point, from int) {
	f, by, _, _ := walk.Find(s.Mesh, from, p, api.Fuel)
	v, faces, ok := star.Insert(s.Mesh, f, by, p, id)
	if !ok {
		v, faces = s.dig(api.Hit{Face: f, By: by}, p, id)
	}
	s.know(v, p, id)
	// These are more than were dropped, and a number that came back is lent first: so no dropped face's number is left out.
	for _, f := range faces {
		s.judge(f)
	}
}

// dropVerts takes these vertices away, and tells whether all of them could be.
func (s *sheet) dropVerts(verts []int) bool {
	for _, v := range verts {
		was, _ := s.Vert(v)
		around := s.Around(v)
		faces, ok := hole.Remove(s.Mesh, v)
		if !ok {
			return false
		}
		s.grid.Drop(v, was.At)
		for _, f := range around {
			delete(s.great, f)
		}
		for _, f := range faces {
			s.judge(f)
		}
	}
	return true
}

// know notes where a vertex lies, and which id's it is.
func (s *sheet) know(v int, p api.Point, id int) {
	s.verts[id] = append(s.verts[id], v)
	s.grid.Put(v, p)
}

// judge notes whether the face's circle is small against n.
func (s *sheet) judge(f int) {
	a, _ := s.Corner(f, 0)
	b, _ := s.Corner(f, 1)
	c, _ := s.Corner(f, 2)
	if circum.Small(a, b, c, s.n) {
		delete(s.great, f)
		return
	}
	s.great[f] = struct{}{}
}

// faceNear is a face from which it should not be far to p.
func (s *sheet) faceNear(p api.Point, beside []int) int {
	v := s.vertNear(p, beside)
	around := s.Around(v)
	for _, f := range around {
		// One goes from where a face was put, and that may be on the far side of the torus.
		if t, _ := s.Face(f); t.Off[slices.Index(t.V[:], v)] == (api.Off{}) {
			return f
		}
	}
	return around[0]
}

// vertNear is a vertex from which it should not be far to p.
func (s *sheet) vertNear(p api.Point, beside []int) int {
	best := s.grid.Near(p)
	// A cell that many sites crowd into has far ends, too.
	for _, id := range beside {
		for _, v := range s.verts[id] {
			if s.far(v, p) < s.far(best, p) {
				best = v
			}
		}
	}
	return best
}

// far is how far the vertex lies from p, to the right and up together.
func (s *sheet) far(v int, p api.Point) int64 {
	told, _ := s.Vert(v)
	right, up := told.At.X-p.X, told.At.Y-p.Y
	return max(right, -right) + max(up, -up)
}
