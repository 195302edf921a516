package unfold

import (
	"zellige/api"
	"zellige/cover"
	"zellige/lift"
	"zellige/pred"
	"zellige/tie"
	"zellige/wide"
)

// plan is faces over the torus of side n, whose corners are sites by ids.
type plan struct {
	n     int64
	sites map[int]api.Point
	faces []api.Tri
	edges map[edge]seat
}

// edge goes from a vertex to another one, that lies so much farther off.
type edge struct {
	from, to int
	off      api.Off
}

// seat is where an edge is: from the face's corner to its next one.
type seat struct{ face, corner int }

// Holds tells whether t is just the classes of the Delaunay mesh of the places' sites on the torus of side n, with their ids, in normal form and in order.
func Holds(l []api.Place, t []api.Tri, n int64) bool {
	if n < 1 || n > api.MaxN || len(t) != 2*len(l) || !isInOrder(t) {
		return false
	}
	sites, ok := sitesOf(l, n)
	if !ok {
		return false
	}
	p := plan{n: n, sites: sites, faces: t, edges: map[edge]seat{}}
	return p.coverAll() && p.laidEdges() && p.isDelaunay()
}

// isInOrder tells whether t rises, and is in normal form.
func isInOrder(t []api.Tri) bool {
	for i, u := range t {
		if cover.Normal(u) != u || i > 0 && cover.Cmp(t[i-1], u) >= 0 {
			return false
		}
	}
	return true
}

// sitesOf is the places' sites by their ids, and whether ids and sites are all different, and the sites are of the first square.
func sitesOf(l []api.Place, n int64) (map[int]api.Point, bool) {
	sites := make(map[int]api.Point, len(l))
	taken := make(map[api.Point]int, len(l))
	for _, p := range l {
		sites[p.ID] = p.At
		taken[p.At] = p.ID
		if !isIn(p.At.X, n) || !isIn(p.At.Y, n) {
			return nil, false
		}
	}
	return sites, len(sites) == len(l) && len(taken) == len(l)
}

// isIn tells whether the first square has points with the number c.
func isIn(c, n int64) bool {
	return 0 <= c && c < n
}

// coverAll tells whether all faces turn left, and all together have the area of the torus, or are none.
func (p plan) coverAll() bool {
	var sum api.Wide
	for _, t := range p.faces {
		c, ok := p.corners(t)
		if !ok || pred.Orient(c[0], c[1], c[2]) != 1 {
			return false
		}
		sum = wide.Add(sum, pred.Area2(c[0], c[1], c[2]))
	}
	return len(p.faces) == 0 || sum == wide.Mul(2*p.n, p.n)
}

// corners is where t's corners lie, and whether all of them can be and have known ids.
func (p plan) corners(t api.Tri) ([3]api.Point, bool) {
	var c [3]api.Point
	for i := range c {
		at, ok := p.spot(knotAt(t, i))
		if !ok {
			return c, false
		}
		c[i] = at
	}
	return c, true
}

// spot is where a corner lies, and whether it can be and has a known id.
func (p plan) spot(k api.Knot) (api.Point, bool) {
	site, ok := p.sites[k.V]
	if !ok {
		return api.Point{}, false
	}
	return lift.At(site, k.Off, p.n)
}

// laidEdges notes all edges, and tells whether none is told twice.
func (p plan) laidEdges() bool {
	for f, t := range p.faces {
		for i := range 3 {
			e := edgeOf(knotAt(t, i), knotAt(t, (i+1)%3))
			if _, ok := p.edges[e]; ok {
				return false
			}
			p.edges[e] = seat{face: f, corner: i}
		}
	}
	return true
}

// edgeOf is the edge from a to b.
func edgeOf(a, b api.Knot) edge {
	return edge{from: a.V, to: b.V, off: lift.Less(b.Off, a.Off)}
}

// isDelaunay tells whether across each edge there is a face, whose third corner does not do away with the one on this side. (As no edge is told twice, there is no other one.)
func (p plan) isDelaunay() bool {
	for _, t := range p.faces {
		c, _ := p.corners(t)
		for i := range 3 {
			d, ok := p.across(t, i)
			if !ok || tie.Conflict(c[0], c[1], c[2], d) {
				return false
			}
		}
	}
	return true
}

// across is where the third corner lies of the face across t's edge from the corner i on, and whether there is one, and it can be. (One that can't be is farther off than any two faces of a Delaunay mesh reach.)
func (p plan) across(t api.Tri, i int) (api.Point, bool) {
	from, to := knotAt(t, i), knotAt(t, (i+1)%3)
	s, ok := p.edges[edgeOf(to, from)]
	if !ok {
		return api.Point{}, false
	}
	// The edge begins there where it ends here.
	u := p.faces[s.face]
	third := knotAt(u, (s.corner+2)%3)
	by := lift.Less(to.Off, u.Off[s.corner])
	return p.spot(api.Knot{V: third.V, Off: lift.Sum(third.Off, by)})
}
