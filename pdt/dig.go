package pdt

import (
	"zellige/api"
	"zellige/lift"
	"zellige/star"
	"zellige/tie"
)

// dig is star.Insert without its bound: p may do away with more than MaxHits faces, as where that many sites stand on one line. It does away with first.
func (s *sheet) dig(first api.Hit, p api.Point, id int) (int, []int) {
	hits := s.hits(first, p)
	rim := star.Rim(s.Mesh, hits)
	for _, h := range hits {
		s.DropFace(h.Face)
	}
	v := s.AddVert(p, id)
	faces := make([]int, len(rim))
	for i, e := range rim {
		faces[i], _ = s.AddFace(api.Tri{V: [3]int{e[0].V, e[1].V, v}, Off: [3]api.Off{e[0].Off, e[1].Off, {}}})
	}
	return v, faces
}

// hits is first and all moved faces that are come to from there, across faces that p does away with, and that it does away with, too.
func (s *sheet) hits(first api.Hit, p api.Point) []api.Hit {
	hits := []api.Hit{first}
	met := map[api.Hit]struct{}{first: {}}
	// The list grows while it is gone through: those at its end were not gone across from yet.
	for next := 0; next < len(hits); next++ {
		for i := range 3 {
			f, _, by, _ := s.Across(hits[next].Face, i)
			h := api.Hit{Face: f, By: lift.Sum(hits[next].By, by)}
			if _, before := met[h]; before {
				continue
			}
			met[h] = struct{}{}
			if s.doesAway(h, p) {
				hits = append(hits, h)
			}
		}
	}
	return hits
}

// doesAway tells whether p does away with that moved face.
func (s *sheet) doesAway(h api.Hit, p api.Point) bool {
	var at [3]api.Point
	for i := range 3 {
		c, _ := s.Corner(h.Face, i)
		at[i], _ = lift.At(c, h.By, s.Side())
	}
	return tie.Conflict(at[0], at[1], at[2], p)
}
