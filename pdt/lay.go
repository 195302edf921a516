package pdt

import (
	"cmp"
	"math/bits"

	"zellige/api"
)

// lay is the mesh of all sites, whose ids stand in the way's order; nil of none. It is soon laid: they are put in rounds, each of about as many sites as all ahead of it together, so that circles are small early and no site does away with much; and each site has those beside it that stand on either side of it till then.
func lay(n int64, way []int, sites map[int]api.Point) *sheet {
	var s *sheet
	// The round of a site is how often two divides its number on the way, from 1 on.
	for step := 1 << bits.Len(uint(len(way))); step > 0; step /= 2 {
		for i := step - 1; i < len(way); i += 2 * step {
			id := way[i]
			if s == nil {
				s = first(n, id, sites[id])
				continue
			}
			s.put(id, sites[id], idsOn(way, i-step, i+step))
			s = s.settled()
		}
	}
	return s
}

// idsOn is the ids at those of these places that the way has.
func idsOn(way []int, places ...int) []int {
	var ids []int
	for _, i := range places {
		if 0 <= i && i < len(way) {
			ids = append(ids, way[i])
		}
	}
	return ids
}

// alongWay is -1, 0, 1 for a that stands ahead of, at, behind b on the way: it goes through one quarter of the square after the other, and through each in the same manner, so that what follows one another on it is mostly near. It is told by the highest bit in which the two differ.
func alongWay(a, b api.Point) int {
	if bits.Len64(uint64(a.X^b.X)) < bits.Len64(uint64(a.Y^b.Y)) {
		return cmp.Compare(a.Y, b.Y)
	}
	return cmp.Compare(a.X, b.X)
}
