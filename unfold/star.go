package unfold

import (
	"zellige/api"
	"zellige/cover"
	"zellige/lift"
)

// Star is all faces of l at the id, each from its corner on, moved so that this one is not off: the first in order, and then always the one that follows, till the first one would follow again, and true; none and false, if there is none, none follows one, or not all are come to.
func Star(l []api.Tri, id int) ([]api.Tri, bool) {
	fan := fanOf(l, id)
	if len(fan) == 0 {
		return nil, false
	}
	next := byKnot(fan)
	first := firstOf(fan)
	ring := make([]api.Tri, 0, len(fan))
	at := first
	// The way may go round without coming to the first one again: so many steps are enough for all.
	for range fan {
		ring = append(ring, fan[at])
		to, ok := next[knotAt(fan[at], 2)]
		if !ok {
			return nil, false
		}
		if at = to; at == first {
			break
		}
	}
	if at != first || len(ring) < len(fan) {
		return nil, false
	}
	return ring, true
}

// fanOf is all faces of l at the id, in l's order: from each corner with that id on, moved so that it is not off.
func fanOf(l []api.Tri, id int) []api.Tri {
	var fan []api.Tri
	for _, t := range l {
		for i, v := range t.V {
			if v == id {
				fan = append(fan, fromCorner(t, i))
			}
		}
	}
	return fan
}

// fromCorner is t from its corner i on, moved so that this one is not off.
func fromCorner(t api.Tri, i int) api.Tri {
	var u api.Tri
	for k := range 3 {
		from := (i + k) % 3
		u.V[k], u.Off[k] = t.V[from], lift.Less(t.Off[from], t.Off[i])
	}
	return u
}

// knotAt is the face's corner i.
func knotAt(t api.Tri, i int) api.Knot {
	return api.Knot{V: t.V[i], Off: t.Off[i]}
}

// byKnot is, by their second corners, the places of the fan's faces; of several with one second corner, that of the first.
func byKnot(fan []api.Tri) map[api.Knot]int {
	places := make(map[api.Knot]int, len(fan))
	for i, t := range fan {
		if _, ok := places[knotAt(t, 1)]; !ok {
			places[knotAt(t, 1)] = i
		}
	}
	return places
}

// firstOf is the place of the fan's face that stands ahead of all others.
func firstOf(fan []api.Tri) int {
	first := 0
	for i, t := range fan {
		if cover.Cmp(t, fan[first]) < 0 {
			first = i
		}
	}
	return first
}
