package pdt_test

import (
	"math"
	"math/rand"
	"slices"
	"testing"

	"zellige/api"
	"zellige/pdt"
)

// anything does so many calls on the engine, of all kinds, wrong ones too.
func anything(r *rand.Rand, e *pdt.Engine, many int) {
	any := func() api.Point { return at(r.Int63n(e.N()+1), r.Int63n(e.N()+1)) }
	for range many {
		switch r.Intn(10) {
		case 0, 1, 2, 3:
			e.Insert(any())
		case 4, 5:
			e.Remove(r.Intn(e.M()))
		case 6, 7:
			e.Move(r.Intn(e.M()), any())
		case 8:
			e.Set(append(e.Sites(), api.Place{ID: r.Intn(e.M()), At: any()}))
		case 9:
			if l := e.Sites(); len(l) > 0 && r.Intn(3) == 0 {
				e.Set(l[r.Intn(len(l)):])
			} else if r.Intn(6) == 0 {
				e.Clear()
			}
		}
	}
}

// shuffled is the list in any order.
func shuffled(r *rand.Rand, l []api.Place) []api.Place {
	l = slices.Clone(l)
	r.Shuffle(len(l), func(i, k int) { l[i], l[k] = l[k], l[i] })
	return l
}

// byOneSet makes l by a Set, in any order.
func byOneSet(_ *testing.T, r *rand.Rand, e *pdt.Engine, l []api.Place) {
	e.Set(shuffled(r, l))
}

// bySets makes l by a Set with one place more after the other.
func bySets(_ *testing.T, r *rand.Rand, e *pdt.Engine, l []api.Place) {
	l = shuffled(r, l)
	for i := range l {
		e.Set(shuffled(r, l[:i+1]))
	}
	if len(l) == 0 {
		e.Set(nil)
	}
}

// byInserts makes l by Insert alone of all ids up to the greatest one, and takes away what is not of l.
func byInserts(t *testing.T, r *rand.Rand, e *pdt.Engine, l []api.Place) {
	t.Helper()
	e.Clear()
	l = byID(l)
	for _, p := range l {
		// What is below it is taken till then, by sites of which l has none.
		for tries := 0; leastFree(e.Sites()) != p.ID; tries++ {
			if tries == 10000 {
				t.Fatalf("%d is never the least id that stands for none: %v", p.ID, e.Sites())
			}
			q := at(r.Int63n(e.N()), r.Int63n(e.N()))
			if !slices.ContainsFunc(l, func(p api.Place) bool { return p.At == q }) {
				e.Insert(q)
			}
		}
		e.Insert(p.At)
	}
	for _, p := range shuffled(r, e.Sites()) {
		if !slices.Contains(l, p) {
			e.Remove(p.ID)
		}
	}
}

// byMoves makes l of what was there: all ids of l are put somewhere, the others go, and one after the other moves, as soon as where it goes is free.
func byMoves(t *testing.T, r *rand.Rand, e *pdt.Engine, l []api.Place) {
	t.Helper()
	for _, p := range l {
		for tries := 0; ; tries++ {
			if _, ok := e.At(p.ID); ok {
				break
			}
			if tries == 10000 {
				t.Fatalf("%d is never put: %v", p.ID, e.Sites())
			}
			e.Set(append(e.Sites(), api.Place{ID: p.ID, At: at(r.Int63n(e.N()), r.Int63n(e.N()))}))
		}
	}
	for _, p := range shuffled(r, e.Sites()) {
		if !slices.ContainsFunc(l, func(q api.Place) bool { return q.ID == p.ID }) {
			e.Remove(p.ID)
		}
	}
	for tries := 0; !slices.Equal(e.Sites(), byID(l)); tries++ {
		if tries == 10000 {
			t.Fatalf("%v don't become %v", e.Sites(), l)
		}
		for _, p := range shuffled(r, l) {
			if e.Move(p.ID, p.At) == api.ErrTaken {
				// Who stands there goes away.
				id, _ := e.Find(p.At)
				e.Move(id, at(r.Int63n(e.N()), r.Int63n(e.N())))
			}
		}
	}
}

// However sites came to be, and whatever was there, the same is told.
func TestNoHistory(t *testing.T) {
	r := rand.New(rand.NewSource(9))
	for _, c := range []struct {
		n    int64
		many int
	}{{1, 1}, {2, 3}, {3, 8}, {5, 3}, {5, 12}, {6, 17}, {12, 9}, {12, 30}, {1000, 12}, {maxN, 16}, {maxN, 40}} {
		for range 3 {
			m := c.many + 10
			l := somePlaces(r, c.n, m, c.many)
			want := laid(l, c.n, wrap(t, l, c.n))
			for _, way := range []func(*testing.T, *rand.Rand, *pdt.Engine, []api.Place){byOneSet, bySets, byInserts, byMoves} {
				// For byInserts there must be sites enough for all ids below.
				if c.n*min(c.n, 100) < int64(2*m) {
					way = byOneSet
				}
				e := open(t, c.n, m)
				anything(r, e, r.Intn(30))
				way(t, r, e, l)
				if got := tellsOf(t, e); !same(got, want) {
					t.Fatalf("n %d, %v: %v, not %v", c.n, l, got, want)
				}
				isTorus(t, e)
			}
		}
	}
}

// All orders in which five or six sites may come by Set, one more at a time, and go by Remove.
func TestAllOrders(t *testing.T) {
	for _, c := range []struct {
		n     int64
		sites []api.Point
	}{
		{2, square(2)},
		{3, []api.Point{at(0, 0), at(1, 1), at(2, 2), at(0, 1), at(1, 0)}},
		{4, []api.Point{at(0, 0), at(2, 2), at(0, 2), at(2, 0), at(1, 1)}},
		{10, []api.Point{at(0, 5), at(5, 0), at(9, 8), at(8, 9), at(2, 1)}},
		{7, []api.Point{at(0, 0), at(1, 0), at(2, 0), at(3, 0), at(5, 0)}},
		{maxN, []api.Point{at(0, 0), at(maxN-1, maxN-1), at(maxN-1, 0), at(0, maxN-1), at(maxN/2, maxN/2)}},
	} {
		k := known{}
		orders(len(c.sites), func(order []int) {
			e := open(t, c.n, len(c.sites))
			var l []api.Place
			for _, id := range order {
				l = append(l, api.Place{ID: id, At: c.sites[id]})
				e.Set(l)
				k.hold(t, e, l)
			}
			for len(l) > 0 {
				e.Remove(l[0].ID)
				l = l[1:]
				k.hold(t, e, l)
			}
		})
	}
}

// Sixteen sites of a grid, of one sheet, and nine, come and go in many orders.
func TestGridOrders(t *testing.T) {
	r := rand.New(rand.NewSource(10))
	for _, c := range []struct{ k, gap int64 }{{3, 4}, {4, 3}, {3, 1}} {
		k := known{}
		l := numbered(grid(c.k, c.gap))
		for range 10 {
			e := open(t, c.k*c.gap, 16)
			var now []api.Place
			for _, p := range shuffled(r, l) {
				now = append(now, p)
				e.Set(now)
			}
			k.hold(t, e, l)
			order := shuffled(r, l)
			for i, p := range order {
				e.Remove(p.ID)
				if i%4 == 0 {
					k.hold(t, e, order[i+1:])
				}
			}
		}
	}
}

// The same calls tell the same, numbers and all, in whatever order a map is gone through.
func TestAgain(t *testing.T) {
	for seed := range int64(12) {
		n := []int64{3, 12, 40, maxN}[seed%4]
		a, b := open(t, n, 40), open(t, n, 40)
		anything(rand.New(rand.NewSource(seed)), a, 150)
		anything(rand.New(rand.NewSource(seed)), b, 150)
		x, y := a.Dump(), b.Dump()
		if x.Side != y.Side || !slices.Equal(x.Verts, y.Verts) || !slices.Equal(x.Faces, y.Faces) {
			t.Fatalf("n %d: %v and %v", n, x, y)
		}
	}
}

// What tells an error leaves all as it was, numbers and all.
func TestErrorsChangeNothing(t *testing.T) {
	r := rand.New(rand.NewSource(11))
	for _, n := range []int64{2, 12, 50} {
		e := open(t, n, 30)
		for range 20 {
			anything(r, e, 5)
			l := e.Sites()
			if len(l) == 0 {
				continue
			}
			unchanged(t, e, func() {
				e.Insert(l[0].At)
				e.Insert(at(n, 0))
				e.Remove(30)
				e.Remove(-1)
				e.Move(l[0].ID, l[len(l)-1].At)
				e.Move(l[0].ID, at(0, -1))
				e.Move(math.MaxInt, at(0, 0))
				e.Set(append(slices.Clone(l), l[0]))
				e.Set([]api.Place{l[0], {ID: 30, At: at(0, 0)}})
				e.Set([]api.Place{{ID: 3, At: at(0, 0)}, {ID: 4, At: at(0, 0)}})
			})
		}
	}
}

// FuzzAll takes bytes for calls, two or three for each.
func FuzzAll(f *testing.F) {
	f.Add(uint8(0), []byte{0, 0, 1, 0, 2, 0})
	f.Add(uint8(1), []byte{0, 0, 0, 1, 0, 2, 0, 3, 1, 0, 2, 1, 0})
	f.Add(uint8(11), []byte{0, 0, 0, 4, 0, 8, 0, 48, 0, 52, 0, 56, 0, 96, 0, 100, 0, 104, 1, 4, 0, 52, 2, 3, 7, 3, 5})
	f.Fuzz(func(t *testing.T, side uint8, calls []byte) {
		n := int64(side%16) + 1
		const m = 16
		e := open(t, n, m)
		k := known{}
		var l []api.Place
		next := func() int {
			if len(calls) == 0 {
				return 0
			}
			b := calls[0]
			calls = calls[1:]
			return int(b)
		}
		spot := func() api.Point { b := int64(next()); return at(b%n, b/n%n) }
		for range 40 {
			if len(calls) == 0 {
				break
			}
			switch next() % 4 {
			case 0:
				p := spot()
				if id, err := e.Insert(p); err == api.OK {
					l = append(l, api.Place{ID: id, At: p})
				}
			case 1:
				id := next() % m
				if e.Remove(id) == api.OK {
					l = slices.DeleteFunc(l, func(p api.Place) bool { return p.ID == id })
				}
			case 2:
				id, p := next()%m, spot()
				if e.Move(id, p) == api.OK {
					i := slices.IndexFunc(l, func(p api.Place) bool { return p.ID == id })
					l[i].At = p
				}
			case 3:
				if many := next() % (len(l) + 1); e.Set(l[many:]) == api.OK {
					l = slices.Clone(l[many:])
				}
			}
			k.hold(t, e, l)
		}
	})
}
