package pdt_test

import (
	"math"
	"math/rand"
	"slices"
	"testing"

	"zellige/api"
	"zellige/pdt"
)

// unusual are numbers that are hardly ever meant.
func unusual() []int {
	return []int{math.MinInt, -maxM, -2, -1, maxM - 1, maxM, maxM + 1, math.MaxInt}
}

// outside are points that are no sites of side n.
func outside(n int64) []api.Point {
	var l []api.Point
	for _, c := range []int64{math.MinInt64, -1 << 41, -n, -1, n, n + 1, 1 << 41, math.MaxInt64} {
		l = append(l, at(c, 0), at(0, c), at(c, n-1), at(n-1, c), at(c, c))
	}
	return l
}

func TestOpen(t *testing.T) {
	for _, c := range []struct {
		n  int64
		m  int
		ok bool
	}{
		{1, 1, true}, {2, 1, true}, {1, 2, true}, {10, 7, true},
		{maxN, 1, true}, {1, maxM, true}, {maxN, maxM, true}, {maxN - 1, maxM - 1, true},
		{0, 1, false}, {-1, 1, false}, {maxN + 1, 1, false}, {math.MinInt64, 1, false}, {math.MaxInt64, 1, false},
		{1, 0, false}, {1, -1, false}, {1, maxM + 1, false}, {1, math.MinInt, false}, {1, math.MaxInt, false},
		{0, 0, false}, {maxN + 1, maxM + 1, false}, {maxN, maxM + 1, false}, {maxN + 1, maxM, false},
	} {
		e, err := pdt.Open(c.n, c.m)
		if !c.ok {
			if e != nil || err != api.ErrConfig {
				t.Errorf("Open(%d, %d): %v, %d", c.n, c.m, e, err)
			}
			continue
		}
		if e == nil || err != api.OK || e.N() != c.n || e.M() != c.m {
			t.Errorf("Open(%d, %d): %v, %d, of %d %d", c.n, c.m, e, err, e.N(), e.M())
			continue
		}
		isEmpty(t, e)
	}
}

// isEmpty tells what an engine without sites tells.
func isEmpty(t *testing.T, e *pdt.Engine) {
	t.Helper()
	d := e.Dump()
	if len(e.Sites()) != 0 || e.Sheets() != 0 || d.Side != e.N() || len(d.Verts) != 0 || len(d.Faces) != 0 {
		t.Fatalf("%v, %d sheets, %v", e.Sites(), e.Sheets(), d)
	}
	if p, ok := e.At(0); ok || p != at(0, 0) {
		t.Fatalf("At(0): %v, %t", p, ok)
	}
	if id, ok := e.Find(at(0, 0)); ok || id != -1 {
		t.Fatalf("Find(0 0): %d, %t", id, ok)
	}
	if err := e.Remove(0); err != api.ErrID {
		t.Fatalf("Remove(0): %d", err)
	}
}

func TestNil(t *testing.T) {
	var e *pdt.Engine
	if e.N() != 0 || e.M() != 0 || e.Sheets() != 0 || len(e.Sites()) != 0 {
		t.Error("a nil engine has something")
	}
	if id, err := e.Insert(at(0, 0)); id != -1 || err != api.ErrConfig {
		t.Errorf("Insert: %d, %d", id, err)
	}
	if id, err := e.Insert(at(-1, 0)); id != -1 || err != api.ErrConfig {
		t.Errorf("Insert of no site: %d, %d", id, err)
	}
	if err := e.Remove(0); err != api.ErrConfig {
		t.Errorf("Remove: %d", err)
	}
	if err := e.Move(0, at(0, 0)); err != api.ErrConfig {
		t.Errorf("Move: %d", err)
	}
	for _, l := range [][]api.Place{nil, {place(0, 0, 0)}, {place(-1, -1, 0)}} {
		if err := e.Set(l); err != api.ErrConfig {
			t.Errorf("Set(%v): %d", l, err)
		}
	}
	e.Clear()
	if p, ok := e.At(0); ok || p != at(0, 0) {
		t.Errorf("At: %v, %t", p, ok)
	}
	if id, ok := e.Find(at(0, 0)); ok || id != -1 {
		t.Errorf("Find: %d, %t", id, ok)
	}
	if d := e.Dump(); d.Side != 0 || len(d.Verts) != 0 || len(d.Faces) != 0 {
		t.Errorf("Dump: %v", d)
	}
}

// What the zero engine tells is open, but it panics nowhere.
func TestZeroEngine(t *testing.T) {
	var e pdt.Engine
	e.Insert(at(0, 0))
	e.Remove(0)
	e.Move(0, at(0, 0))
	e.Set(nil)
	e.Set([]api.Place{place(0, 0, 0)})
	e.Clear()
	e.At(0)
	e.Find(at(0, 0))
	e.Sites()
	e.Sheets()
	e.Dump()
}

// unchanged is that the engine tells what it told, numbers and all.
func unchanged(t *testing.T, e *pdt.Engine, do func()) {
	t.Helper()
	l, sheets, d := e.Sites(), e.Sheets(), e.Dump()
	do()
	now := e.Dump()
	if !slices.Equal(e.Sites(), l) || e.Sheets() != sheets || now.Side != d.Side || !slices.Equal(now.Verts, d.Verts) || !slices.Equal(now.Faces, d.Faces) {
		t.Fatalf("%v, %d sheets, became %v, %d sheets", l, sheets, e.Sites(), e.Sheets())
	}
}

func TestInsertErrors(t *testing.T) {
	for _, c := range []struct {
		name string
		n    int64
		m    int
		l    []api.Place
		p    api.Point
		err  api.Errno
	}{
		{"no site", 10, 5, []api.Place{place(1, 3, 4)}, at(10, 4), api.ErrSite},
		{"no site, full", 10, 1, []api.Place{place(0, 3, 4)}, at(3, -1), api.ErrSite},
		{"one side off a site", 10, 5, []api.Place{place(1, 3, 4)}, at(13, 4), api.ErrSite},
		{"taken", 10, 5, []api.Place{place(1, 3, 4)}, at(3, 4), api.ErrTaken},
		{"taken, full", 10, 2, []api.Place{place(1, 3, 4), place(0, 9, 9)}, at(3, 4), api.ErrTaken},
		{"full", 10, 2, []api.Place{place(1, 3, 4), place(0, 9, 9)}, at(4, 3), api.ErrFull},
		{"full of one", 10, 1, []api.Place{place(0, 3, 4)}, at(4, 3), api.ErrFull},
		{"no room on the torus, full", 1, 1, []api.Place{place(0, 0, 0)}, at(0, 0), api.ErrTaken},
		{"no room on the torus", 1, 5, []api.Place{place(0, 0, 0)}, at(0, 0), api.ErrTaken},
	} {
		e := of(t, c.n, c.m, c.l...)
		unchanged(t, e, func() {
			if id, err := e.Insert(c.p); id != -1 || err != c.err {
				t.Errorf("%s: %d, %d", c.name, id, err)
			}
		})
	}
	for _, n := range []int64{1, 2, 7, maxN} {
		e := open(t, n, 3)
		for _, p := range outside(n) {
			if id, err := e.Insert(p); id != -1 || err != api.ErrSite {
				t.Errorf("n %d: Insert(%v): %d, %d", n, p, id, err)
			}
			if id, ok := e.Find(p); id != -1 || ok {
				t.Errorf("n %d: Find(%v): %d", n, p, id)
			}
		}
		isEmpty(t, e)
	}
}

func TestRemoveErrors(t *testing.T) {
	e := of(t, 10, 5, place(1, 3, 4), place(4, 7, 7))
	for _, id := range append(unusual(), 0, 2, 3, 5) {
		unchanged(t, e, func() {
			if err := e.Remove(id); err != api.ErrID {
				t.Errorf("Remove(%d): %d", id, err)
			}
		})
	}
	if err := e.Remove(4); err != api.OK {
		t.Fatal(err)
	}
	if err := e.Remove(4); err != api.ErrID {
		t.Fatalf("once more: %d", err)
	}
	hold(t, e, []api.Place{place(1, 3, 4)})
}

func TestMoveErrors(t *testing.T) {
	l := []api.Place{place(1, 3, 4), place(4, 7, 7)}
	e := of(t, 10, 5, l...)
	for _, c := range []struct {
		name string
		id   int
		p    api.Point
		err  api.Errno
	}{
		{"no id", 0, at(5, 5), api.ErrID},
		{"no id, no site", 0, at(5, 10), api.ErrID},
		{"no id, taken", 0, at(3, 4), api.ErrID},
		{"an id that can't be", 5, at(5, 5), api.ErrID},
		{"an id below nought", -1, at(7, 7), api.ErrID},
		{"no site", 1, at(10, 4), api.ErrSite},
		{"its own site, a side off", 1, at(13, 4), api.ErrSite},
		{"another's site, a side off", 1, at(-3, -3), api.ErrSite},
		{"another's", 1, at(7, 7), api.ErrTaken},
		{"another's, the other way", 4, at(3, 4), api.ErrTaken},
		{"its own", 1, at(3, 4), api.OK},
		{"its own, too", 4, at(7, 7), api.OK},
	} {
		unchanged(t, e, func() {
			if err := e.Move(c.id, c.p); err != c.err {
				t.Errorf("%s: Move(%d, %v): %d", c.name, c.id, c.p, err)
			}
		})
	}
	for _, id := range unusual() {
		if err := e.Move(id, at(5, 5)); err != api.ErrID {
			t.Errorf("Move(%d): %d", id, err)
		}
	}
	for _, p := range outside(10) {
		if err := e.Move(4, p); err != api.ErrSite {
			t.Errorf("Move(4, %v): %d", p, err)
		}
	}
	// Where it was is free then, and where it is, is not.
	if err := e.Move(1, at(5, 5)); err != api.OK {
		t.Fatal(err)
	}
	if err := e.Move(4, at(5, 5)); err != api.ErrTaken {
		t.Fatal(err)
	}
	if err := e.Move(4, at(3, 4)); err != api.OK {
		t.Fatal(err)
	}
	hold(t, e, []api.Place{place(1, 5, 5), place(4, 3, 4)})
}

// All there may be are there, and one moves all the same.
func TestMoveFull(t *testing.T) {
	e := of(t, 10, 2, place(0, 1, 1), place(1, 2, 2))
	if err := e.Move(0, at(9, 0)); err != api.OK {
		t.Fatal(err)
	}
	hold(t, e, []api.Place{place(0, 9, 0), place(1, 2, 2)})
	full := of(t, 1, 1, place(0, 0, 0))
	unchanged(t, full, func() {
		if err := full.Move(0, at(0, 0)); err != api.OK {
			t.Fatal(err)
		}
	})
}

func TestSetErrors(t *testing.T) {
	for _, before := range [][]api.Place{nil, {place(2, 5, 5)}, numbered(grid(3, 3))} {
		e := of(t, 10, 9, before...)
		for _, c := range []struct {
			name string
			l    []api.Place
			err  api.Errno
		}{
			{"an id below nought", []api.Place{place(-1, 1, 1)}, api.ErrID},
			{"an id that can't be", []api.Place{place(9, 1, 1)}, api.ErrID},
			{"an id far beyond", []api.Place{place(math.MaxInt, 1, 1)}, api.ErrID},
			{"an id far below", []api.Place{place(math.MinInt, 1, 1)}, api.ErrID},
			{"an id twice", []api.Place{place(3, 1, 1), place(3, 2, 2)}, api.ErrID},
			{"an id twice, of one site", []api.Place{place(3, 1, 1), place(3, 1, 1)}, api.ErrID},
			{"no site", []api.Place{place(3, 10, 1)}, api.ErrSite},
			{"no site, behind", []api.Place{place(3, 1, 1), place(2, 1, -1)}, api.ErrSite},
			{"a site twice", []api.Place{place(3, 1, 1), place(2, 1, 1)}, api.ErrTaken},
			{"a site a side off", []api.Place{place(3, 1, 1), place(2, 11, 1)}, api.ErrSite},
			{"an id that can't be, and no site", []api.Place{place(9, 10, 1)}, api.ErrID},
			{"an id twice, and no site", []api.Place{place(3, 1, 1), place(3, 10, 1)}, api.ErrID},
			{"an id that can't be, and a site twice", []api.Place{place(3, 1, 1), place(-1, 1, 1)}, api.ErrID},
			{"no site, twice", []api.Place{place(3, 10, 1), place(2, 10, 1)}, api.ErrSite},
			{"no site, ahead of an id", []api.Place{place(3, 1, 10), place(9, 1, 1)}, api.ErrSite},
			{"no site, ahead of an id twice", []api.Place{place(3, 1, 1), place(4, 1, 10), place(3, 2, 2)}, api.ErrSite},
			{"no site, ahead of a site twice", []api.Place{place(3, 1, 1), place(4, 1, 10), place(5, 1, 1)}, api.ErrSite},
			{"a site twice, ahead of an id", []api.Place{place(3, 1, 1), place(4, 1, 1), place(9, 2, 2)}, api.ErrTaken},
			{"a site twice, ahead of an id twice", []api.Place{place(3, 1, 1), place(4, 1, 1), place(3, 2, 2)}, api.ErrTaken},
			{"a site twice, ahead of no site", []api.Place{place(3, 1, 1), place(4, 1, 1), place(5, 1, 10)}, api.ErrTaken},
			{"an id, ahead of no site and a site twice", []api.Place{place(3, 1, 1), place(9, 2, 2), place(4, 10, 1), place(5, 1, 1)}, api.ErrID},
			{"an id at the end", append(numbered(grid(3, 2)), place(9, 9, 9)), api.ErrID},
			{"no site at the end", append(numbered(grid(3, 2))[:8], place(8, 9, 10)), api.ErrSite},
			{"a site twice at the end", append(numbered(grid(3, 2))[:8], place(8, 0, 0)), api.ErrTaken},
			{"what is there, and an id twice", append(slices.Clone(before), place(7, 9, 9), place(7, 8, 8)), api.ErrID},
		} {
			unchanged(t, e, func() {
				if err := e.Set(c.l); err != c.err {
					t.Errorf("%s, behind %v: %d", c.name, before, err)
				}
			})
		}
		for _, p := range outside(10) {
			if err := e.Set([]api.Place{place(0, 1, 1), {ID: 1, At: p}}); err != api.ErrSite {
				t.Errorf("%v: %d", p, err)
			}
		}
		hold(t, e, before)
	}
}

// What is there already is neither an id nor a site that was told ahead.
func TestSetAgain(t *testing.T) {
	k := known{}
	e := open(t, 12, 20)
	for _, l := range [][]api.Place{
		{place(5, 1, 1)},
		{place(5, 1, 1)},
		{place(6, 1, 1)},
		{place(6, 2, 2), place(5, 1, 1)},
		// two change places
		{place(6, 1, 1), place(5, 2, 2)},
		{},
		{},
		numbered(grid(4, 3)),
		// in another order
		reversed(numbered(grid(4, 3))),
		{},
	} {
		if err := e.Set(l); err != api.OK {
			t.Fatalf("Set(%v): %d", l, err)
		}
		k.hold(t, e, l)
	}
	isEmpty(t, e)
}

// reversed is the list from its end.
func reversed[T any](l []T) []T {
	l = slices.Clone(l)
	slices.Reverse(l)
	return l
}

// Few of many come and go by one Set, and many do.
func TestSetFewAndMany(t *testing.T) {
	r := rand.New(rand.NewSource(1))
	k := known{}
	for _, n := range []int64{13, 40} {
		e := open(t, n, 60)
		var l []api.Place
		for many := range 40 {
			// Some stay, some of these move, some change places, others come.
			l = byID(l)
			r.Shuffle(len(l), func(i, k int) { l[i], l[k] = l[k], l[i] })
			l = slices.Clone(l[:max(0, len(l)-r.Intn(4))])
			if len(l) > 2 && r.Intn(2) == 0 {
				l[0].At, l[1].At = l[1].At, l[0].At
			}
			for range 1 + many%5 {
				p := api.Place{ID: r.Intn(60), At: at(r.Int63n(n), r.Int63n(n))}
				if !slices.ContainsFunc(l, func(q api.Place) bool { return q.ID == p.ID || q.At == p.At }) {
					l = append(l, p)
				}
			}
			if err := e.Set(l); err != api.OK {
				t.Fatalf("Set(%v): %d", l, err)
			}
			k.hold(t, e, l)
			for _, p := range l {
				if id, ok := e.Find(p.At); !ok || id != p.ID {
					t.Fatalf("Find(%v): %d, %t", p.At, id, ok)
				}
			}
		}
	}
}

func TestAtAndFind(t *testing.T) {
	e := of(t, 10, 8, place(5, 3, 4), place(0, 0, 0), place(7, 9, 9))
	for _, p := range []api.Place{place(5, 3, 4), place(0, 0, 0), place(7, 9, 9)} {
		if q, ok := e.At(p.ID); !ok || q != p.At {
			t.Errorf("At(%d): %v, %t", p.ID, q, ok)
		}
		if id, ok := e.Find(p.At); !ok || id != p.ID {
			t.Errorf("Find(%v): %d, %t", p.At, id, ok)
		}
	}
	for _, id := range append(unusual(), 1, 6, 8) {
		if q, ok := e.At(id); ok || q != at(0, 0) {
			t.Errorf("At(%d): %v, %t", id, q, ok)
		}
	}
	for _, p := range append(outside(10), at(4, 3), at(13, 4), at(3, 14), at(-7, 4)) {
		if id, ok := e.Find(p); ok || id != -1 {
			t.Errorf("Find(%v): %d, %t", p, id, ok)
		}
	}
	// Behind a Move its site is another one.
	e.Move(5, at(4, 3))
	if id, ok := e.Find(at(3, 4)); ok || id != -1 {
		t.Errorf("Find of where it was: %d, %t", id, ok)
	}
	if id, ok := e.Find(at(4, 3)); !ok || id != 5 {
		t.Errorf("Find of where it is: %d, %t", id, ok)
	}
	e.Remove(5)
	if id, ok := e.Find(at(4, 3)); ok || id != -1 {
		t.Errorf("Find of what is gone: %d, %t", id, ok)
	}
	if q, ok := e.At(5); ok || q != at(0, 0) {
		t.Errorf("At of what is gone: %v, %t", q, ok)
	}
}

func TestSitesByID(t *testing.T) {
	l := []api.Place{place(9, 0, 0), place(2, 5, 5), place(11, 1, 9), place(0, 9, 1), place(10, 4, 4)}
	e := of(t, 10, 12, l...)
	if got := e.Sites(); !slices.Equal(got, byID(l)) {
		t.Errorf("%v", got)
	}
}

// leastFree is the least id that is none of these.
func leastFree(l []api.Place) int {
	id := 0
	for slices.ContainsFunc(l, func(p api.Place) bool { return p.ID == id }) {
		id++
	}
	return id
}

// Ids come back in any order, and the least one is always taken first.
func TestLeastID(t *testing.T) {
	r := rand.New(rand.NewSource(2))
	const m = 7
	for range 150 {
		e := open(t, 6, m)
		var l []api.Place
		if r.Intn(2) == 0 {
			l = somePlaces(r, 6, m, r.Intn(m+1))
			e.Set(l)
		}
		for range 25 {
			switch {
			case len(l) > 0 && r.Intn(2) == 0:
				i := r.Intn(len(l))
				if err := e.Remove(l[i].ID); err != api.OK {
					t.Fatal(err)
				}
				l = slices.Delete(l, i, i+1)
			case r.Intn(20) == 0:
				e.Clear()
				l = nil
			case r.Intn(10) == 0:
				l = somePlaces(r, 6, m, r.Intn(m+1))
				e.Set(l)
			default:
				p := at(r.Int63n(6), r.Int63n(6))
				want, err := leastFree(l), api.OK
				switch {
				case slices.ContainsFunc(l, func(q api.Place) bool { return q.At == p }):
					want, err = -1, api.ErrTaken
				case len(l) == m:
					want, err = -1, api.ErrFull
				}
				id, got := e.Insert(p)
				if id != want || got != err {
					t.Fatalf("Insert(%v) behind %v: %d, %d, not %d, %d", p, l, id, got, want, err)
				}
				if err == api.OK {
					l = append(l, api.Place{ID: id, At: p})
				}
			}
			if !slices.Equal(e.Sites(), byID(l)) {
				t.Fatalf("%v, not %v", e.Sites(), byID(l))
			}
		}
	}
}

// All orders in which four of five go, and others come.
func TestLeastIDOrders(t *testing.T) {
	sites := []api.Point{at(0, 0), at(3, 1), at(5, 5), at(1, 4), at(6, 2)}
	more := []api.Point{at(0, 1), at(3, 2), at(5, 6), at(1, 5), at(6, 3)}
	orders(5, func(order []int) {
		e := of(t, 7, 6, numbered(sites)...)
		for i, id := range order[:4] {
			if err := e.Remove(id); err != api.OK {
				t.Fatal(err)
			}
			// One of them comes back at once.
			if i == 1 {
				want := min(order[0], order[1])
				if got, err := e.Insert(more[4]); got != want || err != api.OK {
					t.Fatalf("order %v: %d, not %d", order, got, want)
				}
				e.Remove(want)
			}
		}
		gone := slices.Sorted(slices.Values(order[:4]))
		for i, want := range append(gone, 5) {
			if got, err := e.Insert(more[i]); got != want || err != api.OK {
				t.Fatalf("order %v: %d, not %d", order, got, want)
			}
		}
		if id, err := e.Insert(at(4, 4)); id != -1 || err != api.ErrFull {
			t.Fatalf("order %v: %d, %d", order, id, err)
		}
	})
}

// orders does it with all orders of 0 to n - 1.
func orders(n int, do func(order []int)) {
	var add func(order, left []int)
	add = func(order, left []int) {
		if len(left) == 0 {
			do(slices.Clone(order))
		}
		for i, x := range left {
			add(append(slices.Clone(order), x), slices.Concat(left[:i], left[i+1:]))
		}
	}
	all := make([]int, n)
	for i := range all {
		all[i] = i
	}
	add(nil, all)
}

// The greatest ids are as good as others, and need no room for all below.
func TestGreatIDs(t *testing.T) {
	e := of(t, maxN, maxM, place(maxM-1, 5, 5), place(1, 9, 9))
	for i, want := range []int{0, 2, 3} {
		if id, err := e.Insert(at(int64(i), 100)); id != want || err != api.OK {
			t.Fatalf("%d, %d", id, err)
		}
	}
	if err := e.Remove(maxM - 1); err != api.OK {
		t.Fatal(err)
	}
	if id, err := e.Insert(at(5, 5)); id != 4 || err != api.OK {
		t.Fatalf("%d, %d", id, err)
	}
	isDelaunay(t, e, []api.Place{place(0, 0, 100), place(1, 9, 9), place(2, 1, 100), place(3, 2, 100), place(4, 5, 5)})
}

func TestClear(t *testing.T) {
	for _, l := range [][]api.Place{nil, {place(3, 1, 1)}, numbered(grid(2, 6)), numbered(grid(3, 4))} {
		e := of(t, 12, 9, l...)
		e.Clear()
		isEmpty(t, e)
		e.Clear()
		isEmpty(t, e)
		for _, p := range l {
			if q, ok := e.At(p.ID); ok || q != at(0, 0) {
				t.Fatalf("At(%d): %v", p.ID, q)
			}
			if id, ok := e.Find(p.At); ok || id != -1 {
				t.Fatalf("Find(%v): %d", p.At, id)
			}
			if err := e.Move(p.ID, at(2, 2)); err != api.ErrID {
				t.Fatalf("Move(%d): %d", p.ID, err)
			}
		}
		var now []api.Place
		for i, p := range grid(3, 3) {
			if id, err := e.Insert(p); id != i || err != api.OK {
				t.Fatalf("%d, %d", id, err)
			}
			now = append(now, api.Place{ID: i, At: p})
			hold(t, e, now)
		}
		if _, err := e.Insert(at(1, 1)); err != api.ErrFull {
			t.Fatal(err)
		}
	}
}

// Two engines know nothing of one another.
func TestTwoEngines(t *testing.T) {
	a, b := of(t, 12, 9, place(3, 1, 1)), of(t, 12, 9, place(3, 1, 1))
	unchanged(t, b, func() {
		a.Insert(at(2, 2))
		a.Move(3, at(5, 5))
		a.Clear()
		a.Insert(at(7, 7))
	})
}

// What is handed in and what is answered is nobody else's.
func TestMemory(t *testing.T) {
	for _, many := range []int{2, 9} {
		l := make([]api.Place, many, 20)
		copy(l, numbered(grid(3, 4)))
		spare := l[:20]
		for i := many; i < 20; i++ {
			spare[i] = place(77, 7, 7)
		}
		slices.Reverse(l)
		was := slices.Clone(spare)
		e := of(t, 12, 9, l...)
		if !slices.Equal(spare, was) {
			t.Fatalf("Set changed its list: %v", spare)
		}
		unchanged(t, e, func() {
			for i := range spare {
				spare[i] = place(1, 1, 1)
			}
			for _, d := range []api.Dump{e.Dump(), e.Dump()} {
				for i := range d.Verts[:cap(d.Verts)] {
					d.Verts[:cap(d.Verts)][i] = api.Vert{No: -7}
				}
				for i := range d.Faces[:cap(d.Faces)] {
					d.Faces[:cap(d.Faces)][i] = api.Cell{No: -7}
				}
			}
			s := e.Sites()
			for i := range s[:cap(s)] {
				s[:cap(s)][i] = place(8, 8, 8)
			}
		})
		hold(t, e, was[:many])
	}
}
