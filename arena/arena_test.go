package arena_test

import (
	"math"
	"math/rand"
	"slices"
	"testing"

	"zellige/arena"
)

// model is an arena by the chapter's words alone: which numbers are lent, and which came back and weren't lent again, in that order.
type model struct {
	lent map[int]bool
	back []int
	top  int
	most int // the most that were ever lent at one time, from New or Clear on
}

func newModel() *model {
	return &model{lent: map[int]bool{}}
}

func (m *model) take() int {
	n := m.top
	if len(m.back) > 0 {
		n = m.back[len(m.back)-1]
		m.back = m.back[:len(m.back)-1]
	} else {
		m.top++
	}
	m.lent[n] = true
	m.most = max(m.most, len(m.lent))
	return n
}

func (m *model) free(n int) bool {
	if !m.lent[n] {
		return false
	}
	delete(m.lent, n)
	m.back = append(m.back, n)
	return true
}

// all looks through every number there may be, rising.
func (m *model) all() []int {
	var all []int
	for n := 0; n < m.top; n++ {
		if m.lent[n] {
			all = append(all, n)
		}
	}
	return all
}

// strange are numbers that no arena of these tests ever lends.
func strange() []int {
	return []int{-1, -2, -7, -1 << 31, math.MinInt, math.MinInt + 1, 1 << 20, 1 << 31, 1 << 32, math.MaxInt - 1, math.MaxInt}
}

// hold holds all that the arena tells against the numbers that are to be lent and against how many there ever were.
func hold(t *testing.T, a *arena.Arena, lent []int, top int) {
	t.Helper()
	if got := a.All(); !slices.Equal(got, lent) {
		t.Fatalf("All: %v, not %v", got, lent)
	}
	if got := a.Len(); got != len(lent) {
		t.Fatalf("Len: %d, not %d", got, len(lent))
	}
	if got := a.Top(); got != top {
		t.Fatalf("Top: %d, not %d", got, top)
	}
	for n := -2; n <= top+2; n++ {
		if got := a.Live(n); got != slices.Contains(lent, n) {
			t.Fatalf("Live(%d): %v, lent are %v", n, got, lent)
		}
	}
	for _, n := range strange() {
		if a.Live(n) {
			t.Fatalf("Live(%d): lent are %v", n, lent)
		}
	}
}

// takes lends numbers and holds them against those that are to come.
func takes(t *testing.T, a *arena.Arena, want ...int) {
	t.Helper()
	for i, n := range want {
		if got := a.Take(); got != n {
			t.Fatalf("Take no. %d: %d, not %d", i, got, n)
		}
	}
}

// frees takes back numbers that are lent.
func frees(t *testing.T, a *arena.Arena, numbers ...int) {
	t.Helper()
	for _, n := range numbers {
		if !a.Free(n) {
			t.Fatalf("Free(%d): false", n)
		}
	}
}

// refuses takes back numbers that are not lent.
func refuses(t *testing.T, a *arena.Arena, numbers ...int) {
	t.Helper()
	for _, n := range numbers {
		if a.Free(n) {
			t.Fatalf("Free(%d): true", n)
		}
	}
}

// full is an arena from which so many numbers are lent, and nothing else was done.
func full(t *testing.T, many int) *arena.Arena {
	t.Helper()
	a := arena.New()
	for n := range many {
		takes(t, a, n)
	}
	return a
}

// upTo is 0 to n - 1.
func upTo(n int) []int {
	var all []int
	for i := range n {
		all = append(all, i)
	}
	return all
}

// P10.1: the chapter's example.
func TestExample(t *testing.T) {
	a := arena.New()
	takes(t, a, 0, 1)
	frees(t, a, 0)
	takes(t, a, 0)
	hold(t, a, []int{0, 1}, 2)
}

// P10.1: of a new arena nothing is lent, there never was a number, and none comes back.
func TestNew(t *testing.T) {
	a := arena.New()
	if a == nil {
		t.Fatal("New is nil")
	}
	hold(t, a, nil, 0)
	refuses(t, a, 0, 1)
	refuses(t, a, strange()...)
	hold(t, a, nil, 0)
	takes(t, a, 0)
	hold(t, a, []int{0}, 1)
}

// P10.1: where nothing came back, Take is Top, which is one more then.
func TestTakeFresh(t *testing.T) {
	a := arena.New()
	for n := range 300 {
		if top := a.Top(); top != n {
			t.Fatal(top)
		}
		takes(t, a, n)
		hold(t, a, upTo(n+1), n+1)
	}
}

// P10.1: where one number came back, Take is that one, whichever it is, and Top stays; the next one is Top.
func TestTakeOneThatCameBack(t *testing.T) {
	for n := range 9 {
		a := full(t, 9)
		frees(t, a, n)
		hold(t, a, slices.Delete(upTo(9), n, n+1), 9)
		takes(t, a, n)
		hold(t, a, upTo(9), 9)
		takes(t, a, 9)
		hold(t, a, upTo(10), 10)
	}
}

// eachOrder calls f with each order of the numbers 0 to many - 1, of all of them and of some of them.
func eachOrder(many int, f func([]int)) {
	var grow func([]int)
	grow = func(taken []int) {
		f(slices.Clone(taken))
		for n := range many {
			if !slices.Contains(taken, n) {
				grow(append(slices.Clone(taken), n))
			}
		}
	}
	grow(nil)
}

// P10.1: the number that came back last comes first, in whatever order numbers came back; when none is left, Top comes.
func TestTakeLastFirst(t *testing.T) {
	orders := 0
	eachOrder(5, func(order []int) {
		orders++
		a := full(t, 5)
		left := upTo(5)
		for _, n := range order {
			frees(t, a, n)
			left = slices.DeleteFunc(left, func(m int) bool { return m == n })
			hold(t, a, left, 5)
		}
		slices.Reverse(order)
		for _, n := range order {
			takes(t, a, n)
			left = append(left, n)
			slices.Sort(left)
			hold(t, a, left, 5)
		}
		takes(t, a, 5, 6)
		hold(t, a, upTo(7), 7)
	})
	if orders != 326 {
		t.Fatal(orders)
	}
}

// P10.1: of those that came back just those count that were not lent again, the last of them first.
func TestTakeBetween(t *testing.T) {
	a := full(t, 6)
	frees(t, a, 4, 1, 5)
	takes(t, a, 5)
	frees(t, a, 0, 2)
	takes(t, a, 2)
	frees(t, a, 3)
	takes(t, a, 3, 0)
	hold(t, a, []int{0, 2, 3, 5}, 6)
	frees(t, a, 5, 0)
	takes(t, a, 0, 5, 1, 4, 6)
	hold(t, a, upTo(7), 7)
}

// P10.1: Free of what is not lent is false and changes nothing, not even which number comes next.
func TestFreeWrong(t *testing.T) {
	a := full(t, 5)
	frees(t, a, 3, 1)
	for range 3 {
		refuses(t, a, 1, 3, 5, 6, 7, -1, -5)
		refuses(t, a, strange()...)
		hold(t, a, []int{0, 2, 4}, 5)
	}
	takes(t, a, 1, 3)
	refuses(t, a, 5)
	hold(t, a, upTo(5), 5)
	takes(t, a, 5, 6)
	hold(t, a, upTo(7), 7)
}

// P10.1: a number that came back, was lent again and came back is taken back twice in all, and no oftener.
func TestFreeAgain(t *testing.T) {
	a := full(t, 2)
	for range 4 {
		frees(t, a, 1)
		refuses(t, a, 1)
		hold(t, a, []int{0}, 2)
		takes(t, a, 1)
		hold(t, a, []int{0, 1}, 2)
	}
}

// P10.1: the number that is just Top was never lent, though Take would lend it next.
func TestTopItself(t *testing.T) {
	a := arena.New()
	for top := range 20 {
		refuses(t, a, top)
		if a.Live(top) {
			t.Fatal(top)
		}
		hold(t, a, upTo(top), top)
		takes(t, a, top)
	}
}

// P10.1: an arena from which all came back has none that is lent, and still knows in which order they did.
func TestAllCameBack(t *testing.T) {
	a := full(t, 4)
	frees(t, a, 2, 0, 3, 1)
	hold(t, a, nil, 4)
	refuses(t, a, 0, 1, 2, 3, 4)
	takes(t, a, 1, 3, 0, 2, 4)
	hold(t, a, upTo(5), 5)
}

// P10.1: Clear is as New: of a new arena, of one from which all, some or none are lent, and again and again.
func TestClear(t *testing.T) {
	for _, gone := range [][]int{nil, {0}, {5}, {2, 4}, {5, 3, 1}, {0, 1, 2, 3, 4, 5}, {5, 4, 3, 2, 1, 0}} {
		a := full(t, 6)
		frees(t, a, gone...)
		for range 2 {
			a.Clear()
			hold(t, a, nil, 0)
			refuses(t, a, 0, 1, 2, 3, 4, 5, 6)
		}
		takes(t, a, 0, 1)
		hold(t, a, upTo(2), 2)
		frees(t, a, 0)
		takes(t, a, 0, 2)
		a.Clear()
		takes(t, a, 0)
		hold(t, a, upTo(1), 1)
	}
	a := arena.New()
	a.Clear()
	hold(t, a, nil, 0)
	takes(t, a, 0, 1)
}

// P10.1, Memory: All is a new list each time: what is done to one, its spare room too, is seen nowhere else.
func TestMemory(t *testing.T) {
	a := full(t, 7)
	frees(t, a, 5, 2)
	want := []int{0, 1, 3, 4, 6}
	first := a.All()
	second := a.All()
	scribble(first)
	hold(t, a, want, 7)
	if !slices.Equal(second, want) {
		t.Fatal(second)
	}
	third := append(a.All()[:1], 77, 78)
	hold(t, a, want, 7)
	takes(t, a, 2, 5, 7)
	if !slices.Equal(second, want) || third[0] != 0 || third[1] != 77 {
		t.Fatal(second, third)
	}
	hold(t, a, upTo(8), 8)
	scribble(a.All())
	frees(t, a, 7)
	takes(t, a, 7, 8)
}

// scribble writes over a list and its spare room.
func scribble(list []int) {
	list = list[:cap(list)]
	for i := range list {
		list[i] = -99
	}
}

// P10.1, From arguments alone: what is done to one arena is not seen in another one, made before it or behind it.
func TestApart(t *testing.T) {
	a := arena.New()
	takes(t, a, 0, 1, 2)
	b := arena.New()
	hold(t, b, nil, 0)
	takes(t, b, 0, 1)
	frees(t, a, 1)
	hold(t, b, upTo(2), 2)
	frees(t, b, 0)
	hold(t, a, []int{0, 2}, 3)
	a.Clear()
	hold(t, b, []int{1}, 2)
	takes(t, b, 0, 2)
	hold(t, a, nil, 0)
	takes(t, a, 0)
	b.Clear()
	hold(t, a, []int{0}, 1)
}

// P10.1: of a nil arena Take is -1, Free and Live are false, Len and Top nought, All none; Clear does nothing.
func TestNil(t *testing.T) {
	var a *arena.Arena
	for range 2 {
		takes(t, a, -1, -1)
		refuses(t, a, 0, 1)
		refuses(t, a, strange()...)
		hold(t, a, nil, 0)
		if a.Live(0) || a.Live(-1) || len(a.All()) != 0 {
			t.Fatal("a nil arena lends")
		}
		a.Clear()
	}
}

// Ends: an arena that New didn't make answers something, and nothing panics.
func TestZeroValue(t *testing.T) {
	var a arena.Arena
	a.Free(0)
	a.Take()
	a.Free(0)
	a.Take()
	a.Take()
	a.Live(0)
	a.All()
	a.Clear()
	a.Take()
}

// run does one thing to both the arena and its model, told by a number, and holds what they answer against each other.
func run(t *testing.T, a *arena.Arena, m *model, what, which int) {
	t.Helper()
	switch {
	case what < 50:
		before := m.all()
		got, want := a.Take(), m.take()
		if got != want {
			t.Fatalf("Take: %d, not %d", got, want)
		}
		if slices.Contains(before, got) {
			t.Fatalf("Take: %d was lent", got)
		}
	case what < 90 && len(m.lent) > 0:
		all := m.all()
		n := all[which%len(all)]
		if !a.Free(n) || !m.free(n) {
			t.Fatalf("Free(%d): false", n)
		}
	case what < 99:
		n := which%(m.top+4) - 2
		if got, want := a.Free(n), m.free(n); got != want {
			t.Fatalf("Free(%d): %v", n, got)
		}
	default:
		a.Clear()
		*m = *newModel()
	}
	if a.Len() != len(m.lent) || a.Top() != m.top || m.top != m.most {
		t.Fatalf("Len %d, Top %d, model %d, %d, the most at one time %d", a.Len(), a.Top(), len(m.lent), m.top, m.most)
	}
}

// P10.1 and P10.2: long runs of takings and givings back: all is as the words say, no number is lent twice, and Top is the most that were ever lent at one time.
func TestRuns(t *testing.T) {
	for seed := range int64(40) {
		r := rand.New(rand.NewSource(seed))
		a, m := arena.New(), newModel()
		// Few of the runs clear, so that the others grow.
		kinds := 99
		if seed%4 == 0 {
			kinds = 100
		}
		greatest := 0
		for range 600 {
			run(t, a, m, r.Intn(kinds), r.Intn(1<<20))
			hold(t, a, m.all(), m.top)
			greatest = max(greatest, m.top)
		}
		if greatest < 5 {
			t.Fatalf("seed %d: never more than %d", seed, greatest)
		}
	}
}

// P10.2: Top is the most at one time, not how often numbers were taken, nor how many are lent now.
func TestFew(t *testing.T) {
	a := arena.New()
	for most := 1; most <= 40; most++ {
		for range 3 {
			for range most {
				a.Take()
			}
			if a.Top() != most || a.Len() != most {
				t.Fatalf("Top %d, Len %d of %d", a.Top(), a.Len(), most)
			}
			// They go in another order than they came.
			for i := range most {
				frees(t, a, (i+most/2)%most)
			}
			if a.Top() != most || a.Len() != 0 {
				t.Fatalf("Top %d, Len %d behind %d", a.Top(), a.Len(), most)
			}
		}
	}
}

// P10.1 and P10.2: many numbers: each is lent once, they come back from the middle outwards and go out again, and each call is quick enough.
func TestMany(t *testing.T) {
	const many = 200000
	a := arena.New()
	for n := range many {
		if a.Take() != n {
			t.Fatal(n)
		}
	}
	for n := 0; n < many; n += 2 {
		if !a.Free(n) {
			t.Fatal(n)
		}
	}
	if a.Len() != many/2 || a.Top() != many {
		t.Fatal(a.Len(), a.Top())
	}
	for n := many - 2; n >= 0; n -= 2 {
		if got := a.Take(); got != n {
			t.Fatal(got, n)
		}
	}
	if a.Take() != many || a.Len() != many+1 || a.Top() != many+1 || !slices.Equal(a.All(), upTo(many+1)) {
		t.Fatal(a.Len(), a.Top())
	}
}

// FuzzAll: any row of acts goes as the words say (P10.1, P10.2).
func FuzzAll(f *testing.F) {
	f.Add([]byte{0, 0, 0, 0, 60, 0, 0, 0})
	f.Add([]byte{0, 0, 0, 0, 95, 9, 99, 0, 0, 0, 60, 3})
	f.Fuzz(func(t *testing.T, acts []byte) {
		a, m := arena.New(), newModel()
		for i := 0; i+1 < len(acts) && i < 2000; i += 2 {
			run(t, a, m, int(acts[i])%100, int(acts[i+1]))
		}
		hold(t, a, m.all(), m.top)
	})
}
