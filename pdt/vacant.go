package pdt

import (
	"container/heap"

	"zellige/api"
)

// vacant is which ids stand for none: those below fresh that came back, and of those from fresh on all that no site is told of. So no more is kept than came back, however many ids there may be.
type vacant struct {
	back  least
	fresh int
}

// take is the least id that stands for none, which is then taken; sites is what the others stand for.
func (v *vacant) take(sites map[int]api.Point) int {
	if len(v.back) > 0 {
		return heap.Pop(&v.back).(int)
	}
	for {
		id := v.fresh
		v.fresh++
		if _, taken := sites[id]; !taken {
			return id
		}
	}
}

// give gives back an id that stood for a site till then.
func (v *vacant) give(id int) {
	if id < v.fresh {
		heap.Push(&v.back, id)
	}
}

// least is a heap of ids, the least one on top.
type least []int

func (l least) Len() int           { return len(l) }
func (l least) Less(i, k int) bool { return l[i] < l[k] }
func (l least) Swap(i, k int)      { l[i], l[k] = l[k], l[i] }
func (l *least) Push(id any)       { *l = append(*l, id.(int)) }

func (l *least) Pop() any {
	end := len(*l) - 1
	id := (*l)[end]
	*l = (*l)[:end]
	return id
}
