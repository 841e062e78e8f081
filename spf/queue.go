package spf

// item is a node that can be reached, and the length of a path to it.
type item struct{ node, dist int }

// queue is a heap (container/heap) of items, the nearest first.
type queue []item

func (q queue) Len() int           { return len(q) }
func (q queue) Less(i, j int) bool { return q[i].dist < q[j].dist }
func (q queue) Swap(i, j int)      { q[i], q[j] = q[j], q[i] }

// Push appends an item, Pop takes the last one away, as container/heap asks for.
func (q *queue) Push(x any) { *q = append(*q, x.(item)) }
func (q *queue) Pop() any {
	last := len(*q) - 1
	x := (*q)[last]
	*q = (*q)[:last]
	return x
}
