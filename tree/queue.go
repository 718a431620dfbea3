package tree

import "slices"

// queue is what waits, in the order in which it came.
type queue[T any] struct {
	items []T
}

// push puts x behind the others; if there are more than most then, the first one is gone.
func (q *queue[T]) push(x T, most int) {
	q.items = append(q.items, x)
	if len(q.items) > most {
		q.items = slices.Delete(q.items, 0, 1)
	}
}

// take takes out the first one that is ready; false, if none is.
func (q *queue[T]) take(ready func(T) bool) (T, bool) {
	i := slices.IndexFunc(q.items, ready)
	if i < 0 {
		var none T
		return none, false
	}
	x := q.items[i]
	q.items = slices.Delete(q.items, i, i+1)
	return x, true
}
