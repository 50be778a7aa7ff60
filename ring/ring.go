// Package ring: a short queue that holds what waits, in its order.
package ring

import (
	"iter"

	"commits/api"
)

// Ring holds at most api.MaxStore items; its zero value is empty.
type Ring[T any] struct {
	slots [api.MaxStore]T
	first int
	count int
}

// Len tells how many items wait.
func (r *Ring[T]) Len() int { return r.count }

// Push lays an item behind the others. In a full ring the first one makes room for it and comes out.
func (r *Ring[T]) Push(item T) (T, bool) {
	var out T
	full := r.count == len(r.slots)
	if full {
		out, _ = r.Pop()
	}
	r.slots[r.slot(r.count)] = item
	r.count++
	return out, full
}

// Pop takes the first item out, if there is one.
func (r *Ring[T]) Pop() (T, bool) {
	var none T
	if r.count == 0 {
		return none, false
	}
	out := r.slots[r.first]
	r.slots[r.first] = none
	r.first = r.slot(1)
	r.count--
	return out, true
}

// Backward yields the items from the last one to the first.
func (r *Ring[T]) Backward() iter.Seq[T] {
	return func(yield func(T) bool) {
		for i := r.count - 1; i >= 0; i-- {
			if !yield(r.slots[r.slot(i)]) {
				return
			}
		}
	}
}

// slot is where the item lies that i others stand ahead of.
func (r *Ring[T]) slot(i int) int { return (r.first + i) % len(r.slots) }
