package net

import (
	"slices"

	"neaptide/api"
)

// Bag is what is on its way.
type Bag[T any] struct {
	// Pointers, as a channel can't have things of any size, and sets aside room for all of them at once.
	way chan *T
	// near is what was taken out already to reach what came later: it is ahead of all that is in the channel.
	near []*T
}

// NewBag: nothing is.
func NewBag[T any]() *Bag[T] { return &Bag[T]{way: make(chan *T, api.MaxBag)} }

// Put: one more.
func (b *Bag[T]) Put(x T) bool { return b.Len() < api.MaxBag && b.send(&x) }

// Len: how many.
func (b *Bag[T]) Len() int { return len(b.near) + len(b.way) }

// At: the one at a place.
func (b *Bag[T]) At(i int) (T, bool) {
	if !b.reach(i) {
		var none T
		return none, false
	}
	return *b.near[i], true
}

// Take: it is gone.
func (b *Bag[T]) Take(i int) (T, bool) {
	x, ok := b.At(i)
	if ok {
		b.near = slices.Delete(b.near, i, i+1)
	}
	return x, ok
}

// Double: it comes twice.
func (b *Bag[T]) Double(i int) bool {
	x, ok := b.At(i)
	return ok && b.Put(x)
}

// reach takes out of the channel what is needed for the one with i ahead of it to be near; false, if there is none.
func (b *Bag[T]) reach(i int) bool {
	for len(b.near) <= i {
		x, ok := b.receive()
		if !ok {
			return false
		}
		b.near = append(b.near, x)
	}
	return i >= 0
}

// send puts it into the channel; false, if that is full.
func (b *Bag[T]) send(x *T) bool {
	select {
	case b.way <- x:
		return true
	default:
		return false
	}
}

// receive takes the first one out of the channel; false, if that is empty.
func (b *Bag[T]) receive() (*T, bool) {
	select {
	case x := <-b.way:
		return x, true
	default:
		return nil, false
	}
}
