package net

import (
	"math"
	"slices"
	"testing"
)

// far are numbers that no place has, and no node, and look like some.
var far = []int{
	math.MinInt, math.MinInt + 1, -1 << 62, -1<<32 - 1, -1 << 32, 1 - 1<<32, -1 << 31, -4001, -4000, -8, -7, -2, -1,
	1 << 31, 1<<32 - 1, 1 << 32, 1<<32 + 1, 1 << 62, math.MaxInt - 1, math.MaxInt,
}

// run answers the numbers from one on to another.
func run(from, to int) []int {
	var l []int
	for n := from; n <= to; n++ {
		l = append(l, n)
	}
	return l
}

// bagOf answers a bag of these, which all are taken.
func bagOf[T any](t *testing.T, things ...T) *Bag[T] {
	t.Helper()
	b := NewBag[T]()
	puts(t, b, things...)
	return b
}

// puts puts what there is to be room for.
func puts[T any](t *testing.T, b *Bag[T], things ...T) {
	t.Helper()
	for _, x := range things {
		if !b.Put(x) {
			t.Errorf("Put(%v): false", x)
		}
	}
}

// is asks whether a bag has these and no others.
func is[T comparable](t *testing.T, b *Bag[T], want ...T) {
	t.Helper()
	if n := b.Len(); n != len(want) {
		t.Fatalf("Len: %d, not %d", n, len(want))
	}
	for i, w := range want {
		if x, ok := b.At(i); !ok || x != w {
			t.Fatalf("At(%d): %v, %t, not %v", i, x, ok, w)
		}
	}
	isNoneAt(t, b, len(want), len(want)+1)
	isNoneAt(t, b, far...)
}

// isNoneAt asks whether there is none at these places; Double and Take are to change nothing then.
func isNoneAt[T comparable](t *testing.T, b *Bag[T], places ...int) {
	t.Helper()
	var none T
	before := b.Len()
	for _, i := range places {
		if x, ok := b.At(i); ok || x != none {
			t.Errorf("At(%d): %v, %t", i, x, ok)
		}
		if x, ok := b.Take(i); ok || x != none {
			t.Errorf("Take(%d): %v, %t", i, x, ok)
		}
		if b.Double(i) {
			t.Errorf("Double(%d): true", i)
		}
	}
	if n := b.Len(); n != before {
		t.Errorf("Len: %d, not %d any more", n, before)
	}
}

// takes takes what is to be at a place.
func takes[T comparable](t *testing.T, b *Bag[T], i int, want T) {
	t.Helper()
	if x, ok := b.Take(i); !ok || x != want {
		t.Errorf("Take(%d): %v, %t, not %v", i, x, ok, want)
	}
}

// doubles doubles what there is to be room for.
func doubles[T any](t *testing.T, b *Bag[T], places ...int) {
	t.Helper()
	for _, i := range places {
		if !b.Double(i) {
			t.Errorf("Double(%d): false", i)
		}
	}
}

func TestExample(t *testing.T) {
	b := bagOf(t, 5, 6, 7)
	takes(t, b, 1, 6)
	is(t, b, 5, 7)
}

func TestEmpty(t *testing.T) {
	b := NewBag[int]()
	is(t, b)
	puts(t, b, 9)
	is(t, b, 9)
	takes(t, b, 0, 9)
	is(t, b)
	is(t, NewBag[string]())
}

// TestOrder: it is the order in which they came, not that of their values, and some may be alike.
func TestOrder(t *testing.T) {
	b := NewBag[int]()
	var all []int
	for _, x := range []int{5, -3, 0, 5, 5, math.MaxInt, 0, math.MinInt} {
		puts(t, b, x)
		all = append(all, x)
		is(t, b, all...)
	}
	for _, x := range all {
		takes(t, b, 0, x)
	}
	is(t, b)
}

// TestAtChangesNothing: what is looked at stays where it is, and what comes then is behind all.
func TestAtChangesNothing(t *testing.T) {
	for look := range 6 {
		b := bagOf(t, run(0, 5)...)
		for range 3 {
			if x, ok := b.At(look); x != look || !ok {
				t.Errorf("At(%d): %d, %t", look, x, ok)
			}
		}
		puts(t, b, 6)
		is(t, b, run(0, 6)...)
	}
}

func TestTake(t *testing.T) {
	for i := range 7 {
		b := bagOf(t, run(0, 6)...)
		takes(t, b, i, i)
		is(t, b, slices.Delete(run(0, 6), i, i+1)...)
	}
}

// TestTakeUnseen: the same, if nothing is looked at ahead of it and more comes behind it.
func TestTakeUnseen(t *testing.T) {
	for i := range 7 {
		for j := range 7 {
			b, want := bagOf(t, run(0, 6)...), run(0, 6)
			takes(t, b, i, i)
			want = slices.Delete(want, i, i+1)
			puts(t, b, 7)
			want = append(want, 7)
			takes(t, b, j, want[j])
			is(t, b, slices.Delete(want, j, j+1)...)
		}
	}
}

func TestTakeFromBehind(t *testing.T) {
	b := bagOf(t, run(0, 20)...)
	for i := 20; i >= 0; i-- {
		takes(t, b, i, i)
		isNoneAt(t, b, i, i+1)
	}
	is(t, b)
}

func TestDouble(t *testing.T) {
	b := bagOf(t, 5, 6, 7)
	doubles(t, b, 1)
	is(t, b, 5, 6, 7, 6)
	doubles(t, b, 0, 3, 2)
	is(t, b, 5, 6, 7, 6, 5, 6, 7)
	takes(t, b, 1, 6)
	takes(t, b, 0, 5)
	is(t, b, 7, 6, 5, 6, 7)
}

// TestDoubleUnseen: the last one too, where nothing was looked at.
func TestDoubleUnseen(t *testing.T) {
	for i := range 4 {
		b := bagOf(t, run(0, 3)...)
		doubles(t, b, i)
		is(t, b, 0, 1, 2, 3, i)
	}
}

// TestZeroValues: they are things as others are.
func TestZeroValues(t *testing.T) {
	b := bagOf(t, 0, 0)
	is(t, b, 0, 0)
	doubles(t, b, 1)
	takes(t, b, 0, 0)
	is(t, b, 0, 0)
	is(t, bagOf(t, "", "x", ""), "", "x", "")
	is(t, bagOf[*int](t, nil, nil), nil, nil)
	is(t, bagOf[any](t, nil, 1, nil), nil, 1, nil)
}
