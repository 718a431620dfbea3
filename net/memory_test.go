package net

import (
	"slices"
	"testing"
)

// parcel is a thing that has a list and an array.
type parcel struct {
	to    int
	array [3]int
	data  []byte
}

// TestThingsAreKept: a bag has what was put, not a copy of what that leads to.
func TestThingsAreKept(t *testing.T) {
	one, two := 1, 1
	b := bagOf(t, &one, &two)
	doubles(t, b, 0)
	is(t, b, &one, &two, &one)
	way := make(chan int)
	is(t, bagOf(t, way, nil), way, nil)
	data := []byte("abc")
	l := bagOf(t, parcel{data: data})
	data[0] = 'x'
	if x, _ := l.Take(0); string(x.data) != "xbc" {
		t.Errorf("%q", x.data)
	}
}

// TestThingsAreTheirOwn: what is done to what was put, or to an answer, changes none that is there.
func TestThingsAreTheirOwn(t *testing.T) {
	x := parcel{to: 1, array: [3]int{1, 2, 3}}
	b := bagOf(t, x)
	doubles(t, b, 0)
	x.to, x.array[1] = 9, 9
	y, _ := b.At(0)
	y.to, y.array[1] = 8, 8
	z, _ := b.Take(0)
	z.to, z.array[1] = 7, 7
	left, ok := b.At(0)
	if !ok || left.to != 1 || left.array != [3]int{1, 2, 3} || b.Len() != 1 {
		t.Error(left, ok, b.Len())
	}
}

// TestTwoBags: nothing of one is in another.
func TestTwoBags(t *testing.T) {
	b, c := bagOf(t, 1, 2, 3), NewBag[int]()
	is(t, c)
	puts(t, c, 4)
	takes(t, b, 0, 1)
	is(t, b, 2, 3)
	is(t, c, 4)
}

// TestAnyType: of things of any size, or of none, and of things that can't be held against one another.
func TestAnyType(t *testing.T) {
	type big [100000]byte
	var x, y big
	x[99999], y[0] = 1, 2
	b := bagOf(t, x, y)
	doubles(t, b, 0)
	is(t, b, x, y, x)
	is(t, bagOf(t, struct{}{}, struct{}{}), struct{}{}, struct{}{})
	f := bagOf(t, func() int { return 1 }, func() int { return 2 })
	if g, ok := f.Take(1); !ok || g() != 2 {
		t.Error("a function:", ok)
	}
	if g, ok := f.At(1); ok || g != nil {
		t.Error("no function:", ok)
	}
	bags := bagOf(t, bagOf(t, 5), bagOf(t, 6))
	if c, ok := bags.Take(1); !ok {
		t.Error("no bag")
	} else {
		is(t, c, 6)
	}
}

// TestSpreadIsNew: no answer has memory in common with another one.
func TestSpreadIsNew(t *testing.T) {
	for nodes := 1; nodes <= 7; nodes++ {
		for to := -1; to < nodes; to++ {
			one, two := Spread(to, 8, nodes), Spread(to, 8, nodes)
			want := slices.Clone(two)
			one = one[:cap(one)]
			for i := range one {
				one[i] = 77
			}
			_ = append(two, 78)
			if three := Spread(to, 8, nodes); !slices.Equal(two, want) || !slices.Equal(three, want) {
				t.Errorf("an answer hangs on another one: %v, %v", two, three)
			}
		}
	}
}

// TestTwoSides: nothing of one is in another.
func TestTwoSides(t *testing.T) {
	one, two := NewSides(), NewSides()
	one.Cut(1)
	if one.Same(0, 1) || !two.Same(0, 1) || !NewSides().Same(0, 1) {
		t.Error("Same hangs on another one's Cut")
	}
}
