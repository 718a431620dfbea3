package net

import "testing"

// full answers a bag in which the numbers from 0 to 3999 are.
func full(t *testing.T) *Bag[int] {
	t.Helper()
	return bagOf(t, run(0, 3999)...)
}

// refuses asks whether there is no room: neither for another one nor for one that is there.
func refuses(t *testing.T, b *Bag[int]) {
	t.Helper()
	if b.Put(-7) {
		t.Errorf("Put beside %d others: true", b.Len()-1)
	}
	for _, i := range []int{0, 1, 2000, 3998, 3999} {
		if b.Double(i) {
			t.Errorf("Double(%d) beside %d others: true", i, b.Len()-1)
		}
	}
	if n := b.Len(); n != 4000 {
		t.Errorf("Len: %d", n)
	}
}

func TestRoom(t *testing.T) {
	b := NewBag[int]()
	for n := range 4000 {
		puts(t, b, n)
		if b.Len() != n+1 {
			t.Fatalf("Len: %d, not %d", b.Len(), n+1)
		}
	}
	refuses(t, b)
	refuses(t, b)
	is(t, b, run(0, 3999)...)
	refuses(t, b)
}

// TestRoomUnseen: there is no more room, however many were looked at.
func TestRoomUnseen(t *testing.T) {
	for _, look := range []int{0, 1, 7, 1999, 3998, 3999} {
		b := full(t)
		b.At(look)
		if b.Put(-7) || b.Len() != 4000 {
			t.Errorf("beside %d others: true, as %d was looked at", b.Len(), look)
		}
		if b.Double(look) || b.Len() != 4000 {
			t.Errorf("%d is doubled, and there are %d", look, b.Len())
		}
		is(t, b, run(0, 3999)...)
	}
}

// TestRoomAgain: where one was taken there is room for one, behind the others.
func TestRoomAgain(t *testing.T) {
	for _, i := range []int{0, 1, 2000, 3998, 3999} {
		b := full(t)
		takes(t, b, i, i)
		puts(t, b, 4000)
		refuses(t, b)
		is(t, b, append(append(run(0, i-1), run(i+1, 3999)...), 4000)...)
		takes(t, b, i, i+1)
		doubles(t, b, 0)
		refuses(t, b)
	}
}

// TestRoomGoesRound: far more go through than can be there at once.
func TestRoomGoesRound(t *testing.T) {
	b := full(t)
	for n := range 20000 {
		takes(t, b, 0, n)
		puts(t, b, 4000+n)
	}
	refuses(t, b)
	is(t, b, run(20000, 23999)...)
}

// TestDoubleToRoom: doubled ones have the same room as others.
func TestDoubleToRoom(t *testing.T) {
	b := bagOf(t, 1, 2)
	for range 3998 {
		doubles(t, b, b.Len()-2)
	}
	refuses(t, b)
	for i := range 4000 {
		if x, ok := b.At(i); x != 1+i%2 || !ok {
			t.Fatalf("At(%d): %d, %t", i, x, ok)
		}
	}
}
