package net

import (
	"slices"
	"testing"
)

// dice answers numbers that a seed leads to.
type dice uint64

func (d *dice) next(n int) int {
	*d = *d*6364136223846793005 + 1442695040888963407
	return int(*d>>33) % n
}

// model does what a Bag does, and answers 0 where there is none.
type model struct{ things []int }

func (m *model) put(x int) bool {
	if len(m.things) == 4000 {
		return false
	}
	m.things = append(m.things, x)
	return true
}

func (m *model) at(i int) (int, bool) {
	if i < 0 || i >= len(m.things) {
		return 0, false
	}
	return m.things[i], true
}

func (m *model) take(i int) (int, bool) {
	x, ok := m.at(i)
	if ok {
		m.things = slices.Concat(m.things[:i], m.things[i+1:])
	}
	return x, ok
}

func (m *model) double(i int) bool {
	x, ok := m.at(i)
	return ok && m.put(x)
}

// place answers a place that most often is taken.
func (d *dice) place(many int) int {
	switch d.next(8) {
	case 0:
		return d.next(3)
	case 1:
		return many - 1 + d.next(3) - 1
	case 2:
		return far[d.next(len(far))]
	}
	return d.next(many + 1)
}

// turn does one thing to both, and answers whether both said the same, and whether there was no room.
func (d *dice) turn(b *Bag[int], m *model, more int) (same, noRoom bool) {
	i := d.place(len(m.things))
	switch k := d.next(6 + more); {
	case k < 2:
		x, xOK := b.Take(i)
		y, yOK := m.take(i)
		return x == y && xOK == yOK, false
	case k < 3:
		x, xOK := b.At(i)
		y, yOK := m.at(i)
		return x == y && xOK == yOK, false
	case k < 4:
		x, y := b.Double(i), m.double(i)
		return x == y, false
	default:
		x := d.next(1000)
		put := m.put(x)
		return b.Put(x) == put, !put
	}
}

func TestModel(t *testing.T) {
	refused := 0
	for seed := range 60 {
		d := dice(seed)
		b, m := NewBag[int](), &model{}
		if seed%3 == 0 {
			m.things = run(1, 3900+seed)
			puts(t, b, m.things...)
		}
		for call := range 2000 {
			same, noRoom := d.turn(b, m, seed%4)
			if !same || b.Len() != len(m.things) {
				t.Fatalf("seed %d, call %d: not what the model says", seed, call)
			}
			if noRoom {
				refused++
			}
		}
		is(t, b, m.things...)
	}
	if refused < 1000 {
		t.Error("too seldom there was no room:", refused)
	}
}
