package tally

import (
	"slices"
	"testing"
)

// dice answers numbers that a seed leads to.
type dice uint64

func (d *dice) next(n int) int {
	*d = *d*6364136223846793005 + 1442695040888963407
	return int(*d>>33) % n
}

// model is a list of all votes that were taken, each of a kind, a view, a node and a value, and answers by going through it.
type model struct {
	stakes []int
	votes  [][4]int
}

func (m *model) add(kind, view, from, value int) bool {
	if kind != 4 && kind != 5 || view < 0 || view > 1000 || from < 0 || from >= len(m.stakes) || value < -1 {
		return false
	}
	if _, again := m.vote(kind, view, from); again {
		return false
	}
	m.votes = append(m.votes, [4]int{kind, view, from, value})
	return true
}

func (m *model) vote(kind, view, from int) (int, bool) {
	for _, v := range m.votes {
		if v[0] == kind && v[1] == view && v[2] == from {
			return v[3], true
		}
	}
	return 0, false
}

// nodes answers those of which a vote does, rising, and what they have of how much.
func (m *model) nodes(does func([4]int) bool) (who []int, sum, total int) {
	for node, weight := range m.stakes {
		total += weight
		for _, v := range m.votes {
			if v[2] == node && does(v) {
				who = append(who, node)
				sum += weight
				break
			}
		}
	}
	return who, sum, total
}

func (m *model) who(kind, view, value int) []int {
	who, _, _ := m.nodes(func(v [4]int) bool { return v[0] == kind && v[1] == view && v[3] == value })
	return who
}

func (m *model) all(kind, view int) []int {
	who, _, _ := m.nodes(func(v [4]int) bool { return v[0] == kind && v[1] == view })
	return who
}

func (m *model) most(kind, view int) (int, bool) {
	for _, one := range m.votes {
		_, sum, total := m.nodes(func(v [4]int) bool { return v[0] == kind && v[1] == view && v[3] == one[3] })
		if sum*3 > total*2 {
			return one[3], true
		}
	}
	return 0, false
}

func (m *model) committed(views int) (int, bool) {
	for view := range views {
		if value, ok := m.most(5, view); ok && value != -1 {
			return value, true
		}
	}
	return 0, false
}

func (m *model) ahead(view, views int) int {
	for later := views; later > view; later-- {
		if _, sum, total := m.nodes(func(v [4]int) bool { return v[1] >= later }); sum*3 > total {
			return later
		}
	}
	return view
}

// holds tells it, if a tally answers otherwise than its model, in views below so many.
func holds(t *testing.T, x *Tally, m *model, views int) {
	t.Helper()
	for view := -1; view <= views; view++ {
		for kind := 3; kind <= 6; kind++ {
			for value := -2; value <= 3; value++ {
				if got, want := x.Who(kind, view, value), m.who(kind, view, value); !slices.Equal(got, want) {
					t.Fatalf("%v: for %d voted %v, not %v", m, value, got, want)
				}
			}
			for from := -1; from <= 7; from++ {
				got, ok := x.Vote(kind, view, from)
				if want, wanted := m.vote(kind, view, from); got != want || ok != wanted {
					t.Fatalf("%v: kind %d, view %d: %d voted %d %t", m, kind, view, from, got, ok)
				}
			}
			if got, want := x.All(kind, view), m.all(kind, view); !slices.Equal(got, want) {
				t.Fatalf("%v: kind %d, view %d: voted have %v, not %v", m, kind, view, got, want)
			}
			got, ok := x.Most(kind, view)
			if want, wanted := m.most(kind, view); got != want || ok != wanted {
				t.Fatalf("%v: kind %d, view %d: most voted for %d %t, not %d %t", m, kind, view, got, ok, want, wanted)
			}
		}
		if got, want := x.Ahead(view), m.ahead(view, views); got != want {
			t.Fatalf("%v: ahead of %d is %d, not %d", m, view, got, want)
		}
	}
	got, ok := x.Committed()
	if want, wanted := m.committed(views); got != want || ok != wanted {
		t.Fatalf("%v: committed is %d %t, not %d %t", m, got, ok, want, wanted)
	}
}

// throw answers stakes: often such of which a third can be had.
func (d *dice) throw() []int {
	l := make([]int, 1+d.next(7))
	for i := range l {
		l[i] = []int{1, 1, 1, 2, 3, 1000000}[d.next(5+d.next(2))]
	}
	return l
}

func TestModel(t *testing.T) {
	found := map[string]int{}
	for seed := range 400 {
		d := dice(seed)
		m := &model{stakes: d.throw()}
		x := New(m.stakes)
		views, favourite := 1+d.next(6), d.next(4)-1
		for range d.next(80) {
			kind, view, from, value := 4+d.next(2), d.next(views), d.next(len(m.stakes)), favourite
			switch d.next(8) {
			case 0:
				value = d.next(6) - 2
			case 1:
				kind, from = 3+d.next(4), d.next(9)-1
			case 2:
				view = d.next(views+2) - 1
			}
			got, want := x.Add(kind, view, from, value), m.add(kind, view, from, value)
			if got != want {
				t.Fatalf("%v: a vote %d %d %d %d: %t", m, kind, view, from, value, got)
			}
			if d.next(4) == 0 {
				holds(t, x, m, views+1)
			}
		}
		holds(t, x, m, views+1)
		if _, ok := x.Committed(); ok {
			found["committed"]++
		}
		if x.Ahead(0) > 0 {
			found["ahead"]++
		}
	}
	for _, what := range []string{"committed", "ahead"} {
		if found[what] < 100 || found[what] > 380 {
			t.Errorf("of 400 %s are %d", what, found[what])
		}
	}
}

// TestInWhateverOrder: votes that are all there tell the same, however they came, and however often it is asked.
func TestInWhateverOrder(t *testing.T) {
	for seed := range 60 {
		d := dice(seed)
		m := &model{stakes: d.throw()}
		for range 60 {
			m.add(4+d.next(2), d.next(5), d.next(len(m.stakes)), max(-1, d.next(7)-4))
		}
		for range 6 {
			x := New(m.stakes)
			votes := slices.Clone(m.votes)
			for i := range votes {
				j := d.next(len(votes))
				votes[i], votes[j] = votes[j], votes[i]
			}
			for _, v := range votes {
				if !x.Add(v[0], v[1], v[2], v[3]) {
					t.Fatalf("%v isn't taken", v)
				}
			}
			holds(t, x, m, 6)
			holds(t, x, m, 6)
		}
	}
}

// TestAllThatCanBe: each node votes in each view, of both kinds.
func TestAllThatCanBe(t *testing.T) {
	x := New([]int{1, 2, 3, 4, 5, 6, 7})
	for view := 1000; view >= 0; view-- {
		for node := range 7 {
			for _, kind := range kinds {
				value := -1
				if view == 990 || view == 995 {
					value = view
				}
				if !x.Add(kind, view, node, value) {
					t.Fatal("not taken:", kind, view, node)
				}
			}
		}
	}
	if value, ok := x.Committed(); value != 990 || !ok {
		t.Error("committed is", value, ok)
	}
	for view := -1; view <= 1001; view++ {
		if got := x.Ahead(view); got != max(view, 1000) {
			t.Errorf("ahead of %d is %d", view, got)
		}
		want := 7
		if view < 0 || view > 1000 {
			want = 0
		}
		if got := len(x.All(4, view)); got != want {
			t.Errorf("in view %d voted %d", view, got)
		}
	}
}
