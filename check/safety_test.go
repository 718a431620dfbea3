package check

import (
	"slices"
	"testing"

	"neaptide/api"
	"neaptide/stake"
)

// parcel is a message on its way.
type parcel struct {
	to  int
	msg api.Msg
}

// world is some cores, what is on its way between them, and bad ones that say whatever they like.
type world struct {
	d       *dice
	stakes  []int
	bad     []int
	cores   []*Core     // nil of a bad one
	journal [][]api.Rec // what a node said or decided, in its order
	way     []parcel
}

func newWorld(d *dice, stakes, bad []int) *world {
	w := &world{d: d, stakes: stakes, bad: bad, cores: make([]*Core, len(stakes)), journal: make([][]api.Rec, len(stakes))}
	for node := range stakes {
		if !slices.Contains(bad, node) {
			w.cores[node] = New(node, stakes, 1, 3)
		}
	}
	return w
}

// emit takes down what a node sends, and puts it on its way: also to the bad ones, who don't listen.
func (w *world) emit(t *testing.T, from int, acts []api.Act) {
	t.Helper()
	for _, a := range acts {
		if a.To == -1 {
			w.takeDown(t, from, a.Msg)
		}
		for to := range w.stakes {
			if to != from && (a.To == -1 || a.To == to) {
				w.way = append(w.way, parcel{to, a.Msg})
			}
		}
	}
}

// takeDown writes a vote or a decision down, and tells it, if it is unlike one that was.
func (w *world) takeDown(t *testing.T, from int, m api.Msg) {
	t.Helper()
	if m.Kind == api.KindPropose {
		return
	}
	for _, r := range w.journal[from] {
		if r.Kind == m.Kind && r.Index == m.Index && r.View == m.View {
			if r.Value != m.Value {
				t.Fatalf("%d says %d of kind %d in index %d and view %d, and then %d", from, r.Value, r.Kind, r.Index, r.View, m.Value)
			}
			return
		}
	}
	w.journal[from] = append(w.journal[from], api.Rec{Kind: m.Kind, Index: m.Index, View: m.View, Value: m.Value})
}

// deliver takes one that is on its way: some are lost, some come twice, and none comes in any order.
func (w *world) deliver(t *testing.T) {
	t.Helper()
	if len(w.way) == 0 {
		return
	}
	i := w.d.next(len(w.way))
	p := w.way[i]
	if w.d.next(6) > 0 {
		w.way = slices.Delete(w.way, i, i+1)
	}
	if c := w.cores[p.to]; c != nil && w.d.next(8) > 0 {
		w.emit(t, p.to, c.Handle(p.msg, w.d.knows()))
	}
}

// lie has a bad one say something to each other node that is right for where one of them is: as a rule all bad ones tell the even ones one story, and the odd ones another.
func (w *world) lie(t *testing.T) {
	t.Helper()
	c := w.cores[w.d.next(len(w.cores))]
	if c == nil || len(w.bad) == 0 {
		return
	}
	m := api.Msg{Kind: 3 + w.d.next(4), From: w.bad[w.d.next(len(w.bad))], Index: c.Index()}
	if m.Kind != api.KindDecided {
		m.View = max(0, c.View()+w.d.next(4)-2)
	}
	if m.Kind == api.KindPropose {
		m.Prepared = w.d.next(m.View+1) - 1
	}
	isAny := w.d.next(3) == 0
	for to, c := range w.cores {
		m.Value = names[(m.Index+to%2)%3]
		if isAny {
			m.Value = values[w.d.next(5)]
		}
		if m.Value == -1 && (m.Kind == api.KindPropose || m.Kind == api.KindDecided) {
			m.Value = 0
		}
		if c != nil && w.d.next(4) > 0 {
			w.emit(t, to, c.Handle(m, names))
		}
	}
}

// crash has a node find again what it said, and nothing else.
func (w *world) crash(node int) {
	if w.cores[node] != nil {
		w.cores[node] = New(node, w.stakes, 1, 3)
		w.cores[node].Restore(w.journal[node])
	}
}

// step has anything happen.
func (w *world) step(t *testing.T) {
	t.Helper()
	node := w.d.next(len(w.cores))
	switch x := w.d.next(200); {
	case x == 0:
		w.crash(node)
	case x < 40:
		w.lie(t)
	case x < 80:
		if c := w.cores[node]; c != nil {
			w.emit(t, node, c.Tick(names, names[node%3]))
		}
	default:
		w.deliver(t)
	}
	if len(w.way) > 300 {
		w.way = w.way[100:]
	}
}

// agree answers whether no two decided otherwise than one another, and in how many indices anybody decided.
func (w *world) agree() (bool, int) {
	var longest []int
	for _, c := range w.cores {
		if c != nil && len(c.Decisions()) > len(longest) {
			longest = c.Decisions()
		}
	}
	for _, c := range w.cores {
		if c != nil && !slices.Equal(c.Decisions(), longest[:len(c.Decisions())]) {
			return false, len(longest)
		}
	}
	return true, len(longest)
}

// some answers nodes of which that holds, if they are taken one by one as long as it does.
func (d *dice) some(stakes []int, holds func(stakes, who []int) bool) []int {
	var who []int
	for range 3 * len(stakes) {
		node := d.next(len(stakes))
		if !slices.Contains(who, node) && holds(stakes, append(slices.Clone(who), node)) {
			who = append(who, node)
		}
	}
	return who
}

// TestAgreement: with few bad ones no two that are as promised ever decide two values, whatever is lost, late, or comes twice, and whoever crashes.
func TestAgreement(t *testing.T) {
	decided, views, liars := 0, 0, 0
	for seed := range 240 {
		d := dice(seed)
		stakes := d.throw(1 + d.next(7))
		w := newWorld(&d, stakes, d.some(stakes, stake.Few))
		liars += len(w.bad)
		for range 1500 {
			w.step(t)
			if ok, _ := w.agree(); !ok {
				for node, c := range w.cores {
					if c != nil {
						t.Log(node, c.Decisions())
					}
				}
				t.Fatalf("%d: stakes %v, bad %v", seed, stakes, w.bad)
			}
		}
		_, many := w.agree()
		decided += many
		for _, l := range w.journal {
			for _, r := range l {
				views = max(views, r.View)
			}
		}
	}
	if decided < 1000 || views < 3 || liars < 100 {
		t.Error("too little happens: decided, views, bad ones:", decided, views, liars)
	}
	t.Log("decided, views, bad ones:", decided, views, liars)
}

// TestDisagreement: with more bad ones the same leads to two values sometimes; so the test above would see it.
func TestDisagreement(t *testing.T) {
	isTooMany := func(stakes, who []int) bool { return !stake.Most(stakes, who) }
	unlike := 0
	for seed := range 60 {
		d := dice(seed)
		stakes := alike(4 + d.next(4))
		w := newWorld(&d, stakes, d.some(stakes, isTooMany))
		for range 1500 {
			w.step(t)
		}
		if ok, _ := w.agree(); !ok {
			unlike++
		}
	}
	if unlike < 5 {
		t.Error("of 60 only this many see two values:", unlike)
	}
	t.Log("of 60 see two values:", unlike)
}
