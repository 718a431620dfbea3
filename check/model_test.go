package check

import (
	"slices"
	"testing"

	"neaptide/api"
)

// dice answers numbers that a seed leads to.
type dice uint64

func (d *dice) next(n int) int {
	*d = *d*6364136223846793005 + 1442695040888963407
	return int(*d>>33) % n
}

// throw answers stakes: often such of which a third can be had.
func (d *dice) throw(nodes int) []int {
	l := make([]int, nodes)
	for i := range l {
		l[i] = []int{1, 1, 1, 1, 2, 3, 1000000}[d.next(6+d.next(2)*d.next(2))]
	}
	return l
}

// seen is how often the less ordinary things were done.
type seen struct{ jumps, late, unbound, refused, again int }

// model does what a core does by keeping all that was said in the index, and going through it for each question.
type model struct {
	me, base, most   int
	stakes           []int
	decided          []int
	view, step, left int
	tip              int
	votes            [][4]int // kind, view, node, value
	proposed         [][3]int // view, value, prepared
	said             [][2]int // node, value
	lock, lockIn     int
	valid, validIn   int
	known            []int
	out              []api.Act
	seen
}

func newModel(me int, stakes []int, base, most int) *model {
	return &model{me: me, stakes: stakes, base: base, most: most, lockIn: -1, validIn: -1}
}

// weight answers what those nodes have for which that holds, and what all have.
func (m *model) weight(does func(node int) bool) (sum, total int) {
	for node, weight := range m.stakes {
		total += weight
		if does(node) {
			sum += weight
		}
	}
	return sum, total
}

const (
	// lastView is the greatest view of which anything is said.
	lastView = 12
	// anyValue stands for whatever one voted for, and for nothing where one value is asked for.
	anyValue = -9
)

// voted answers whether a node voted so.
func (m *model) voted(kind, view, node, value int) bool {
	for _, v := range m.votes {
		if v[0] == kind && v[1] == view && v[2] == node && (v[3] == value || value == anyValue) {
			return true
		}
	}
	return false
}

func (m *model) add(kind, view, node, value int) bool {
	if m.voted(kind, view, node, anyValue) {
		return false
	}
	m.votes = append(m.votes, [4]int{kind, view, node, value})
	return true
}

// values are all for which anybody can have voted.
var values = []int{-1, 0, nameA, nameB, nameC}

// mostOf answers for which of the values most voted; anyValue, if for none.
func (m *model) mostOf(kind, view int) int {
	for _, value := range values {
		if sum, total := m.weight(func(node int) bool { return m.voted(kind, view, node, value) }); sum*3 > total*2 {
			return value
		}
	}
	return anyValue
}

func (m *model) isKnown(value int) bool { return value == 0 || slices.Contains(m.known, value) }

func (m *model) say(kind, value, prepared int) {
	x := api.Msg{Kind: kind, From: m.me, Index: len(m.decided), View: m.view, Value: value}
	switch kind {
	case 3:
		x.Prepared = prepared
	case 6:
		x.View = 0
	}
	m.out = append(m.out, api.Act{To: -1, Msg: x})
}

func (m *model) wait() {
	m.left = m.base
	for range m.view {
		m.left = min(m.left*2, m.most)
	}
	m.left = min(m.left, m.most)
}

func (m *model) myTurn() bool { return (len(m.decided)+m.view)%len(m.stakes) == m.me }

func (m *model) proposal() ([3]int, bool) {
	for _, p := range m.proposed {
		if p[0] == m.view {
			return p, true
		}
	}
	return [3]int{}, false
}

func (m *model) cast(kind, value int) {
	if m.add(kind, m.view, m.me, value) {
		m.say(kind, value, 0)
	}
}

func (m *model) enter(view int) {
	m.view, m.step = view, 1
	m.wait()
	if _, ok := m.proposal(); ok || !m.myTurn() {
		return
	}
	value, in := m.tip, -1
	if m.validIn != -1 {
		value, in = m.valid, m.validIn
		m.again++
	}
	m.proposed = append(m.proposed, [3]int{view, value, in})
	m.say(3, value, in)
}

// toDecide answers what is decided now; anyValue, if nothing is.
func (m *model) toDecide() int {
	for view := range lastView + 1 {
		if value := m.mostOf(5, view); value > -1 {
			return value
		}
	}
	for _, value := range values {
		if sum, total := m.weight(func(node int) bool { return slices.Contains(m.said, [2]int{node, value}) }); sum*3 > total {
			return value
		}
	}
	return anyValue
}

// ahead answers the view in which more than a third are, or beyond which they are.
func (m *model) ahead() int {
	for view := lastView; view > m.view; view-- {
		sum, total := m.weight(func(node int) bool {
			for later := view; later <= lastView; later++ {
				if m.voted(4, later, node, anyValue) || m.voted(5, later, node, anyValue) {
					return true
				}
			}
			return false
		})
		if sum*3 > total {
			return view
		}
	}
	return m.view
}

// settle does one thing after another, as long as there is one.
func (m *model) settle() {
	for m.settleOne() {
	}
}

func (m *model) settleOne() bool {
	if value := m.toDecide(); value != anyValue {
		m.say(6, value, 0)
		*m = model{me: m.me, base: m.base, most: m.most, stakes: m.stakes, decided: append(m.decided, value), tip: m.tip,
			lockIn: -1, validIn: -1, known: m.known, out: m.out, seen: m.seen}
		return true
	}
	if view := m.ahead(); m.step != 0 && view > m.view {
		m.jumps++
		m.enter(view)
		return true
	}
	prepared := m.mostOf(4, m.view)
	if p, ok := m.proposal(); m.step == 1 && ok && m.isKnown(p[1]) {
		value, in := p[1], p[2]
		may := m.lockIn == -1 || m.lock == value
		if in != -1 {
			may = may || m.lockIn <= in
		}
		if in == -1 || m.mostOf(4, in) == value {
			if may {
				if m.lockIn != -1 && m.lock != value {
					m.unbound++
				}
				m.cast(4, value)
			} else {
				m.refused++
				m.cast(4, -1)
			}
			m.step = 2
			m.wait()
			return true
		}
	}
	if m.step == 2 && (prepared == -1 || prepared != anyValue && m.isKnown(prepared)) {
		if prepared != -1 {
			m.lock, m.lockIn, m.valid, m.validIn = prepared, m.view, prepared, m.view
		}
		m.cast(5, prepared)
		m.step = 3
		m.wait()
		return true
	}
	if m.step == 3 && prepared > -1 && m.isKnown(prepared) && m.validIn < m.view {
		m.valid, m.validIn = prepared, m.view
		m.late++
		return true
	}
	return false
}

func (m *model) handle(x api.Msg, known []int) []api.Act {
	m.known, m.out = known, nil
	if x.Kind < 3 || x.From >= len(m.stakes) || x.Index > len(m.decided) {
		return nil
	}
	if x.Index < len(m.decided) {
		if x.Kind == 6 {
			return nil
		}
		return []api.Act{{To: x.From, Msg: api.Msg{Kind: 6, From: m.me, Index: x.Index, Value: m.decided[x.Index]}}}
	}
	switch x.Kind {
	case 3:
		isTurn := (x.Index+x.View)%len(m.stakes) == x.From
		if isTurn && !slices.ContainsFunc(m.proposed, func(p [3]int) bool { return p[0] == x.View }) {
			m.proposed = append(m.proposed, [3]int{x.View, x.Value, x.Prepared})
		}
	case 6:
		if !slices.ContainsFunc(m.said, func(s [2]int) bool { return s[0] == x.From }) {
			m.said = append(m.said, [2]int{x.From, x.Value})
		}
	default:
		m.add(x.Kind, x.View, x.From, x.Value)
	}
	m.settle()
	return m.out
}

func (m *model) tick(known []int, tip int) []api.Act {
	m.known, m.out, m.tip = known, nil, tip
	if m.step == 0 {
		m.enter(0)
	} else if m.left--; m.left == 0 {
		switch m.step {
		case 1, 2:
			m.cast(m.step+3, -1)
			m.step++
		default:
			m.enter(m.view + 1)
		}
		m.wait()
	}
	m.settle()
	first := slices.Clone(m.out)
	if p, ok := m.proposal(); m.step > 0 && ok && m.myTurn() {
		m.say(3, p[1], p[2])
	}
	for kind := 4; kind <= 5; kind++ {
		for _, v := range m.votes {
			if m.step > 0 && v[0] == kind && v[1] == m.view && v[2] == m.me {
				m.say(kind, v[3], 0)
			}
		}
	}
	for _, a := range m.out[len(first):] {
		if !slices.ContainsFunc(first, func(f api.Act) bool { return sameActs([]api.Act{f}, []api.Act{a}) }) {
			first = append(first, a)
		}
	}
	return first
}

func (m *model) restore(l []api.Rec) {
	for _, r := range l {
		if r.Kind == 6 && r.Index == len(m.decided) {
			m.decided = append(m.decided, r.Value)
		}
	}
	for _, r := range l {
		if r.Kind != 4 && r.Kind != 5 || r.Index != len(m.decided) {
			continue
		}
		m.add(r.Kind, r.View, m.me, r.Value)
		m.view, m.step = max(m.view, r.View), 2
		if r.Kind == 5 && r.Value != -1 && r.View > m.lockIn {
			m.lock, m.lockIn, m.valid, m.validIn = r.Value, r.View, r.Value, r.View
		}
	}
	if m.step == 2 && m.voted(5, m.view, m.me, anyValue) {
		m.step = 3
	}
	m.wait()
}

// like tells it, if a core isn't as its model.
func (m *model) like(t *testing.T, seed int, c *Core) {
	t.Helper()
	want := state{len(m.decided), m.view, m.step, m.lock, m.lockIn}
	if got := stateOf(c); got != want {
		t.Fatalf("%d: the core is in %+v, not in %+v", seed, got, want)
	}
	if got := c.Decisions(); !slices.Equal(got, m.decided) {
		t.Fatalf("%d: decided is %v, not %v", seed, got, m.decided)
	}
}

// record answers a record that may be of any index near.
func (d *dice) record() api.Rec {
	r := api.Rec{Kind: 4 + d.next(3), Index: d.next(3), View: d.next(5), Value: values[d.next(5)]}
	switch {
	case d.next(8) == 0:
		r.Kind = d.next(9) - 1
	case r.Kind == 6:
		r.Value = values[1+d.next(4)]
	}
	return r
}

// favourite answers the value that most are for in a view of a model's index.
func favourite(m *model, seed, view int) int {
	return values[1+(seed+len(m.decided)+view*(1+seed%3))%4]
}

// message answers one that may be said around a model's index and view; where commits are rare, views follow one another before there is a decision.
func (d *dice) message(m *model, seed int) api.Msg {
	x := api.Msg{Kind: 3 + d.next(3), From: d.next(len(m.stakes)), Index: len(m.decided), View: m.view}
	if d.next(3) == 0 {
		x.View = max(0, min(lastView, m.view+d.next(5)-3))
	}
	if seed%2 == 0 && x.Kind == 5 {
		x.Kind = 4
	}
	x.Value = favourite(m, seed, x.View)
	if d.next(6) == 0 {
		x.Value = values[1+d.next(4)]
	}
	switch d.next(24) {
	case 0:
		x.Kind = 6
	case 1:
		return api.Msg{Kind: d.next(3), From: x.From}
	case 2:
		x.Index = max(0, x.Index+d.next(3)-1)
	case 3:
		x.From = d.next(7)
	}
	switch x.Kind {
	case 3:
		if d.next(5) > 0 {
			x.From = (x.Index + x.View) % len(m.stakes)
		}
		x.Prepared = d.next(x.View+1) - 1
		if x.Prepared >= 0 && d.next(4) > 0 {
			x.Value = favourite(m, seed, x.Prepared)
		}
	case 4, 5:
		if d.next(6) == 0 {
			x.Value = -1
		}
	case 6:
		x.View = 0
	}
	return x
}

// knows answers which blocks are known: most of the time all.
func (d *dice) knows() []int {
	l := slices.Clone(names)
	for d.next(3) == 0 && len(l) > 0 {
		i := d.next(len(l))
		l = slices.Delete(l, i, i+1)
	}
	return l
}

func TestModel(t *testing.T) {
	var all seen
	decided := 0
	for seed := range 900 {
		d := dice(seed)
		stakes := d.throw(1 + max(d.next(7), d.next(4)))
		me, base, most := d.next(len(stakes)), 1+d.next(3), 1+d.next(6)
		c, m := New(me, stakes, base, most), newModel(me, stakes, base, most)
		if d.next(2) == 0 {
			var l []api.Rec
			for range d.next(12) {
				l = append(l, d.record())
			}
			c.Restore(l)
			m.restore(l)
			m.like(t, seed, c)
		}
		for range 120 {
			var got, want []api.Act
			if known := d.knows(); d.next(4) == 0 && m.view < lastView {
				tip := names[d.next(len(names))]
				if !slices.Contains(known, tip) {
					tip = 0
				}
				got, want = c.Tick(known, tip), m.tick(known, tip)
			} else {
				x := d.message(m, seed)
				got, want = c.Handle(x, known), m.handle(x, known)
			}
			if !sameActs(got, want) {
				t.Fatalf("%d: sent is\n%v, not\n%v", seed, got, want)
			}
			m.like(t, seed, c)
		}
		decided += len(m.decided)
		all.jumps += m.jumps
		all.late += m.late
		all.unbound += m.unbound
		all.refused += m.refused
		all.again += m.again
	}
	if min(decided, all.jumps, all.late, all.unbound, all.refused, all.again) < 20 {
		t.Errorf("decided %d, and too little of some of these: %+v", decided, all)
	}
	t.Logf("decided %d, and %+v", decided, all)
}
