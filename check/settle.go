package check

import (
	"maps"
	"slices"

	"neaptide/api"
	"neaptide/msg"
	"neaptide/stake"
)

// turn is what is done in one call: beside the core, what is known in it, and what is sent by it.
type turn struct {
	*Core
	known []int
	sent  []api.Act
}

// settle does whatever can be done, the first thing that can be each time.
func (t *turn) settle() {
again:
	if t.isOver() {
		return
	}
	if t.decide() || t.catchUp() || t.prepare() || t.commit() || t.revalue() {
		goto again
	}
}

// decide: is there a decision of this index?
func (t *turn) decide() bool {
	value, ok := t.votes.Committed()
	if !ok {
		value, ok = t.heard()
	}
	if !ok {
		return false
	}
	t.send(api.Msg{Kind: api.KindDecided, Value: value})
	t.decisions = append(t.decisions, value)
	t.round = newRound(t.stakes)
	return true
}

// catchUp: are enough others in a later view?
func (t *turn) catchUp() bool {
	ahead := t.votes.Ahead(t.view)
	if t.step == Rest || ahead <= t.view {
		return false
	}
	t.enter(ahead)
	return true
}

// prepare: can it vote on what is proposed?
func (t *turn) prepare() bool {
	p, ok := t.proposals[t.view]
	if t.step != Propose || !ok || !t.isKnown(p.value) || !t.isShown(p) {
		return false
	}
	if t.lockAllows(p) {
		t.cast(api.KindPrepare, p.value)
	} else {
		t.cast(api.KindPrepare, none)
	}
	t.goOn(Prepare)
	return true
}

// commit: is something prepared?
func (t *turn) commit() bool {
	value, ok := t.mostPrepared(t.view)
	if t.step != Prepare || !ok || value != none && !t.isKnown(value) {
		return false
	}
	if value != none {
		t.lock = prepared{value, t.view}
		t.valid = t.lock
	}
	t.cast(api.KindCommit, value)
	t.goOn(Commit)
	return true
}

// revalue: is something prepared too late to be committed, but not to be proposed?
func (t *turn) revalue() bool {
	value, ok := t.mostPrepared(t.view)
	if t.step != Commit || !ok || value == none || !t.isKnown(value) || t.valid.view >= t.view {
		return false
	}
	t.valid = prepared{value, t.view}
	return true
}

// giveUp ends a step in which nothing came in time.
func (t *turn) giveUp() {
	switch t.step {
	case Propose:
		t.cast(api.KindPrepare, none)
		t.step = Prepare
	case Prepare:
		t.cast(api.KindCommit, none)
		t.step = Commit
	case Commit:
		if t.view < api.MaxView {
			t.enter(t.view + 1)
		}
	}
	t.wait()
}

// repeat sends once more what it says in its view, as it may have been lost, but for what this turn sent already.
func (t *turn) repeat() {
	if t.step == Rest {
		return
	}
	if p, ok := t.proposals[t.view]; ok && t.leader(t.view) == t.me {
		t.sendOnce(proposal(p))
	}
	for _, kind := range [...]int{api.KindPrepare, api.KindCommit} {
		if value, ok := t.votes.Vote(kind, t.view, t.me); ok {
			t.sendOnce(api.Msg{Kind: kind, Value: value})
		}
	}
}

// enter begins a view, with a proposal, if it is its turn.
func (t *turn) enter(in int) {
	t.view = in
	t.goOn(Propose)
	if _, ok := t.proposals[in]; ok || t.leader(in) != t.me {
		return
	}
	p := t.valid
	if p.view == none {
		p.value = t.tip
	}
	t.proposals[in] = p
	t.send(proposal(p))
}

// goOn begins a step.
func (t *turn) goOn(step int) {
	t.step = step
	t.wait()
}

// cast votes, if it didn't vote so far.
func (t *turn) cast(kind, value int) {
	if t.votes.Add(kind, t.view, t.me, value) {
		t.send(api.Msg{Kind: kind, Value: value})
	}
}

// send sends a message to all; by whom, in which index and in which view it is said is filled in.
func (t *turn) send(m api.Msg) {
	t.sent = append(t.sent, api.Act{To: everybody, Msg: t.filled(m)})
}

// sendOnce sends a message to all, unless this turn sent it already.
func (t *turn) sendOnce(m api.Msg) {
	isIt := func(a api.Act) bool { return msg.Same(a.Msg, t.filled(m)) }
	if !slices.ContainsFunc(t.sent, isIt) {
		t.send(m)
	}
}

// filled answers a message of this node, in this index and view.
func (t *turn) filled(m api.Msg) api.Msg {
	m.From, m.Index = t.me, t.Index()
	if m.Kind != api.KindDecided {
		m.View = t.view
	}
	return m
}

// proposal answers the message that proposes a value.
func proposal(p prepared) api.Msg {
	return api.Msg{Kind: api.KindPropose, Value: p.value, Prepared: p.view}
}

// isKnown tells whether a value is one on which it may vote.
func (t *turn) isKnown(value int) bool { return value == 0 || slices.Contains(t.known, value) }

// mostPrepared answers what more than two thirds prepared in a view.
func (c *Core) mostPrepared(in int) (int, bool) { return c.votes.Most(api.KindPrepare, in) }

// isShown tells whether a proposal was prepared where it says so.
func (c *Core) isShown(p prepared) bool {
	if p.view == none {
		return true
	}
	value, ok := c.mostPrepared(p.view)
	return ok && value == p.value
}

// lockAllows tells whether it may vote for a proposal. No lock is a lock of no view: below each other one, and not above what wasn't prepared at all.
func (c *Core) lockAllows(p prepared) bool {
	return c.lock.view <= p.view || c.lock.value == p.value
}

// heard answers what enough others say was decided, of several the least.
func (c *Core) heard() (int, bool) {
	for _, value := range slices.Sorted(maps.Values(c.said)) {
		if stake.Some(c.stakes, c.whoSaid(value)) {
			return value, true
		}
	}
	return 0, false
}

// whoSaid answers the nodes that said a value was decided.
func (c *Core) whoSaid(value int) []int {
	var who []int
	for node := range c.stakes {
		if said, ok := c.said[node]; ok && said == value {
			who = append(who, node)
		}
	}
	return who
}
