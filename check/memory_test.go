package check

import (
	"slices"
	"testing"

	"neaptide/api"
)

// TestStakesAreNotKept: they may be written over behind the call, and are left as they were.
func TestStakesAreNotKept(t *testing.T) {
	room := []int{1, 1, 1, 1, 9, 9}
	c := New(1, room[:4], 1, 1)
	if !slices.Equal(room, []int{1, 1, 1, 1, 9, 9}) {
		t.Error("what was handed in is changed:", room)
	}
	for i := range room {
		room[i] = 1
	}
	room[0] = 1000000
	c.Tick(names, 0)
	hand(c, names, prepareOf(0, 0, 3, -1), decidedOf(0, 0, nameA))
	is(t, "one of four", c, free(0, 0, Propose))
	hand(c, names, prepareOf(4, 0, 3, -1), decidedOf(5, 0, nameA))
	is(t, "a node in the spare room", c, free(0, 0, Propose))
	hand(c, names, decidedOf(3, 0, nameA))
	is(t, "two of four", c, free(1, 0, Rest))
	sent(t, "two of four in the next index", hand(c, names, commitOf(0, 1, 0, nameA), commitOf(2, 1, 0, nameA)))
	sent(t, "three of four in the next index", hand(c, names, commitOf(3, 1, 0, nameA)), decidedOf(1, 1, nameA))
	if !slices.Equal(room, []int{1000000, 1, 1, 1, 1, 1}) {
		t.Error("what was handed in is changed:", room)
	}
}

// TestKnownIsNotKept: what is known is known in one call, and is left as it was.
func TestKnownIsNotKept(t *testing.T) {
	room := []int{nameC, nameA, nameB, 7, 7}
	c := New(1, alike(4), 100, 1000)
	c.Tick(room[:3], nameC)
	c.Handle(prepareOf(0, 0, 0, nameC), room[:2])
	if !slices.Equal(room, []int{nameC, nameA, nameB, 7, 7}) {
		t.Error("what was handed in is changed:", room)
	}
	sent(t, "unknown by now", c.Handle(proposeOf(0, 0, 0, nameC, -1), nil))
	is(t, "unknown by now", c, free(0, 0, Propose))
	room[0] = nameB
	sent(t, "unknown by now", c.Tick(room[:1], nameB))
	is(t, "unknown by now", c, free(0, 0, Propose))
	sent(t, "in the spare room", c.Handle(proposeOf(0, 0, 0, nameC, -1), []int{nameA, nameC}[:1]))
	is(t, "in the spare room", c, free(0, 0, Propose))
	sent(t, "known", c.Tick([]int{nameA, nameC}, nameB), prepareOf(1, 0, 0, nameC))
}

// TestRecordsAreNotKept: nor are the records.
func TestRecordsAreNotKept(t *testing.T) {
	l := []api.Rec{made(0, nameA), vote4(1, 2, nameB), vote5(1, 2, nameB), made(5, nameC)}
	want := slices.Clone(l)
	c := New(1, alike(4), 5, 9)
	c.Restore(l[:3])
	for i, r := range l {
		if r.Kind != want[i].Kind || r.Index != want[i].Index || r.View != want[i].View || r.Value != want[i].Value {
			t.Error("what was handed in is changed:", l)
		}
		l[i] = made(1, nameC)
	}
	is(t, "written over", c, state{1, 2, Commit, nameB, 2})
	sent(t, "written over", c.Tick(names, 0), prepareOf(1, 1, 2, nameB), commitOf(1, 1, 2, nameB))
	if got := c.Decisions(); !slices.Equal(got, []int{nameA}) {
		t.Error("decided is", got)
	}
}

// TestAnswersAreNew: no answer has memory in common with another one, or with what is kept.
func TestAnswersAreNew(t *testing.T) {
	c := New(0, alike(1), 1, 1)
	first := c.Tick(names, nameA)
	second := c.Tick(names, nameB)
	one, two := c.Decisions(), c.Decisions()
	for _, l := range [][]api.Act{first, second} {
		l = l[:cap(l)]
		for i := range l {
			l[i] = api.Act{To: 7, Msg: decidedOf(7, 7, 7)}
		}
	}
	one = one[:cap(one)]
	for i := range one {
		one[i] = 77
	}
	if !slices.Equal(two, []int{nameA, nameB}) || !slices.Equal(c.Decisions(), two) {
		t.Error(two, c.Decisions())
	}
	third := c.Tick(names, nameC)
	sent(t, "the third index", third, proposeOf(0, 2, 0, nameC, -1), prepareOf(0, 2, 0, nameC), commitOf(0, 2, 0, nameC), decidedOf(0, 2, nameC))
	if !slices.Equal(two, []int{nameA, nameB}) {
		t.Error("an answer hangs on what came later:", two)
	}
	told := c.Handle(prepareOf(0, 1, 0, -1), nil)
	c.Handle(prepareOf(0, 0, 0, -1), nil)
	if want := []api.Act{{To: 0, Msg: decidedOf(0, 1, nameB)}}; !sameActs(told, want) {
		t.Error("an answer hangs on what came later:", told)
	}
}

// TestAnswersOfOneTurn: what is said again is new memory, too.
func TestAnswersOfOneTurn(t *testing.T) {
	c := New(0, alike(4), 100, 1000)
	for range 4 {
		acts := c.Tick(names, nameA)
		sent(t, "again", acts, proposeOf(0, 0, 0, nameA, -1), prepareOf(0, 0, 0, nameA))
		acts = acts[:cap(acts)]
		for i := range acts {
			acts[i] = api.Act{To: 7, Msg: decidedOf(7, 7, 7)}
		}
	}
}
