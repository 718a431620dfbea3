package check

import (
	"math"
	"slices"
	"testing"

	"neaptide/api"
)

func vote4(index, view, value int) api.Rec {
	return api.Rec{Kind: 4, Index: index, View: view, Value: value}
}

func vote5(index, view, value int) api.Rec {
	return api.Rec{Kind: 5, Index: index, View: view, Value: value}
}

func made(index, value int) api.Rec { return api.Rec{Kind: 6, Index: index, Value: value} }

func TestRestore(t *testing.T) {
	for name, c := range map[string]struct {
		l         []api.Rec
		decisions []int
		want      state
	}{
		"nothing":                      {nil, nil, free(0, 0, Rest)},
		"others":                       {[]api.Rec{{Kind: 0}, {Kind: 1, Value: nameA}, {Kind: 2}, {Kind: 3, Value: nameA}, {Kind: 7}, {Kind: -1}, {Kind: math.MaxInt}, {Kind: math.MinInt}}, nil, free(0, 0, Rest)},
		"decisions":                    {[]api.Rec{made(0, nameA), made(1, 0), made(2, nameA)}, []int{nameA, 0, nameA}, free(3, 0, Rest)},
		"decisions, with a view":       {[]api.Rec{{Kind: 6, View: 7, Value: nameA}}, []int{nameA}, free(1, 0, Rest)},
		"decisions twice":              {[]api.Rec{made(0, nameA), made(0, nameB), made(1, nameC), made(0, nameB)}, []int{nameA, nameC}, free(2, 0, Rest)},
		"decisions that lack one":      {[]api.Rec{made(1, nameA), made(0, nameB), made(2, nameC)}, []int{nameB}, free(1, 0, Rest)},
		"decisions in another order":   {[]api.Rec{made(1, nameA), made(0, nameB), made(1, nameC)}, []int{nameB, nameC}, free(2, 0, Rest)},
		"prepared":                     {[]api.Rec{vote4(0, 0, nameA)}, nil, free(0, 0, Prepare)},
		"prepared nothing":             {[]api.Rec{vote4(0, 0, -1)}, nil, free(0, 0, Prepare)},
		"prepared in view 3":           {[]api.Rec{vote4(0, 3, nameA), vote4(0, 1, nameB)}, nil, free(0, 3, Prepare)},
		"prepared in the last view":    {[]api.Rec{vote4(0, 1000, 0)}, nil, free(0, 1000, Prepare)},
		"committed":                    {[]api.Rec{vote4(0, 0, nameA), vote5(0, 0, nameA)}, nil, state{0, 0, Commit, nameA, 0}},
		"committed 0":                  {[]api.Rec{vote5(0, 2, 0)}, nil, state{0, 2, Commit, 0, 2}},
		"committed alone":              {[]api.Rec{vote5(0, 1000, nameA)}, nil, state{0, 1000, Commit, nameA, 1000}},
		"committed nothing":            {[]api.Rec{vote4(0, 0, nameA), vote5(0, 0, -1)}, nil, free(0, 0, Commit)},
		"committed, and on":            {[]api.Rec{vote4(0, 0, nameA), vote5(0, 0, nameA), vote4(0, 2, -1)}, nil, state{0, 2, Prepare, nameA, 0}},
		"committed, then nothing":      {[]api.Rec{vote5(0, 1, nameA), vote5(0, 2, -1)}, nil, state{0, 2, Commit, nameA, 1}},
		"committed twice":              {[]api.Rec{vote5(0, 1, nameA), vote5(0, 4, nameB), vote4(0, 5, nameB)}, nil, state{0, 5, Prepare, nameB, 4}},
		"committed twice, from behind": {[]api.Rec{vote4(0, 5, nameB), vote5(0, 4, nameB), vote5(0, 1, nameA)}, nil, state{0, 5, Prepare, nameB, 4}},
		"the commit behind":            {[]api.Rec{vote5(0, 2, nameA), vote4(0, 2, nameA)}, nil, state{0, 2, Commit, nameA, 2}},
		"prepared behind a commit":     {[]api.Rec{vote5(0, 1, nameA), vote4(0, 0, nameA)}, nil, state{0, 1, Commit, nameA, 1}},
		"an earlier index":             {[]api.Rec{vote4(0, 3, nameA), vote5(0, 3, nameA), made(0, nameA)}, []int{nameA}, free(1, 0, Rest)},
		"an earlier index, behind":     {[]api.Rec{made(0, nameA), vote5(0, 3, nameA)}, []int{nameA}, free(1, 0, Rest)},
		"a later index":                {[]api.Rec{vote4(1, 3, nameA), vote5(2, 3, nameA)}, nil, free(0, 0, Rest)},
		"this index, ahead":            {[]api.Rec{vote4(1, 3, nameB), made(0, nameA)}, []int{nameA}, free(1, 3, Prepare)},
		"some of all": {
			[]api.Rec{vote4(0, 0, nameA), made(0, nameA), vote4(1, 0, nameB), vote5(1, 0, nameB), {Kind: 1, Value: nameC}, vote4(1, 1, -1), vote5(1, 1, -1), vote5(2, 9, nameC), made(3, nameC)},
			[]int{nameA}, state{1, 1, Commit, nameB, 0},
		},
		"views that can't be":  {[]api.Rec{vote4(0, -1, nameA), vote5(0, 1001, nameA), vote5(0, math.MaxInt, nameA), vote5(0, math.MinInt, nameA)}, nil, free(0, 0, Rest)},
		"values that can't be": {[]api.Rec{vote4(0, 3, -2), vote5(0, 4, -2), vote5(0, 5, math.MinInt)}, nil, free(0, 0, Rest)},
	} {
		x := New(1, alike(4), 1, 8)
		x.Restore(c.l)
		is(t, name, x, c.want)
		if got := x.Decisions(); !slices.Equal(got, c.decisions) {
			t.Errorf("%s: decided is %v, not %v", name, got, c.decisions)
		}
	}
}

// TestRestoreDoesNotVoteAgain: behind it no vote is cast that was.
func TestRestoreDoesNotVoteAgain(t *testing.T) {
	c := New(1, alike(4), 5, 9)
	c.Restore([]api.Rec{vote4(0, 0, nameA)})
	sent(t, "another proposal", c.Handle(proposeOf(0, 0, 0, nameB, -1), names))
	sent(t, "what it said", c.Tick(names, nameC), prepareOf(1, 0, 0, nameA))
	sent(t, "prepared", hand(c, names, prepareOf(0, 0, 0, nameA), prepareOf(2, 0, 0, nameA)), commitOf(1, 0, 0, nameA))

	c = New(1, alike(4), 5, 9)
	c.Restore([]api.Rec{vote4(0, 0, nameA), vote5(0, 0, -1)})
	sent(t, "what it said", c.Tick(names, nameC), prepareOf(1, 0, 0, nameA), commitOf(1, 0, 0, -1))
	sent(t, "prepared too late", hand(c, names, prepareOf(0, 0, 0, nameA), prepareOf(2, 0, 0, nameA)))
	is(t, "prepared too late", c, free(0, 0, Commit))
}

// TestRestoreVotesCount: they count beside the others' votes.
func TestRestoreVotesCount(t *testing.T) {
	c := New(1, alike(4), 5, 9)
	c.Restore([]api.Rec{vote5(0, 0, nameB), vote4(0, 3, -1)})
	sent(t, "one more", hand(c, nil, commitOf(0, 0, 0, nameB)))
	sent(t, "two more", hand(c, nil, commitOf(2, 0, 0, nameB)), decidedOf(1, 0, nameB))
	is(t, "two more", c, free(1, 0, Rest))
}

// TestRestoreFirstHolds: of two unlike votes of one kind in one view the first one is its own.
func TestRestoreFirstHolds(t *testing.T) {
	c := New(1, alike(4), 5, 9)
	c.Restore([]api.Rec{vote4(0, 2, nameB), vote4(0, 2, nameA), vote5(0, 2, nameB), vote5(0, 2, nameC)})
	is(t, "two unlike ones", c, state{0, 2, Commit, nameB, 2})
	sent(t, "two unlike ones", c.Tick(names, 0), prepareOf(1, 0, 2, nameB), commitOf(1, 0, 2, nameB))
}

// TestRestoreTimer: the patience of its view begins.
func TestRestoreTimer(t *testing.T) {
	for view, patience := range []int{3, 6, 12, 20, 20} {
		c := New(1, alike(7), 3, 20)
		c.Restore([]api.Rec{vote4(0, view, -1), vote4(0, 0, -1)})
		for range patience - 1 {
			sent(t, "waits", c.Tick(nil, 0), prepareOf(1, 0, view, -1))
			is(t, "waits", c, free(0, view, Prepare))
		}
		sent(t, "over", c.Tick(nil, 0), commitOf(1, 0, view, -1), prepareOf(1, 0, view, -1))
		is(t, "over", c, free(0, view, Commit))
	}
}

// TestRestoreValid: what it is bound to is what it proposes.
func TestRestoreValid(t *testing.T) {
	c := New(3, alike(4), 1, 1)
	c.Restore([]api.Rec{vote5(0, 1, nameA), vote5(0, 2, -1)})
	hand(c, names, prepareOf(0, 0, 1, nameA), prepareOf(1, 0, 1, nameA), prepareOf(2, 0, 1, nameA))
	sent(t, "its turn", c.Tick(names, nameC), proposeOf(3, 0, 3, nameA, 1), prepareOf(3, 0, 3, nameA))
	is(t, "its turn", c, state{0, 3, Prepare, nameA, 1})
}

// TestRestoreLeader: the proposal of its view isn't in a journal: whose turn it is has none to say again.
func TestRestoreLeader(t *testing.T) {
	c := New(1, alike(4), 5, 9)
	c.Restore([]api.Rec{vote4(0, 1, nameA)})
	sent(t, "its turn", c.Tick(names, nameC), prepareOf(1, 0, 1, nameA))
}

// TestRestoreRests: without votes of its index it begins with view 0.
func TestRestoreRests(t *testing.T) {
	c := New(1, alike(4), 5, 9)
	c.Restore([]api.Rec{vote5(0, 7, nameA), made(0, nameB)})
	sent(t, "its turn", c.Tick(names, nameC), proposeOf(1, 1, 0, nameC, -1), prepareOf(1, 1, 0, nameC))
	is(t, "its turn", c, free(1, 0, Prepare))
}

// TestRestoreMany: a journal may have more decisions than one makes.
func TestRestoreMany(t *testing.T) {
	var l []api.Rec
	for i := range 1200 {
		l = append(l, made(i, i<<16))
	}
	c := New(0, alike(1), 1, 1)
	c.Restore(append(l, vote4(1200, 3, nameA)))
	if got := c.Decisions(); len(got) != 1200 || got[1199] != 1199<<16 || c.Index() != 1200 {
		t.Error(len(got), c.Index())
	}
	sent(t, "no more", c.Tick(names, nameA))
	sent(t, "no more", c.Handle(decidedOf(0, 7, nameB), names))
	if got, want := c.Handle(prepareOf(0, 1000, 0, -1), names), decidedOf(0, 1000, 1000<<16); len(got) != 1 || got[0].To != 0 || got[0].Msg.Value != want.Value {
		t.Error(got)
	}
}

// TestRestoreAny: of what can't be only that the call ends is promised.
func TestRestoreAny(t *testing.T) {
	var l []api.Rec
	numbers := append([]int{0, 1, 4, 5, 6, 1000}, far...)
	for _, kind := range []int{4, 5, 6, math.MinInt, 0} {
		for _, n := range numbers {
			for _, x := range numbers {
				l = append(l, api.Rec{Kind: kind, Index: n, View: x, Value: x}, api.Rec{Kind: kind, Index: 0, View: n, Value: x}, api.Rec{Kind: kind, Index: x, View: n, Value: n, Text: []byte{1}})
			}
		}
	}
	for _, me := range append([]int{0, 3}, far...) {
		for _, stakes := range [][]int{nil, {0}, alike(1), alike(4), alike(9)} {
			c := New(me, stakes, 1, 1)
			for range 3 {
				c.Restore(l)
				slices.Reverse(l)
				c.Tick(far, 0)
				c.Handle(decidedOf(0, c.Index(), 0), far)
				c.Handle(commitOf(0, c.Index(), 0, 0), far)
			}
		}
	}
}
