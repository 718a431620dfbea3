package fetch

import (
	"math"
	"slices"
	"testing"

	"neaptide/api"
	"neaptide/msg"
)

// nameOf answers the name of a block of a slot.
func nameOf(slot int) int { return slot << 16 }

// run answers the names of blocks of the slots from one on to another.
func run(from, to int) []int {
	var l []int
	for slot := from; slot <= to; slot++ {
		l = append(l, nameOf(slot))
	}
	return l
}

// far are numbers that are no name, and no number of a node, and look like some.
var far = []int{
	math.MinInt, math.MinInt + 1, math.MinInt + nameOf(1), -1 << 62, -1 << 32, -1<<32 + nameOf(1), -nameOf(1), -1 << 31, -1,
	1 << 31, 1 << 32, 1<<32 + 1, 1<<32 + nameOf(1), 1 << 62, 1<<62 + nameOf(1), math.MaxInt - 1, math.MaxInt,
}

// wrongNames are numbers that no block has for its name, beside those that are far.
var wrongNames = []int{
	0, 1, 2, 255, 256, 6*256 + 255, 65535, nameOf(4096), nameOf(4096) + 1, nameOf(8191),
	nameOf(1) + 7*256, nameOf(1) + 7*256 + 255, nameOf(1) + 255*256, nameOf(2) - 1, nameOf(4095) + 7*256, nameOf(4096) - 1,
}

// wanting answers one that wants these, which all are taken.
func wanting(t *testing.T, me, nodes int, names ...int) *Fetch {
	t.Helper()
	f := New(me, nodes)
	wants(t, f, names...)
	return f
}

// wants wants what is to be taken.
func wants(t *testing.T, f *Fetch, names ...int) {
	t.Helper()
	for _, name := range names {
		if !f.Want(name) {
			t.Errorf("Want(%d): false", name)
		}
	}
}

// refuses wants what is to be refused, with nothing changed by that.
func refuses(t *testing.T, f *Fetch, names ...int) {
	t.Helper()
	before := f.Wanted()
	for _, name := range names {
		if f.Want(name) {
			t.Errorf("Want(%d): true", name)
		}
	}
	is(t, f, before...)
}

// is tells it, if others are wanted than these, or in another order.
func is(t *testing.T, f *Fetch, want ...int) {
	t.Helper()
	if got := f.Wanted(); !slices.Equal(got, want) {
		t.Errorf("wanted is %v, not %v", got, want)
	}
}

// ask is what node me says to another one when it asks for a block.
func ask(me, to, name int) api.Act {
	return api.Act{To: to, Msg: api.Msg{Kind: api.KindAsk, From: me, Value: name}}
}

func sameActs(a, b []api.Act) bool {
	return slices.EqualFunc(a, b, func(x, y api.Act) bool { return x.To == y.To && msg.Same(x.Msg, y.Msg) })
}

// asks ticks, and tells it, if something else is asked than this, or if one wants something else then.
func asks(t *testing.T, f *Fetch, want ...api.Act) {
	t.Helper()
	before := f.Wanted()
	got := f.Tick()
	if !sameActs(got, want) {
		t.Errorf("asked is\n%v, not\n%v", got, want)
	}
	for _, a := range got {
		if !msg.Right(a.Msg) {
			t.Error("it can't be said:", a.Msg)
		}
	}
	is(t, f, before...)
}

func TestExample(t *testing.T) {
	f := wanting(t, 0, 3, 66051)
	for _, to := range []int{1, 2, 1, 2, 1} {
		asks(t, f, ask(0, to, 66051))
	}
}

func TestNew(t *testing.T) {
	for nodes := 1; nodes <= 7; nodes++ {
		for me := range nodes {
			f := New(me, nodes)
			is(t, f)
			asks(t, f)
			f.Got(nameOf(1))
			is(t, f)
			wants(t, f, nameOf(1))
			is(t, New(me, nodes))
		}
	}
}

// TestTwo: what one wants, gets and asks for is nothing to another one.
func TestTwo(t *testing.T) {
	a, b := wanting(t, 0, 3, run(1, 2)...), wanting(t, 0, 3, run(2, 3)...)
	asks(t, a, ask(0, 1, nameOf(1)), ask(0, 1, nameOf(2)))
	a.Got(nameOf(2))
	is(t, a, nameOf(1))
	asks(t, b, ask(0, 1, nameOf(2)), ask(0, 1, nameOf(3)))
	asks(t, a, ask(0, 2, nameOf(1)))
}

// TestWhoCantBe: whoever one is, of however many, each call ends, and none panics.
func TestWhoCantBe(t *testing.T) {
	numbers := append([]int{-8, -7, -2, 0, 1, 2, 3, 6, 7, 8, 9, 1000}, far...)
	for _, nodes := range numbers {
		for _, me := range numbers {
			f := New(me, nodes)
			for _, name := range slices.Concat(run(1, 40), far, wrongNames) {
				f.Want(name)
			}
			for range 9 {
				f.Tick()
			}
			f.Got(nameOf(3))
			f.Tick()
			f.Wanted()
		}
	}
}
