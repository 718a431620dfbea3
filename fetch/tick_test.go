package fetch

import (
	"testing"

	"neaptide/api"
)

// asksOf are what me asks one node for, one after another.
func asksOf(me, to int, names []int) []api.Act {
	var l []api.Act
	for _, name := range names {
		l = append(l, ask(me, to, name))
	}
	return l
}

// TestRound: whoever one is, of however many, each other one is asked in its turn, and again the first.
func TestRound(t *testing.T) {
	for nodes := 2; nodes <= 7; nodes++ {
		for me := range nodes {
			f := wanting(t, me, nodes, nameOf(4), nameOf(2))
			to := me
			for range 40 {
				if to++; to == nodes {
					to = 0
				}
				if to == me {
					if to++; to == nodes {
						to = 0
					}
				}
				asks(t, f, ask(me, to, nameOf(4)), ask(me, to, nameOf(2)))
			}
		}
	}
}

// TestRoundOfSeven: the turns of one in the midst, by hand.
func TestRoundOfSeven(t *testing.T) {
	f := wanting(t, 4, 7, nameOf(1))
	for _, to := range []int{5, 6, 0, 1, 2, 3, 5, 6, 0, 1, 2, 3, 5} {
		asks(t, f, ask(4, to, nameOf(1)))
	}
}

// TestAlone: one that is alone asks nobody, but it wants what it wants.
func TestAlone(t *testing.T) {
	f := wanting(t, 0, 1, run(1, 32)...)
	for range 20 {
		asks(t, f)
	}
	refuses(t, f, run(1, 33)...)
	f.Got(nameOf(7))
	is(t, f, append(run(1, 6), run(8, 32)...)...)
	asks(t, f)
	wants(t, f, nameOf(7))
	asks(t, f)
}

// TestOfTwo: there is one other alone, and it is asked each time.
func TestOfTwo(t *testing.T) {
	for me, other := range []int{1, 0} {
		f := wanting(t, me, 2, run(1, 3)...)
		for range 9 {
			asks(t, f, asksOf(me, other, run(1, 3))...)
		}
	}
}

// TestSoMany: up to 8 are asked for at once, each one that is wanted so far.
func TestSoMany(t *testing.T) {
	for many := range 33 {
		f := wanting(t, 1, 3, run(1, many)...)
		for _, to := range []int{2, 0, 2} {
			asks(t, f, asksOf(1, to, run(1, min(many, 8)))...)
		}
	}
}

// TestBehindTheFirst: those behind the first 8 weren't asked for yet when they come to be among these.
func TestBehindTheFirst(t *testing.T) {
	f := wanting(t, 0, 5, run(1, 11)...)
	asks(t, f, asksOf(0, 1, run(1, 8))...)
	asks(t, f, asksOf(0, 2, run(1, 8))...)
	f.Got(nameOf(11))
	f.Got(nameOf(3))
	asks(t, f, append(asksOf(0, 3, append(run(1, 2), run(4, 8)...)), ask(0, 1, nameOf(9)))...)
	f.Got(nameOf(1))
	wants(t, f, nameOf(1))
	want := append(asksOf(0, 4, append(run(2, 2), run(4, 8)...)), ask(0, 2, nameOf(9)), ask(0, 1, nameOf(10)))
	asks(t, f, want...)
	f.Got(nameOf(9))
	want = append(asksOf(0, 1, append(run(2, 2), run(4, 8)...)), ask(0, 2, nameOf(10)), ask(0, 1, nameOf(1)))
	asks(t, f, want...)
}

// TestEachOnItsOwn: whom one asks for a block hangs on that block alone.
func TestEachOnItsOwn(t *testing.T) {
	f := New(2, 4)
	turns := []int{3, 0, 1}
	for i := range 8 {
		wants(t, f, nameOf(20-i))
		var want []api.Act
		for j := range i + 1 {
			want = append(want, ask(2, turns[(i-j)%3], nameOf(20-j)))
		}
		asks(t, f, want...)
	}
}

// TestLong: it goes on so, as long as it doesn't come.
func TestLong(t *testing.T) {
	f := wanting(t, 6, 7, nameOf(4095)+6*256+255)
	for i := range 100000 {
		got, to := f.Tick(), i%6
		if len(got) != 1 || got[0].To != to {
			t.Fatalf("time %d: asked is %v, not node %d", i, got, to)
		}
	}
}
