package fetch

import (
	"math"
	"slices"
	"testing"
)

// TestWantOfNames: what can be the name of a block can be wanted, whether there is one or not.
func TestWantOfNames(t *testing.T) {
	for _, slot := range []int{1, 2, 127, 128, 255, 256, 4094, 4095} {
		for miner := range 7 {
			for _, variant := range []int{0, 1, 127, 128, 254, 255} {
				name := slot<<16 + miner<<8 + variant
				is(t, wanting(t, 1, 2, name), name)
			}
		}
	}
}

func TestWantOfOtherNumbers(t *testing.T) {
	full := wanting(t, 0, 4, run(1, 32)...)
	for _, f := range []*Fetch{New(0, 4), New(0, 1), wanting(t, 0, 4, run(1, 2)...), full} {
		refuses(t, f, slices.Concat(far, wrongNames)...)
	}
}

// TestWantOfMiners: of all numbers between two slots just those of the seven miners are names.
func TestWantOfMiners(t *testing.T) {
	f := New(0, 7)
	for low := range 65536 {
		name := nameOf(9) + low
		if f.Want(name) != (low < 7*256) {
			t.Fatalf("Want(%d): %t", name, low >= 7*256)
		}
		f.Got(name)
	}
	is(t, f)
}

// TestWantTwice: what is wanted stays where it is, and is asked for as often as it was.
func TestWantTwice(t *testing.T) {
	f := wanting(t, 3, 4, run(1, 3)...)
	for _, to := range []int{0, 1, 2, 0} {
		refuses(t, f, nameOf(1), nameOf(3), nameOf(2), nameOf(2))
		asks(t, f, ask(3, to, nameOf(1)), ask(3, to, nameOf(2)), ask(3, to, nameOf(3)))
	}
}

// TestRoom: 32 are wanted, and not one more, till one came.
func TestRoom(t *testing.T) {
	f := New(0, 4)
	for slot := 1; slot <= 32; slot++ {
		wants(t, f, nameOf(slot))
		is(t, f, run(1, slot)...)
	}
	refuses(t, f, run(1, 60)...)
	f.Got(nameOf(60))
	refuses(t, f, run(1, 60)...)
	f.Got(nameOf(1))
	is(t, f, run(2, 32)...)
	refuses(t, f, run(2, 32)...)
	wants(t, f, nameOf(50))
	is(t, f, append(run(2, 32), nameOf(50))...)
	refuses(t, f, run(1, 60)...)
	f.Got(nameOf(32))
	f.Got(nameOf(50))
	wants(t, f, run(40, 41)...)
	is(t, f, append(run(2, 31), run(40, 41)...)...)
	refuses(t, f, run(1, 60)...)
}

// TestOrder: it is the order in which they came, not that of their numbers.
func TestOrder(t *testing.T) {
	f := wanting(t, 0, 4, nameOf(5), nameOf(9)+3, nameOf(2), nameOf(9), nameOf(4095), nameOf(1))
	is(t, f, nameOf(5), nameOf(9)+3, nameOf(2), nameOf(9), nameOf(4095), nameOf(1))
}

func TestGot(t *testing.T) {
	all := run(11, 16)
	for _, c := range []struct {
		what  string
		names []int
		want  []int
	}{
		{"none", nil, all},
		{"the first", run(11, 11), run(12, 16)},
		{"the last", run(16, 16), run(11, 15)},
		{"one in the midst", run(13, 13), append(run(11, 12), run(14, 16)...)},
		{"one twice", []int{nameOf(13), nameOf(13)}, append(run(11, 12), run(14, 16)...)},
		{"neighbours", run(12, 14), append(run(11, 11), run(15, 16)...)},
		{"several, not in order", []int{nameOf(16), nameOf(11), nameOf(14)}, append(run(12, 13), nameOf(15))},
		{"others", run(1, 10), all},
		{"another variant, another miner", []int{nameOf(13) + 1, nameOf(13) + 256}, all},
		{"no names", append([]int{nameOf(13) + 7*256}, wrongNames...), all},
		{"no names that are far", append([]int{1<<32 + nameOf(13), math.MinInt + nameOf(13), -nameOf(13)}, far...), all},
		{"all", all, nil},
		{"all, from behind", []int{nameOf(16), nameOf(15), nameOf(14), nameOf(13), nameOf(12), nameOf(11)}, nil},
	} {
		f := wanting(t, 0, 4, all...)
		for _, name := range c.names {
			f.Got(name)
		}
		if got := f.Wanted(); !slices.Equal(got, c.want) {
			t.Errorf("%s: wanted is %v, not %v", c.what, got, c.want)
		}
	}
}

// TestGotAndWanted: what came can be wanted anew: behind the others, asked for no time.
func TestGotAndWanted(t *testing.T) {
	f := wanting(t, 0, 4, run(1, 2)...)
	asks(t, f, ask(0, 1, nameOf(1)), ask(0, 1, nameOf(2)))
	asks(t, f, ask(0, 2, nameOf(1)), ask(0, 2, nameOf(2)))
	f.Got(nameOf(1))
	wants(t, f, nameOf(1))
	is(t, f, nameOf(2), nameOf(1))
	asks(t, f, ask(0, 3, nameOf(2)), ask(0, 1, nameOf(1)))
	asks(t, f, ask(0, 1, nameOf(2)), ask(0, 2, nameOf(1)))
}
