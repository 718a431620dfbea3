package gate

import (
	"bytes"
	"slices"
	"testing"

	"neaptide/api"
)

// TestListIsNotKept: who is bad may be written over behind New, and nothing is written into it.
func TestListIsNotKept(t *testing.T) {
	whole := []int{3, 5, 9, 9}
	g := New(whole[:2])
	passes(t, "a bad one's", g, true, votes(3)...)
	if !slices.Equal(whole, []int{3, 5, 9, 9}) {
		t.Error("what was handed in is changed:", whole)
	}
	whole[0], whole[1] = 1, 2
	if !g.Bad(3) || !g.Bad(5) || g.Bad(1) || g.Bad(2) || g.Bad(9) {
		t.Error("it hangs on what was handed in")
	}
	passes(t, "a bad one's", g, true, votes(5)...)
	passes(t, "an honest one's", g, false, votes(1)...)
}

// TestDataIsNotKept: bytes may be written over behind Say and Pass, and nothing is written into them.
func TestDataIsNotKept(t *testing.T) {
	g := gateOf()
	vote, said, own := votes(honest)[3], by(9, honest), by(9, bad)
	for i, m := range []api.Msg{vote, blockOf(honest, said), blockOf(bad, own)} {
		whole := append(dataOf(t, m), 1, 2, 3)
		before := bytes.Clone(whole)
		data := whole[:len(whole)-3]
		if i < 2 {
			g.Say(data)
		} else if !g.Pass(data) {
			t.Errorf("%v doesn't pass", m)
		}
		if !bytes.Equal(whole, before) {
			t.Error("what was handed in is changed:", whole)
		}
		// Another message's bytes, as they would come in the same memory.
		copy(data, dataOf(t, votes(otherHonest)[i]))
	}
	passes(t, "written over", g, true, vote, blockOf(honest, said), blockOf(bad, said), blockOf(bad, own), blockOf(otherBad, own))
	passes(t, "what was written there", g, false, votes(otherHonest)...)
	for _, second := range append(unlike(said), unlike(own)...) {
		passes(t, "known otherwise", g, false, blockOf(bad, second))
	}
}

// TestTwoGates: nothing of one is in another.
func TestTwoGates(t *testing.T) {
	one, two := New([]int{bad}), New([]int{otherBad})
	first := by(9, bad)
	says(t, one, votes(honest)...)
	passes(t, "said to one", one, true, votes(honest)...)
	passes(t, "not said to the other", two, false, votes(honest)...)
	passes(t, "bad of one", one, true, blockOf(bad, first))
	passes(t, "not bad of the other", two, false, blockOf(bad, first))
	three := gateOf()
	passes(t, "known of one alone", three, true, blockOf(bad, unlike(first)[0]))
	passes(t, "known of one alone", three, false, blockOf(bad, first))
}
