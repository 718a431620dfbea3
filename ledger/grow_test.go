package ledger

import (
	"slices"
	"testing"
)

// TestMoreBlocks: what was decided ahead of its block counts as soon as that is known, and nothing ahead of that changes.
func TestMoreBlocks(t *testing.T) {
	c := at(0)
	decisions := []int{0, n(3), n(1), 0, of(5, 2), n(4)}
	tells(t, "no block", c, decisions, look{1, nil, nil})
	takes(t, c, on(0, 1, 8, 6))
	tells(t, "one that isn't the next", c, decisions, look{1, nil, []int{8, 6}})
	takes(t, c, on(n(2), 3, 4))
	tells(t, "the next one waits", c, decisions, look{1, nil, []int{8, 6}})
	takes(t, c, with(0, 5, 2, 2, 6))
	tells(t, "one far behind", c, decisions, look{1, nil, []int{8, 6}})
	takes(t, c, on(0, 2, 7, 9))
	tells(t, "what it waited for", c, decisions, look{5, []int{7, 9, 4, 8, 6, 2}, []int{7, 9, 4, 8, 6, 2}})
	takes(t, c, on(n(3), 4, 5, 7))
	tells(t, "the last one", c, decisions, look{6, []int{7, 9, 4, 8, 6, 2, 5}, []int{7, 9, 4, 8, 6, 2, 5}})
	takes(t, c, on(n(4), 6, 1))
	tells(t, "one that isn't decided", c, decisions, look{6, []int{7, 9, 4, 8, 6, 2, 5}, []int{7, 9, 4, 8, 6, 2, 5, 1}})
}

// TestMoreDecisions: each one more leaves what was final as the beginning.
func TestMoreDecisions(t *testing.T) {
	c := forked(t, 1)
	decisions := []int{0, n(6), n(6), n(4), 0, n(2), n(5), n(9), n(1), 0}
	wants := [][]int{
		nil, nil, {7, 2}, {7, 2}, {7, 2, 1, 3, 5}, {7, 2, 1, 3, 5}, {7, 2, 1, 3, 5}, {7, 2, 1, 3, 5, 4, 8},
		{7, 2, 1, 3, 5, 4, 8}, {7, 2, 1, 3, 5, 4, 8}, {7, 2, 1, 3, 5, 4, 8},
	}
	avails := [][]int{
		{1, 2, 3, 4}, {1, 2, 3, 4}, {7, 2, 1, 3, 4}, {7, 2, 1, 3, 4}, {7, 2, 1, 3, 5, 4}, {7, 2, 1, 3, 5, 4}, {7, 2, 1, 3, 5, 4}, {7, 2, 1, 3, 5, 4, 8},
		{7, 2, 1, 3, 5, 4, 8}, {7, 2, 1, 3, 5, 4, 8}, {7, 2, 1, 3, 5, 4, 8},
	}
	for i, want := range wants {
		tells(t, "a beginning", c, decisions[:i], look{min(i, 7), want, avails[i]})
		if i > 0 && !begins(wants[i-1], want) {
			t.Error("the test itself is wrong at", i)
		}
	}
}

// TestAnyDecisions: whatever is decided, each beginning of it has a beginning of its Final, and in it no number comes twice.
func TestAnyDecisions(t *testing.T) {
	c := forked(t, 1)
	names := []int{0, n(1), n(3), n(4), n(5), n(6), n(9)}
	for code := range 7 * 7 * 7 * 7 {
		var decisions []int
		for range 4 {
			decisions = append(decisions, names[code%7])
			code /= 7
		}
		var last []int
		for i := range 5 {
			final, avail := Final(c, decisions[:i]), Avail(c, decisions[:i])
			if !begins(last, final) || !begins(final, avail) {
				t.Fatalf("of %v: behind %v comes %v, and %v is available", decisions[:i], last, final, avail)
			}
			sorted := slices.Sorted(slices.Values(avail))
			if len(slices.Compact(sorted)) != len(avail) {
				t.Fatalf("of %v: a number comes twice: %v", decisions[:i], avail)
			}
			last = final
		}
	}
}
