package stake

import (
	"math"
	"slices"
	"testing"

	"neaptide/api"
)

const heavy = 1000000

func TestCheck(t *testing.T) {
	for _, s := range [][]int{
		{1}, {2}, {heavy - 1}, {heavy},
		{1, 1, 1, 1}, {5, 3, 1}, {1, heavy},
		{1, 2, 3, 4, 5, 6}, {1, 2, 3, 4, 5, 6, 7},
		slices.Repeat([]int{heavy}, 7),
	} {
		if e := Check(s); e != api.OK {
			t.Errorf("%v: %d", s, e)
		}
	}
}

func TestCheckCount(t *testing.T) {
	for n := range 20 {
		want := api.ErrStake
		if n >= 1 && n <= 7 {
			want = api.OK
		}
		if e := Check(slices.Repeat([]int{3}, n)); e != want {
			t.Errorf("%d weights: %d", n, e)
		}
	}
	for _, s := range [][]int{nil, {}, make([]int, 0, 7), make([]int, 7), make([]int, 100000)} {
		if e := Check(s); e != api.ErrStake {
			t.Errorf("%d weights: %d", len(s), e)
		}
	}
}

func TestCheckWeights(t *testing.T) {
	for _, wrong := range []int{0, -1, -heavy, heavy + 1, 2 * heavy, 1 << 32, 1<<32 + 1, math.MaxInt, math.MinInt} {
		for n := 1; n <= 7; n++ {
			for i := range n {
				s := slices.Repeat([]int{1}, n)
				s[i] = wrong
				if e := Check(s); e != api.ErrStake {
					t.Errorf("%v: %d", s, e)
				}
			}
		}
	}
	// Together they would be right, or would go round.
	for _, s := range [][]int{{-1, 2}, {0, 1}, {heavy + 1, -1}, {math.MaxInt, math.MaxInt, 3}, {math.MinInt, math.MinInt}} {
		if e := Check(s); e != api.ErrStake {
			t.Errorf("%v: %d", s, e)
		}
	}
}

func TestTotal(t *testing.T) {
	for _, c := range []struct {
		stakes []int
		total  int
	}{
		{[]int{1}, 1},
		{[]int{heavy}, 1000000},
		{[]int{1, 1, 1, 1}, 4},
		{[]int{5, 3, 1}, 9},
		{[]int{1, 3, 5}, 9},
		{[]int{4, 4}, 8},
		{[]int{1, 2, 4, 8, 16, 32, 64}, 127},
		{[]int{1, heavy, 1}, 1000002},
		{slices.Repeat([]int{heavy}, 7), 7000000},
	} {
		if n := Total(c.stakes); n != c.total {
			t.Errorf("%v: %d, not %d", c.stakes, n, c.total)
		}
	}
}

func TestSum(t *testing.T) {
	powers := []int{1, 2, 4, 8, 16, 32, 64}
	for _, c := range []struct {
		stakes, who []int
		sum         int
	}{
		{powers, nil, 0},
		{powers, []int{}, 0},
		{powers, []int{0}, 1},
		{powers, []int{6}, 64},
		{powers, []int{0, 6}, 65},
		{powers, []int{6, 0}, 65},
		{powers, []int{3, 1, 5, 0}, 43},
		{powers, []int{0, 1, 2, 3, 4, 5, 6}, 127},
		{powers, []int{6, 5, 4, 3, 2, 1, 0}, 127},
		// Those that come more often.
		{powers, []int{3, 3}, 8},
		{powers, []int{0, 0, 0}, 1},
		{powers, []int{6, 2, 6, 2, 2, 6}, 68},
		{powers, []int{0, 1, 0, 2, 1, 0}, 7},
		// Those that there aren't.
		{powers, []int{-1}, 0},
		{powers, []int{7}, 0},
		{powers, []int{-1, 7, 8, 100}, 0},
		{powers, []int{math.MinInt, math.MaxInt, 1 << 32, -1 << 32, 1 << 63 >> 1}, 0},
		{powers, []int{-1, 0, 7, 1}, 3},
		{powers, []int{9, 9, 2, -7, 2, -7}, 4},
		{powers, []int{1<<32 + 1, 1 << 3, 5}, 32},
		{[]int{9}, []int{0}, 9},
		{[]int{9}, []int{1, -1}, 0},
		{[]int{9}, []int{1, 0, 0}, 9},
		{[]int{5, 3, 1}, []int{2, 0, 2, 9, -1}, 6},
		{[]int{5, 5, 5}, []int{1, 2}, 10},
		{slices.Repeat([]int{heavy}, 7), []int{0, 1, 2, 3, 4, 5, 6}, 7000000},
	} {
		if n := Sum(c.stakes, c.who); n != c.sum {
			t.Errorf("%v of %v: %d, not %d", c.who, c.stakes, n, c.sum)
		}
	}
}

func TestSumOfMany(t *testing.T) {
	who := make([]int, 300000)
	for i := range who {
		who[i] = i%19 - 6
	}
	if n := Sum([]int{1, 2, 4, 8, 16, 32, 64}, who); n != 127 {
		t.Errorf("%d, not 127", n)
	}
	if n := Sum([]int{1, 2, 4, 8, 16, 32, 64}, slices.Repeat([]int{4}, 300000)); n != 16 {
		t.Errorf("%d, not 16", n)
	}
}

func TestMostSomeFew(t *testing.T) {
	fours := []int{1, 1, 1, 1}
	thirds := []int{1, 1, 1}
	sevens := slices.Repeat([]int{heavy}, 7)
	for _, c := range []struct {
		stakes, who     []int
		most, some, few bool
	}{
		// The chapter's example.
		{fours, []int{1, 2, 3}, true, true, false},
		{fours, []int{0, 3}, false, true, false},
		{fours, []int{2}, false, false, true},
		{fours, []int{0, 1, 2, 3}, true, true, false},
		{fours, nil, false, false, true},
		// A third, and two thirds, to the last weight.
		{thirds, []int{2}, false, false, false},
		{thirds, []int{0, 1}, false, true, false},
		{thirds, []int{2, 1, 0}, true, true, false},
		{[]int{5, 3, 1}, []int{0}, false, true, false},
		{[]int{5, 3, 1}, []int{1}, false, false, false},
		{[]int{5, 3, 1}, []int{2}, false, false, true},
		{[]int{5, 3, 1}, []int{0, 2}, false, true, false},
		{[]int{5, 3, 1}, []int{0, 1}, true, true, false},
		{[]int{5, 3, 1}, []int{1, 2}, false, true, false},
		{[]int{heavy, heavy, heavy}, []int{0}, false, false, false},
		{[]int{heavy, heavy, heavy}, []int{0, 2}, false, true, false},
		{[]int{heavy, heavy, heavy - 1}, []int{0}, false, true, false},
		{[]int{heavy, heavy, heavy - 1}, []int{2}, false, false, true},
		{[]int{heavy, heavy, heavy - 1}, []int{0, 1}, true, true, false},
		{[]int{heavy, heavy, heavy - 1}, []int{1, 2}, false, true, false},
		// One alone, and seven.
		{[]int{1}, []int{0}, true, true, false},
		{[]int{1}, nil, false, false, true},
		{[]int{heavy}, []int{0}, true, true, false},
		{sevens, []int{0, 1, 2, 3, 4}, true, true, false},
		{sevens, []int{0, 1, 2, 3}, false, true, false},
		{sevens, []int{4, 5, 6}, false, true, false},
		{sevens, []int{5, 6}, false, false, true},
		// By weights, not by heads.
		{[]int{7, 1, 1, 1}, []int{0}, true, true, false},
		{[]int{7, 1, 1, 1}, []int{1, 2, 3}, false, false, true},
		{[]int{6, 1, 1, 1}, []int{0}, false, true, false},
		{[]int{6, 1, 1, 1}, []int{1, 2, 3}, false, false, false},
		// Those that come more often, and those that there aren't.
		{fours, []int{2, 2, 2, 2}, false, false, true},
		{fours, []int{0, 3, 3, 0, 0}, false, true, false},
		{fours, []int{4, 5, 6, 7}, false, false, true},
		{fours, []int{-1, 4, -4, 1}, false, false, true},
		{thirds, []int{1, 1, 3, -1}, false, false, false},
		{thirds, []int{1, 0, 1, 3}, false, true, false},
	} {
		if m := Most(c.stakes, c.who); m != c.most {
			t.Errorf("Most(%v, %v): %v", c.stakes, c.who, m)
		}
		if m := Some(c.stakes, c.who); m != c.some {
			t.Errorf("Some(%v, %v): %v", c.stakes, c.who, m)
		}
		if m := Few(c.stakes, c.who); m != c.few {
			t.Errorf("Few(%v, %v): %v", c.stakes, c.who, m)
		}
	}
}

// members answers who stands in a set that is given bit by bit.
func members(set, nodes int) []int {
	var out []int
	for i := range nodes {
		if set>>i&1 == 1 {
			out = append(out, i)
		}
	}
	return out
}

// weigh adds a set's weights up without the package's help.
func weigh(stakes []int, set int) int {
	n := 0
	for i, weight := range stakes {
		n += weight * (set >> i & 1)
	}
	return n
}

// someStakes answers stakes of all sizes: small ones in all ways, others at the bounds.
func someStakes() [][]int {
	var out [][]int
	for a := 1; a <= 6; a++ {
		out = append(out, []int{a}, []int{a, heavy}, []int{a, 1, 1, 1, 1, 1, 1})
		for b := 1; b <= 6; b++ {
			out = append(out, []int{a, b}, []int{b, a, b, 7 - a, a}, []int{a, b, a, b, a, b, a})
			for c := 1; c <= 6; c++ {
				out = append(out, []int{a, b, c}, []int{a, b, c, 2}, []int{c, b, 5, a, heavy, 3})
			}
		}
	}
	return append(out, slices.Repeat([]int{heavy}, 7), []int{1, 2, 4, 8, 16, 32, 64}, []int{heavy, 1, heavy - 1, 333333, 333334, 666667, 666666})
}

func TestAllSets(t *testing.T) {
	for _, s := range someStakes() {
		total := weigh(s, 1<<len(s)-1)
		for set := range 1 << len(s) {
			who, sum := members(set, len(s)), weigh(s, set)
			if Total(s) != total || Sum(s, who) != sum {
				t.Fatalf("%v of %v: %d of %d, not %d of %d", who, s, Sum(s, who), Total(s), sum, total)
			}
			if Most(s, who) != (3*sum > 2*total) || Some(s, who) != (3*sum > total) || Few(s, who) != (3*sum < total) {
				t.Fatalf("%v of %v: %v %v %v", who, s, Most(s, who), Some(s, who), Few(s, who))
			}
			if Some(s, who) && Few(s, who) || Most(s, who) && !Some(s, who) {
				t.Fatalf("%v of %v: at odds", who, s)
			}
		}
	}
}

func TestTwoMostMeet(t *testing.T) {
	for _, s := range someStakes() {
		var most, some []bool
		for set := range 1 << len(s) {
			who := members(set, len(s))
			most, some = append(most, Most(s, who)), append(some, Some(s, who))
		}
		met := 0
		for a := range most {
			for b := range most {
				if !most[a] || !most[b] {
					continue
				}
				if met++; !some[a&b] {
					t.Fatalf("%v: sets %b and %b are Most, both isn't Some", s, a, b)
				}
			}
		}
		if met == 0 {
			t.Errorf("%v: no set is Most", s)
		}
	}
}

func TestOthersOfNotFew(t *testing.T) {
	for _, s := range someStakes() {
		all, seen := 1<<len(s)-1, 0
		for set := range all + 1 {
			if Few(s, members(set, len(s))) {
				continue
			}
			if seen++; Most(s, members(all&^set, len(s))) {
				t.Fatalf("%v: set %b isn't Few, and all others are Most", s, set)
			}
		}
		if seen == 0 {
			t.Errorf("%v: each set is Few", s)
		}
	}
}

// TestWhatIsNone: of what aren't stakes only this much is promised, that each call ends and doesn't panic.
func TestWhatIsNone(t *testing.T) {
	lists := [][]int{
		nil, {}, {0}, {-1}, {math.MaxInt}, {math.MinInt},
		{math.MaxInt, math.MaxInt, math.MaxInt}, {math.MinInt, math.MinInt, -1},
		{-3, 0, heavy + 1}, make([]int, 100000), slices.Repeat([]int{math.MaxInt}, 1000),
	}
	for _, s := range lists {
		for _, who := range append(lists, []int{0}, []int{0, 0, 1, 2}, []int{7, 8, 999, 99999, 100000}) {
			Check(s)
			Total(s)
			Sum(s, who)
			Most(s, who)
			Some(s, who)
			Few(s, who)
		}
	}
}

func TestChangesNothing(t *testing.T) {
	s, who := []int{5, 3, 1, 77, 78}, []int{2, 0, 2, 9, -1, 1, 44}
	for range 3 {
		stakes, set := s[:3], who[:5]
		if Check(stakes) != api.OK || Total(stakes) != 9 || Sum(stakes, set) != 6 {
			t.Errorf("%d %d %d", Check(stakes), Total(stakes), Sum(stakes, set))
		}
		if Most(stakes, set) || !Some(stakes, set) || Few(stakes, set) {
			t.Errorf("%v %v %v", Most(stakes, set), Some(stakes, set), Few(stakes, set))
		}
	}
	if !slices.Equal(s, []int{5, 3, 1, 77, 78}) || !slices.Equal(who, []int{2, 0, 2, 9, -1, 1, 44}) {
		t.Errorf("changed: %v %v", s, who)
	}
}

func TestKeepsNothing(t *testing.T) {
	s, who := []int{5, 3, 1}, []int{0, 1}
	if !Most(s, who) || Sum(s, who) != 8 || Total(s) != 9 || Check(s) != api.OK {
		t.Error("wrong ahead of the change")
	}
	s[0], who[1] = 0, 2
	if Most(s, who) || Sum(s, who) != 1 || Total(s) != 4 || Check(s) != api.ErrStake {
		t.Error("what was handed in before was kept")
	}
	if !Most([]int{1}, []int{0, 0}) || !Most([]int{1}, []int{0, 0}) {
		t.Error("who was counted was kept")
	}
}
