package cluster

import (
	"bytes"
	"slices"
	"testing"

	"neaptide/api"
)

// TestConfigIsNotKept: a config's lists may be written over behind New, and nothing is written into them.
func TestConfigIsNotKept(t *testing.T) {
	stakes, bad, draws := []int{1, 1, 1, 1, 77, 78}, []int{3, 79, 80}, append(turns(4), 81, 82)
	config := so(4)
	config.Stakes, config.Bad, config.Draws = stakes[:4], bad[:1], draws[:200]
	one, two := begin(t, config), begin(t, so(4, 3))
	run := func(c *Cluster, from int) {
		does(t, "from its disk", c, crash(1, 0), start(1))
		for i := range 12 {
			does(t, "a transaction", c, submit((from+i)%3, from+i, 3))
			slots(t, c, 1)
		}
	}
	run(one, 100)
	run(two, 100)
	if !slices.Equal(stakes, []int{1, 1, 1, 1, 77, 78}) || !slices.Equal(bad, []int{3, 79, 80}) || !slices.Equal(draws, append(turns(4), 81, 82)) {
		t.Error("what was handed in is changed:", stakes, bad, draws)
	}
	copy(stakes, []int{1000, 2000, 3000, 4000})
	bad[0] = 0
	clear(draws)
	run(one, 300)
	run(two, 300)
	data := dataOf(t, blockOf(3, on(0, 4, 3, 7)))
	does(t, "a bad one's", one, inject(0, data))
	does(t, "a bad one's", two, inject(0, data))
	if got, want := lookAt(one), lookAt(two); !got.same(want) || len(want.nodes[0].decisions) < 10 {
		t.Errorf("it hangs on what was handed in:\n%+v, not\n%+v", got, want)
	}
}

// TestDataIsNotKept: what is injected may be written over behind Step, and nothing is written into it.
func TestDataIsNotKept(t *testing.T) {
	c := begin(t, so(4, 3))
	m := blockOf(3, on(0, 4, 3, 7))
	whole := append(dataOf(t, m), 1, 2, 3)
	before := bytes.Clone(whole)
	data := whole[:len(whole)-3]
	does(t, "a bad one's", c, inject(0, data), inject(1, data), double(0), double(1))
	if !bytes.Equal(whole, before) {
		t.Error("what was handed in is changed:", whole)
	}
	clear(whole)
	isOnWay(t, "written over", c, saying{3, 0, m}, saying{3, 1, m}, saying{3, 0, m}, saying{3, 1, m})
	does(t, "the same again", c, inject(2, before[:len(before)-3]))
	doesNot(t, "another one of that name", c, inject(2, dataOf(t, blockOf(3, on(0, 4, 3, 8)))))
	does(t, "four slots", c, tick(), tick(), tick(), tick(), deliver(2))
	if c.Tip(0) == 0 {
		t.Error("it didn't come")
	}
}

// TestAnswersAreNew: no answer has memory in common with another one, or with what is kept.
func TestAnswersAreNew(t *testing.T) {
	c := begin(t, so(4))
	for i := range 8 {
		does(t, "a transaction", c, submit(i%4, 5+i, 1))
		slots(t, c, 1)
	}
	before := lookAt(c)
	for range 2 {
		for i := range 4 {
			for _, ask := range []func(int) []int{c.Decisions, c.Final, c.Avail} {
				one, other := ask(i), ask(i)
				was := slices.Clone(other)
				if len(one) == 0 {
					t.Error("nothing is told")
				}
				one = one[:cap(one)]
				for j := range one {
					one[j] = -77
				}
				if !slices.Equal(other, was) {
					t.Error("two answers share memory")
				}
				if now := lookAt(c); !now.same(before) {
					t.Fatalf("an answer is written over, and told is %+v, not %+v", now, before)
				}
			}
		}
	}
}

// TestAnswersStay: what happens later changes no answer.
func TestAnswersStay(t *testing.T) {
	c := begin(t, so(4))
	does(t, "a transaction", c, submit(1, 5, 1))
	slots(t, c, 8)
	was, same := lookAt(c), lookAt(c)
	for i := range 20 {
		c.Step(submit(i%4, 50+i, i))
		slots(t, c, 1)
		c.Step(crash(i%3, i))
		c.Step(start(i % 3))
	}
	if !was.same(same) {
		t.Errorf("told was %+v, and now %+v", same, was)
	}
}

// TestAgain: the same steps lead to the same.
func TestAgain(t *testing.T) {
	for seed := range 8 {
		one, two := newTwins(t, seed), newTwins(t, seed)
		for range 300 {
			s := one.step(t)
			one.m.step(s)
			if one.c.Step(s) != two.c.Step(s) {
				t.Fatalf("seed %d: %+v isn't answered alike", seed, s)
			}
		}
		if !lookAt(one.c).same(lookAt(two.c)) {
			t.Errorf("seed %d: %+v and %+v", seed, lookAt(one.c), lookAt(two.c))
		}
	}
}

// TestConfigsThatCantBe: nothing is there then, whatever else is.
func TestConfigsThatCantBe(t *testing.T) {
	long := slices.Repeat([]int{1}, 1<<20)
	for _, config := range []api.Config{
		{Stakes: long, Bad: long, Draws: long},
		{Stakes: []int{1, 1}, Bad: long, Draws: long, Base: 1, Most: 1},
		{Stakes: []int{1, 1}, Bad: append(slices.Clone(long), 2), Base: 1, Most: 1},
	} {
		if c, e := New(config); c != nil || e != api.ErrStep {
			t.Error("it can be:", e)
		}
	}
	if c, e := New(api.Config{Stakes: []int{1, 1}, Bad: long, Base: 1, Most: 1}); c == nil || e != api.OK || c.Honest(1) || !c.Honest(0) {
		t.Error("bad a million times can be:", e)
	}
}
