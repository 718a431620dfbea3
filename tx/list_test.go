package tx

import (
	"bytes"
	"slices"
	"testing"

	"neaptide/api"
)

// listForm answers a list's bytes, whether it can be or not.
func listForm(l []api.Tx) []byte {
	b := num(len(l))
	for _, x := range l {
		b = append(b, form(x)...)
	}
	return b
}

// some answers so many transactions that can be, with unlike IDs.
func some(many int) []api.Tx {
	var l []api.Tx
	for i := range many {
		l = append(l, api.Tx{ID: 120 + i*5, Fee: (many - i) * 60 % 1001})
	}
	return l
}

// rightLists answers lists that can be: nothing says that they have to be in order.
func rightLists() [][]api.Tx {
	lists := [][]api.Tx{
		nil, {}, some(1), some(2), some(3),
		{{ID: 3, Fee: 1}, {ID: 2, Fee: 2}, {ID: 1, Fee: 3}},
		{{ID: 1, Fee: 3}, {ID: 2, Fee: 2}, {ID: 3, Fee: 1}},
		{{ID: 2, Fee: 7}, {ID: 1, Fee: 7}, {ID: 3, Fee: 7}},
		{{ID: 1000000, Fee: 1000}, {ID: 999999, Fee: 1000}, {ID: 999998, Fee: 1000}},
		{{ID: 1}, {ID: 1000000, Fee: 1000}},
	}
	for _, x := range rightTxs() {
		lists = append(lists, []api.Tx{x}, []api.Tx{{ID: 5, Fee: 5}, x}, []api.Tx{{ID: 5, Fee: 5}, x, {ID: 6, Fee: 6}})
	}
	return lists
}

// twiceLists answers lists in which two have one ID, with the same fee or another one.
func twiceLists() [][]api.Tx {
	lists := [][]api.Tx{}
	for _, fee := range []int{5, 6, 0, 1000} {
		a, b := api.Tx{ID: 200, Fee: 5}, api.Tx{ID: 200, Fee: fee}
		lists = append(lists, []api.Tx{a, b}, []api.Tx{{ID: 1}, a, b}, []api.Tx{a, {ID: 1}, b}, []api.Tx{a, b, {ID: 1}}, []api.Tx{a, b, a})
	}
	return lists
}

// wrongLists answers lists that can't be.
func wrongLists() [][]api.Tx {
	lists := append(twiceLists(), some(4), some(5), some(64), some(1000), make([]api.Tx, 1<<20))
	for _, x := range wrongTxs() {
		lists = append(lists, []api.Tx{x}, []api.Tx{x, {ID: 5}}, []api.Tx{{ID: 5}, x}, []api.Tx{{ID: 5}, {ID: 6}, x}, []api.Tx{{ID: 5}, x, {ID: 5}})
	}
	return lists
}

func TestListForms(t *testing.T) {
	for _, c := range []struct {
		l    []api.Tx
		form []byte
	}{
		{nil, []byte{1}},
		{[]api.Tx{}, []byte{1}},
		{[]api.Tx{{ID: 1, Fee: 5}}, []byte{2, 2, 6}},
		{[]api.Tx{{ID: 1, Fee: 5}, {ID: 200}}, []byte{3, 2, 6, 201, 1, 1}},
		{[]api.Tx{{ID: 200}, {ID: 1, Fee: 5}}, []byte{3, 201, 1, 1, 2, 6}},
		{[]api.Tx{{ID: 3, Fee: 1}, {ID: 2, Fee: 2}, {ID: 1, Fee: 299}}, []byte{4, 4, 2, 3, 3, 2, 172, 2}},
	} {
		if b, e := List(c.l); !bytes.Equal(b, c.form) || e != api.OK {
			t.Errorf("List(%v): %v %d", c.l, b, e)
		}
		if l, e := ReadList(c.form); !slices.Equal(l, c.l) || e != api.OK {
			t.Errorf("ReadList(%v): %v %d", c.form, l, e)
		}
	}
	for _, l := range rightLists() {
		if b, e := List(l); !bytes.Equal(b, listForm(l)) || e != api.OK {
			t.Errorf("List(%v): %v %d", l, b, e)
		}
	}
}

func TestListRefuses(t *testing.T) {
	for _, l := range wrongLists() {
		if b, e := List(l); len(b) != 0 || e != api.ErrTx {
			t.Errorf("List of %d, first %v: %v %d", len(l), l[:min(len(l), 3)], b, e)
		}
	}
}

func TestListSharesNothing(t *testing.T) {
	whole := some(4)
	before := slices.Clone(whole)
	one, _ := List(whole[:2])
	two, _ := List(whole[:2])
	scribble(one)
	if !slices.Equal(whole, before) {
		t.Error("what was handed in is changed:", whole)
	}
	clear(whole)
	if !bytes.Equal(two, listForm(before[:2])) {
		t.Error("an answer hangs on what was handed in, or on another answer:", two)
	}
}
