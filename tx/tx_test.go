package tx

import (
	"bytes"
	"math"
	"slices"
	"testing"

	"neaptide/api"
)

// rightIDs and rightFees are numbers that can be, the least and the greatest, and those at an edge of how many bytes they have, among them.
var (
	rightIDs  = []int{1, 2, 3, 125, 126, 127, 128, 254, 255, 256, 16382, 16383, 16384, 65535, 65536, 999998, 999999, 1000000}
	rightFees = []int{0, 1, 2, 125, 126, 127, 128, 255, 256, 998, 999, 1000}
)

// wrongIDs and wrongFees are numbers that can't be.
var (
	wrongIDs = []int{
		0, -1, -2, -3, -1000000, -1 << 31, -1 << 32, math.MinInt + 1, math.MinInt,
		1000001, 1000002, 1048576, 2097151, 1 << 31, 1 << 32, 1<<32 + 1, 1 << 62, 1<<62 + 1, math.MaxInt - 1, math.MaxInt,
	}
	wrongFees = []int{
		-1, -2, -3, -1000, -1 << 31, -1 << 32, math.MinInt + 1, math.MinInt,
		1001, 1002, 1023, 1024, 16383, 1000000, 1 << 31, 1 << 32, 1<<32 + 1, 1 << 62, 1<<62 + 1, math.MaxInt - 1, math.MaxInt,
	}
)

// rightTxs answers transactions that can be.
func rightTxs() []api.Tx {
	var l []api.Tx
	for _, id := range rightIDs {
		for _, fee := range rightFees {
			l = append(l, api.Tx{ID: id, Fee: fee})
		}
	}
	return l
}

// wrongTxs answers transactions that can't be.
func wrongTxs() []api.Tx {
	var l []api.Tx
	for _, id := range wrongIDs {
		for _, fee := range slices.Concat(rightFees, wrongFees) {
			l = append(l, api.Tx{ID: id, Fee: fee})
		}
	}
	for _, id := range rightIDs {
		for _, fee := range wrongFees {
			l = append(l, api.Tx{ID: id, Fee: fee})
		}
	}
	return l
}

// num answers the bytes of one more than a number, worked out without layer 1.
func num(n int) []byte {
	var b []byte
	for n++; n > 127; n /= 128 {
		b = append(b, byte(128+n%128))
	}
	return append(b, byte(n))
}

// form answers a transaction's bytes, whether it can be or not.
func form(t api.Tx) []byte { return append(num(t.ID), num(t.Fee)...) }

func TestRight(t *testing.T) {
	for _, x := range rightTxs() {
		if !Right(x) {
			t.Errorf("%v isn't right", x)
		}
	}
	for _, x := range append(wrongTxs(), api.Tx{}) {
		if Right(x) {
			t.Errorf("%v is right", x)
		}
	}
}

func TestLess(t *testing.T) {
	for _, c := range []struct {
		a, b api.Tx
		less bool
	}{
		{api.Tx{ID: 1, Fee: 5}, api.Tx{ID: 1, Fee: 5}, false},
		// The fee goes ahead of the ID.
		{api.Tx{ID: 1, Fee: 5}, api.Tx{ID: 1, Fee: 4}, true},
		{api.Tx{ID: 1, Fee: 4}, api.Tx{ID: 1, Fee: 5}, false},
		{api.Tx{ID: 9, Fee: 5}, api.Tx{ID: 2, Fee: 4}, true},
		{api.Tx{ID: 2, Fee: 5}, api.Tx{ID: 9, Fee: 4}, true},
		{api.Tx{ID: 2, Fee: 4}, api.Tx{ID: 9, Fee: 5}, false},
		{api.Tx{ID: 9, Fee: 4}, api.Tx{ID: 2, Fee: 5}, false},
		// One fee: the ID.
		{api.Tx{ID: 2, Fee: 5}, api.Tx{ID: 9, Fee: 5}, true},
		{api.Tx{ID: 9, Fee: 5}, api.Tx{ID: 2, Fee: 5}, false},
		{api.Tx{ID: 999999, Fee: 0}, api.Tx{ID: 1000000, Fee: 0}, true},
		{api.Tx{ID: 1000000, Fee: 1000}, api.Tx{ID: 1, Fee: 999}, true},
		// Those that can't be have an order too.
		{api.Tx{ID: 1, Fee: math.MaxInt}, api.Tx{ID: 1, Fee: math.MinInt}, true},
		{api.Tx{ID: 1, Fee: math.MinInt}, api.Tx{ID: 1, Fee: math.MaxInt}, false},
		{api.Tx{ID: math.MinInt, Fee: 3}, api.Tx{ID: math.MaxInt, Fee: 3}, true},
		{api.Tx{ID: math.MaxInt, Fee: 3}, api.Tx{ID: math.MinInt, Fee: 3}, false},
		{api.Tx{ID: 0, Fee: 0}, api.Tx{ID: 0, Fee: -1}, true},
	} {
		if Less(c.a, c.b) != c.less {
			t.Errorf("Less(%v, %v) isn't %t", c.a, c.b, c.less)
		}
	}
}

// TestLessIsAnOrder: all, right or not, sorted by fee and ID, go ahead of just those behind them.
func TestLessIsAnOrder(t *testing.T) {
	edges := []int{math.MinInt, math.MinInt + 1, -1 << 32, -1, 0, 1, 2, 1000, 1 << 31, 1<<32 + 1, math.MaxInt - 1, math.MaxInt}
	var sorted []api.Tx
	for i := range edges {
		for _, id := range edges {
			sorted = append(sorted, api.Tx{ID: id, Fee: edges[len(edges)-1-i]})
		}
	}
	for i, a := range sorted {
		for j, b := range sorted {
			if Less(a, b) != (i < j) {
				t.Errorf("Less(%v, %v) isn't %t", a, b, i < j)
			}
		}
	}
}

func TestBytesForms(t *testing.T) {
	for _, c := range []struct {
		tx   api.Tx
		form []byte
	}{
		{api.Tx{ID: 1, Fee: 5}, []byte{2, 6}},
		{api.Tx{ID: 1}, []byte{2, 1}},
		{api.Tx{ID: 200}, []byte{201, 1, 1}},
		{api.Tx{ID: 126, Fee: 126}, []byte{127, 127}},
		{api.Tx{ID: 127, Fee: 127}, []byte{128, 1, 128, 1}},
		{api.Tx{ID: 299, Fee: 299}, []byte{172, 2, 172, 2}},
		{api.Tx{ID: 16382, Fee: 1}, []byte{255, 127, 2}},
		{api.Tx{ID: 16383, Fee: 1}, []byte{128, 128, 1, 2}},
		{api.Tx{ID: 1000000, Fee: 1000}, []byte{193, 132, 61, 233, 7}},
	} {
		if b, e := Bytes(c.tx); !bytes.Equal(b, c.form) || e != api.OK {
			t.Errorf("Bytes(%v): %v %d", c.tx, b, e)
		}
		if x, e := Read(c.form); x != c.tx || e != api.OK {
			t.Errorf("Read(%v): %v %d", c.form, x, e)
		}
	}
	for _, x := range rightTxs() {
		if b, e := Bytes(x); !bytes.Equal(b, form(x)) || e != api.OK {
			t.Errorf("Bytes(%v): %v %d", x, b, e)
		}
	}
}

func TestBytesRefuses(t *testing.T) {
	for _, x := range wrongTxs() {
		if b, e := Bytes(x); len(b) != 0 || e != api.ErrTx {
			t.Errorf("Bytes(%v): %v %d", x, b, e)
		}
	}
}

func TestBytesIsNewMemory(t *testing.T) {
	x := api.Tx{ID: 300, Fee: 7}
	one, _ := Bytes(x)
	two, _ := Bytes(x)
	scribble(one)
	if three, e := Bytes(x); !bytes.Equal(two, form(x)) || !bytes.Equal(three, form(x)) || e != api.OK {
		t.Error("an answer hangs on the one before it:", two, three, e)
	}
}

// scribble writes over all of b's memory, spare room included.
func scribble(b []byte) {
	b = b[:cap(b)]
	for i := range b {
		b[i] = 99
	}
}
