package msg

import (
	"bytes"
	"slices"
	"testing"

	"neaptide/api"
)

// scribble writes over all of a list's memory, spare room included.
func scribble[T any](l []T, x T) {
	l = l[:cap(l)]
	for i := range l {
		l[i] = x
	}
}

var inkTx = api.Tx{ID: -9, Fee: -9}

// TestArgumentsAreLeft: what is handed in is as it was, its spare room too.
func TestArgumentsAreLeft(t *testing.T) {
	room := []api.Tx{{ID: 9, Fee: 1}, {ID: 8, Fee: 2}, {ID: 7, Fee: 3}, {ID: 9, Fee: 4}}
	before := slices.Clone(room)
	for _, kind := range []int{0, 1, 3, 9} {
		m := api.Msg{Kind: kind, From: 2, Block: api.Block{Slot: 3, Parent: 65536, Txs: room[:2]}}
		Right(m)
		Same(m, m)
		c := Copy(m)
		c.Block.Txs = append(c.Block.Txs, inkTx)
		scribble(c.Block.Txs, inkTx)
		b, _ := Bytes(m)
		scribble(b, 99)
	}
	if !slices.Equal(room, before) {
		t.Error("what was handed in is changed:", room)
	}
	for _, c := range bodies {
		in := append(under(c.m.From, c.body), 77, 77, 77)
		copied := bytes.Clone(in)
		end := len(in) - 3
		m, _ := Read(in[:end])
		Read(in[:end-1])
		scribble(m.Block.Txs, inkTx)
		if !bytes.Equal(in, copied) {
			t.Error("what was handed in is changed:", in)
		}
	}
}

// TestAnswersAreNew: an answer shares nothing with what was handed in, nor with another answer.
func TestAnswersAreNew(t *testing.T) {
	m := good()[1]
	txs := slices.Clone(m.Block.Txs)
	c, d := Copy(m), Copy(m)
	scribble(m.Block.Txs, inkTx)
	scribble(d.Block.Txs, inkTx)
	if !slices.Equal(c.Block.Txs, txs) {
		t.Error("a copy hangs on what was handed in, or on another one:", c)
	}
	one, _ := Bytes(c)
	two, _ := Bytes(c)
	want := form(c)
	scribble(c.Block.Txs, inkTx)
	scribble(two, 99)
	if !bytes.Equal(one, want) {
		t.Error("bytes hang on what was handed in, or on others:", one)
	}
	x, _ := Read(one)
	y, _ := Read(one)
	scribble(one, 99)
	scribble(y.Block.Txs, inkTx)
	if !Same(x, good()[1]) {
		t.Error("a message hangs on the bytes, or on another one:", x)
	}
}

// TestOneAnswer: the same call has the same answer, whatever was asked meanwhile.
func TestOneAnswer(t *testing.T) {
	var first [][]byte
	for _, m := range rightOnes()[:200] {
		b, _ := Bytes(m)
		first = append(first, b)
	}
	for _, m := range wrongOnes() {
		Bytes(m)
	}
	for i, m := range rightOnes()[:200] {
		if b, e := Bytes(m); !bytes.Equal(b, first[i]) || e != api.OK {
			t.Errorf("%v has other bytes now: %v %d", m, b, e)
		}
	}
}
