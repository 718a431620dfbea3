package wire

import (
	"bytes"
	"math"
	"testing"

	"neaptide/api"
)

// filled answers so many bytes of all values.
func filled(size int) []byte {
	b := make([]byte, size)
	for i := range b {
		b[i] = byte(i * 7)
	}
	return b
}

var sizes = []struct {
	size int
	form []byte
}{
	{0, []byte{0}},
	{1, []byte{1}},
	{2, []byte{2}},
	{127, []byte{127}},
	{128, []byte{128, 1}},
	{4095, []byte{255, 31}},
	{4096, []byte{128, 32}},
}

func TestTextForms(t *testing.T) {
	if b, e := Text([]byte("hi")); !bytes.Equal(b, []byte{2, 'h', 'i'}) || e != api.OK {
		t.Error(b, e)
	}
	if b, e := Text(nil); !bytes.Equal(b, []byte{0}) || e != api.OK {
		t.Error(b, e)
	}
	for _, c := range sizes {
		text := filled(c.size)
		if b, e := Text(text); !bytes.Equal(b, append(bytes.Clone(c.form), text...)) || e != api.OK {
			t.Errorf("Text of %d bytes: %v %d", c.size, b, e)
		}
	}
}

func TestTextRefuses(t *testing.T) {
	for _, size := range []int{4097, 4098, 8192, 1 << 20} {
		if b, e := Text(make([]byte, size)); len(b) != 0 || e != api.ErrWire {
			t.Errorf("Text of %d bytes: %v %d", size, b, e)
		}
	}
}

func TestReadTextForms(t *testing.T) {
	for _, c := range sizes {
		text := filled(c.size)
		for _, behind := range [][]byte{nil, {0}, {128, 0}, filled(300)} {
			in := append(append(bytes.Clone(c.form), text...), behind...)
			got, rest, e := ReadText(in)
			if !bytes.Equal(got, text) || !bytes.Equal(rest, behind) || e != api.OK {
				t.Errorf("ReadText of %d bytes: %v %v %d", c.size, got, rest, e)
			}
		}
		for _, short := range []int{1, 2, 60} {
			if short > c.size {
				continue
			}
			in := append(bytes.Clone(c.form), text[short:]...)
			if got, rest, e := ReadText(in); len(got) != 0 || len(rest) != 0 || e != api.ErrWire {
				t.Errorf("ReadText of %d bytes less %d: %v %v %d", c.size, short, got, rest, e)
			}
		}
	}
}

func TestReadTextRefuses(t *testing.T) {
	for _, size := range []uint64{4097, 4098, 5000, 1 << 20, 1 << 31, 1 << 32, 1<<63 - 1, 1 << 63, 1<<63 + 2, math.MaxUint64 - 1, math.MaxUint64} {
		for _, behind := range []int{0, 1, 2, 4096, 4097, 6000} {
			in := append(Num(size), filled(behind)...)
			if text, rest, e := ReadText(in); len(text) != 0 || len(rest) != 0 || e != api.ErrWire {
				t.Errorf("ReadText of %d bytes, with %d there: %v %v %d", size, behind, text, rest, e)
			}
		}
	}
	for _, b := range append(noNums, []byte{1}, []byte{3, 'h', 'i'}, []byte{130, 0, 'h', 'i'}) {
		if text, rest, e := ReadText(b); len(text) != 0 || len(rest) != 0 || e != api.ErrWire {
			t.Errorf("ReadText(%v): %v %v %d", b, text, rest, e)
		}
	}
}

func TestTextSharesNothing(t *testing.T) {
	in, spare := withSpare('h', 'i')
	b, _ := Text(in)
	scribble(b)
	if !bytes.Equal(spare, []byte{'h', 'i', 77, 77, 77, 77}) {
		t.Error("what was handed in is changed:", spare)
	}
	b, e := Text(in)
	scribble(in)
	if !bytes.Equal(b, []byte{2, 'h', 'i'}) || e != api.OK {
		t.Error("what was handed in is kept:", b, e)
	}
}

func TestReadTextSharesNothing(t *testing.T) {
	in, spare := withSpare(2, 'h', 'i', '!', '?')
	text, rest, _ := ReadText(in)
	scribble(text)
	if !bytes.Equal(rest, []byte("!?")) {
		t.Error("the text and what is behind it share memory:", rest)
	}
	scribble(rest)
	if !bytes.Equal(spare, []byte{2, 'h', 'i', '!', '?', 77, 77, 77, 77}) {
		t.Error("what was handed in is changed:", spare)
	}
	text, rest, e := ReadText(in)
	scribble(in)
	scribble(rest)
	if string(text) != "hi" || e != api.OK {
		t.Error("what was handed in is kept:", text, e)
	}
}
