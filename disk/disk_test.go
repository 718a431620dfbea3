package disk

import (
	"bytes"
	"math"
	"testing"

	"neaptide/api"
)

// most is what a disk can have at most.
const most = 65536

// rooms are rooms that are asked for, and what a disk then has.
var rooms = []struct{ asked, room int }{
	{0, 0}, {1, 1}, {2, 2}, {10, 10}, {4096, 4096}, {65535, 65535},
	{65536, 65536}, {65537, 65536}, {1 << 32, 65536}, {1<<32 + 5, 65536}, {math.MaxInt, 65536},
	{-1, 0}, {-10, 0}, {-65536, 0}, {-1 << 32, 0}, {-1<<32 + 5, 0}, {math.MinInt, 0},
}

// is tells it, if a disk isn't so.
func is(t *testing.T, d *Disk, on string, synced, room int) {
	t.Helper()
	if got := string(d.Bytes()); got != on {
		t.Errorf("on it: %q, not %q", got, on)
	}
	if n := d.Synced(); n != synced {
		t.Errorf("synced: %d, not %d", n, synced)
	}
	if n := d.Room(); n != room {
		t.Errorf("room: %d, not %d", n, room)
	}
}

// add appends what has to fit.
func add(t *testing.T, d *Disk, text string) {
	t.Helper()
	if e := d.Append([]byte(text)); e != api.OK {
		t.Fatalf("Append of %d bytes with room for %d: %d", len(text), d.Room(), e)
	}
}

// made answers a disk with a room of 10 and some bytes that are synced, and others behind these.
func made(t *testing.T, synced, loose string) *Disk {
	t.Helper()
	d := New(10)
	add(t, d, synced)
	d.Sync()
	add(t, d, loose)
	return d
}

func TestNew(t *testing.T) {
	for _, c := range rooms {
		is(t, New(c.asked), "", 0, c.room)
	}
}

func TestNewHoldsItsRoom(t *testing.T) {
	for _, c := range rooms {
		d := New(c.asked)
		if e := d.Append(make([]byte, c.room+1)); e != api.ErrFull {
			t.Errorf("New(%d): Append of %d: %d", c.asked, c.room+1, e)
		}
		if e := d.Append(make([]byte, c.room)); e != api.OK || len(d.Bytes()) != c.room || d.Room() != 0 {
			t.Errorf("New(%d): Append of %d: %d, %d on it", c.asked, c.room, e, len(d.Bytes()))
		}
		if e := d.Append([]byte{1}); e != api.ErrFull {
			t.Errorf("New(%d): Append to a full one: %d", c.asked, e)
		}
	}
}

func TestLimit(t *testing.T) {
	for _, c := range rooms {
		for _, before := range []int{0, 7, most} {
			d := New(before)
			d.Limit(c.asked)
			is(t, d, "", 0, c.room)
			if e := d.Append(make([]byte, c.room+1)); e != api.ErrFull {
				t.Errorf("Limit(%d): Append of %d: %d", c.asked, c.room+1, e)
			}
			if e := d.Append(make([]byte, c.room)); e != api.OK || d.Room() != 0 {
				t.Errorf("Limit(%d): Append of %d: %d", c.asked, c.room, e)
			}
		}
	}
}

// TestLimitInAll: the room counts what is there already, and takes nothing of it away.
func TestLimitInAll(t *testing.T) {
	for _, c := range []struct{ limit, room int }{
		{10, 3}, {9, 2}, {8, 1}, {7, 0}, {6, 0}, {3, 0}, {2, 0}, {0, 0}, {-1, 0}, {math.MinInt, 0},
		{100, 93}, {most, most - 7}, {most + 1, most - 7}, {math.MaxInt, most - 7},
	} {
		d := made(t, "abc", "defg")
		d.Limit(c.limit)
		is(t, d, "abcdefg", 3, c.room)
		if e := d.Append(make([]byte, c.room+1)); e != api.ErrFull {
			t.Errorf("Limit(%d): Append of %d: %d", c.limit, c.room+1, e)
		}
		is(t, d, "abcdefg", 3, c.room)
		d.Limit(12)
		add(t, d, "hijkl")
		is(t, d, "abcdefghijkl", 3, 0)
	}
}

func TestRoomOfWhatIsBeyond(t *testing.T) {
	d := made(t, "abc", "defg")
	d.Limit(5)
	for n := 7; n >= 0; n-- {
		d.Cut(n)
		is(t, d, "abcdefg"[:n], min(n, 3), max(5-n, 0))
	}
	d = made(t, "abc", "defg")
	d.Limit(5)
	d.Crash(1)
	is(t, d, "abcd", 4, 1)
	d = made(t, "abcdef", "g")
	d.Limit(2)
	d.Crash(0)
	d.Sync()
	is(t, d, "abcdef", 6, 0)
}

func TestAppend(t *testing.T) {
	d := New(10)
	add(t, d, "ab")
	is(t, d, "ab", 0, 8)
	add(t, d, "")
	is(t, d, "ab", 0, 8)
	add(t, d, "c")
	is(t, d, "abc", 0, 7)
	d.Sync()
	add(t, d, "\x00\xff\x80")
	is(t, d, "abc\x00\xff\x80", 3, 4)
	add(t, d, "ghij")
	is(t, d, "abc\x00\xff\x80ghij", 3, 0)
}

// TestAppendAllOrNothing: a part isn't written, and what fits is, behind an error too.
func TestAppendAllOrNothing(t *testing.T) {
	for _, text := range []string{"hijk", "hijkl", string(make([]byte, 65536)), string(make([]byte, 100000))} {
		d := made(t, "abc", "defg")
		for range 3 {
			if e := d.Append([]byte(text)); e != api.ErrFull {
				t.Errorf("Append of %d with room for 3: %d", len(text), e)
			}
			is(t, d, "abcdefg", 3, 3)
		}
		add(t, d, "hi")
		if e := d.Append([]byte("jk")); e != api.ErrFull {
			t.Errorf("Append of 2 with room for 1: %d", e)
		}
		is(t, d, "abcdefghi", 3, 1)
		add(t, d, "j")
		is(t, d, "abcdefghij", 3, 0)
		if e := d.Append([]byte("k")); e != api.ErrFull {
			t.Errorf("Append of 1 to a full one: %d", e)
		}
		is(t, d, "abcdefghij", 3, 0)
	}
}

// TestAppendNothing: for no bytes there is always room.
func TestAppendNothing(t *testing.T) {
	for _, none := range [][]byte{nil, {}, make([]byte, 0, 9), []byte("abc")[3:]} {
		for _, limit := range []int{-1, 0, 4, 7, 8} {
			d := made(t, "abc", "defg")
			d.Limit(limit)
			if e := d.Append(none); e != api.OK {
				t.Errorf("Limit(%d): %d", limit, e)
			}
			is(t, d, "abcdefg", 3, max(limit-7, 0))
		}
		if e := New(0).Append(none); e != api.OK {
			t.Errorf("on an empty one without room: %d", e)
		}
	}
}

func TestSync(t *testing.T) {
	d := New(10)
	d.Sync()
	is(t, d, "", 0, 10)
	add(t, d, "ab")
	is(t, d, "ab", 0, 8)
	d.Sync()
	is(t, d, "ab", 2, 8)
	d.Sync()
	is(t, d, "ab", 2, 8)
	add(t, d, "cde")
	is(t, d, "abcde", 2, 5)
	d.Sync()
	is(t, d, "abcde", 5, 5)
	d.Limit(3)
	d.Append([]byte("f"))
	d.Sync()
	is(t, d, "abcde", 5, 0)
}

func TestCrash(t *testing.T) {
	for _, c := range []struct {
		synced, loose string
		keep          int
		left          string
	}{
		// The chapter's example.
		{"ab", "cd", 1, "abc"},
		{"ab", "cd", 0, "ab"},
		{"ab", "cd", 2, "abcd"},
		// As far as there are.
		{"ab", "cd", 3, "abcd"},
		{"ab", "cd", 4, "abcd"},
		{"ab", "cd", 1 << 32, "abcd"},
		{"ab", "cd", math.MaxInt - 2, "abcd"},
		{"ab", "cd", math.MaxInt - 1, "abcd"},
		{"ab", "cd", math.MaxInt, "abcd"},
		// Below 0: none.
		{"ab", "cd", -1, "ab"},
		{"ab", "cd", -2, "ab"},
		{"ab", "cd", -5, "ab"},
		{"ab", "cd", -1<<32 + 1, "ab"},
		{"ab", "cd", math.MinInt, "ab"},
		// Nothing is synced, or all is, or there is nothing.
		{"", "cd", 0, ""},
		{"", "cd", -1, ""},
		{"", "cd", 1, "c"},
		{"", "cd", 9, "cd"},
		{"ab", "", 0, "ab"},
		{"ab", "", -3, "ab"},
		{"ab", "", 3, "ab"},
		{"", "", -1, ""},
		{"", "", 0, ""},
		{"", "", 1, ""},
		{"abcdefg", "hij", 2, "abcdefghi"},
		{"a", "bcdefghij", 4, "abcde"},
	} {
		d := made(t, c.synced, c.loose)
		d.Crash(c.keep)
		is(t, d, c.left, len(c.left), 10-len(c.left))
		// All is synced then, so that another crash takes nothing.
		d.Crash(0)
		d.Crash(-1)
		is(t, d, c.left, len(c.left), 10-len(c.left))
	}
}

func TestBehindCrash(t *testing.T) {
	d := made(t, "ab", "cd")
	d.Crash(1)
	add(t, d, "XYZ")
	is(t, d, "abcXYZ", 3, 4)
	d.Crash(2)
	is(t, d, "abcXY", 5, 5)
	add(t, d, "p")
	d.Sync()
	add(t, d, "q")
	d.Crash(0)
	is(t, d, "abcXYp", 6, 4)
}

func TestCut(t *testing.T) {
	for _, c := range []struct {
		n      int
		left   string
		synced int
	}{
		{7, "abcdefg", 3}, {6, "abcdef", 3}, {4, "abcd", 3}, {3, "abc", 3}, {2, "ab", 2}, {1, "a", 1}, {0, "", 0},
		// Below 0: none.
		{-1, "", 0}, {-3, "", 0}, {-1<<32 + 4, "", 0}, {math.MinInt, "", 0},
		// All, if there are fewer.
		{8, "abcdefg", 3}, {10, "abcdefg", 3}, {11, "abcdefg", 3}, {most + 1, "abcdefg", 3}, {1<<32 + 1, "abcdefg", 3}, {math.MaxInt, "abcdefg", 3},
	} {
		d := made(t, "abc", "defg")
		d.Cut(c.n)
		is(t, d, c.left, c.synced, 10-len(c.left))
		d.Cut(c.n)
		is(t, d, c.left, c.synced, 10-len(c.left))
	}
	for _, n := range []int{-1, 0, 1, math.MaxInt, math.MinInt} {
		d := New(10)
		d.Cut(n)
		is(t, d, "", 0, 10)
	}
}

// TestBehindCut: what comes where something was cut off is as new, and not synced.
func TestBehindCut(t *testing.T) {
	d := made(t, "abcd", "ef")
	d.Cut(2)
	add(t, d, "XYZ")
	is(t, d, "abXYZ", 2, 5)
	d.Crash(1)
	is(t, d, "abX", 3, 7)
	d = made(t, "abc", "defg")
	d.Cut(5)
	add(t, d, "zz")
	is(t, d, "abcdezz", 3, 3)
	d.Crash(-1)
	is(t, d, "abc", 3, 7)
	d = made(t, "abc", "defg")
	d.Cut(0)
	d.Crash(5)
	is(t, d, "", 0, 10)
	add(t, d, "XYZ")
	d.Sync()
	is(t, d, "XYZ", 3, 7)
}

func TestFullDisk(t *testing.T) {
	d := New(most)
	block := bytes.Repeat([]byte("0123456789abcdef"), 256)
	for i := range 16 {
		if d.Room() != most-i*4096 {
			t.Fatalf("room: %d behind %d blocks", d.Room(), i)
		}
		add(t, d, string(block))
	}
	if e := d.Append([]byte{0}); e != api.ErrFull || d.Room() != 0 || d.Synced() != 0 {
		t.Errorf("%d, room %d, synced %d", e, d.Room(), d.Synced())
	}
	d.Sync()
	if d.Synced() != most || !bytes.Equal(d.Bytes(), bytes.Repeat(block, 16)) {
		t.Errorf("synced %d of %d", d.Synced(), len(d.Bytes()))
	}
	d.Cut(most - 1)
	add(t, d, "!")
	d.Crash(0)
	if d.Synced() != most-1 || d.Room() != 1 || !bytes.Equal(d.Bytes(), bytes.Repeat(block, 16)[:most-1]) {
		t.Errorf("synced %d, room %d", d.Synced(), d.Room())
	}
}

// TestBytesIsACopy: whoever writes over an answer, or behind it, changes neither the disk nor another answer.
func TestBytesIsACopy(t *testing.T) {
	d := made(t, "abc", "defg")
	one, two := d.Bytes(), d.Bytes()
	for i := range one {
		one[i] = 'x'
	}
	if string(two) != "abcdefg" {
		t.Errorf("another answer: %q", two)
	}
	is(t, d, "abcdefg", 3, 3)
	_ = append(two[:2], "....."...)
	_ = append(two, "......"...)
	is(t, d, "abcdefg", 3, 3)
	add(t, d, "h")
	is(t, d, "abcdefgh", 3, 2)
	three := d.Bytes()
	spare := three[:cap(three)]
	for i := range spare {
		spare[i] = 'y'
	}
	d.Cut(4)
	add(t, d, "ijk")
	is(t, d, "abcdijk", 3, 3)
}

// TestAnswersStay: what comes behind an answer doesn't change it.
func TestAnswersStay(t *testing.T) {
	d := made(t, "abc", "defg")
	b := d.Bytes()
	d.Cut(2)
	add(t, d, "......")
	d.Crash(0)
	add(t, d, "!!!!!!!!")
	if string(b) != "abcdefg" {
		t.Errorf("%q", b)
	}
}

// TestAppendKeepsNothing: what was appended may be written over, and isn't written to, nor is what lies behind it.
func TestAppendKeepsNothing(t *testing.T) {
	whole := []byte("abcdefgh")
	d := New(10)
	if e := d.Append(whole[:3]); e != api.OK {
		t.Fatal(e)
	}
	add(t, d, "XY")
	if string(whole) != "abcdefgh" {
		t.Errorf("changed: %q", whole)
	}
	copy(whole, "........")
	is(t, d, "abcXY", 0, 5)
	d.Sync()
	d.Cut(1)
	add(t, d, "Z")
	d.Crash(1)
	if string(whole) != "........" {
		t.Errorf("changed: %q", whole)
	}
	is(t, d, "aZ", 2, 8)
	if e := d.Append(make([]byte, 9)); e != api.ErrFull {
		t.Error(e)
	}
	own := d.Bytes()
	if e := d.Append(own); e != api.OK {
		t.Error(e)
	}
	own[0] = '?'
	is(t, d, "aZaZ", 2, 6)
}

func TestDisksAreApart(t *testing.T) {
	a, b := New(10), New(10)
	add(t, a, "abc")
	a.Sync()
	a.Limit(4)
	is(t, b, "", 0, 10)
	add(t, b, "xy")
	is(t, a, "abc", 3, 1)
	b.Crash(0)
	is(t, a, "abc", 3, 1)
	is(t, b, "", 0, 10)
}
