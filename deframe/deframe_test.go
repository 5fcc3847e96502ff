package deframe

import (
	"math"
	"math/rand"
	"slices"
	"strings"
	"testing"

	"sennit/api"
	"sennit/frame"
)

// same tells whether two lists of frames are one.
func same(a, b []frame.Frame) bool { return slices.EqualFunc(a, b, frame.Same) }

// ping is a frame, and its bytes.
var ping = frame.Frame{Kind: frame.Ping, N: 7}

const pingBytes = "\x06\x00\x01\x07"

// P16.1
func TestCheck(t *testing.T) {
	for i, x := range []struct {
		st   State
		want api.Errno
	}{
		{State{}, api.OK}, {State{Buf: pingBytes[:3]}, api.OK}, {State{Bad: api.ErrKind, Seen: math.MaxInt}, api.OK},
		{State{Buf: "\x00\x00\x40\x40" + strings.Repeat("x", 63)}, api.OK},
		{State{Buf: pingBytes[:3], Bad: api.ErrKind, Seen: -1}, api.ErrForm},
		{State{Buf: pingBytes}, api.ErrLong}, {State{Buf: "\x05", Seen: -1}, api.ErrLong}, {State{Buf: strings.Repeat("\x00", 81)}, api.ErrLong},
		{State{Seen: -1}, api.ErrRange}, {State{Bad: api.ErrCut, Seen: math.MinInt}, api.ErrRange},
	} {
		if Check(x.st) != x.want {
			t.Error(i, Check(x.st))
		}
	}
}

// P16.2
func TestFeed(t *testing.T) {
	st, l := Feed(State{}, "\x07\x00\x02\x03")
	if len(l) != 0 || st != (State{Buf: "\x07\x00\x02\x03"}) {
		t.Error(st, l)
	}
	st, l = Feed(st, "\x08")
	if st != (State{Seen: 1}) || !same(l, []frame.Frame{{Kind: frame.GoAway, Stream: 3, Code: 8}}) {
		t.Error(st, l)
	}
	st, l = Feed(st, pingBytes+pingBytes+"\x06\x02"+pingBytes)
	if st != (State{Bad: api.ErrForm, Seen: 3}) || !same(l, []frame.Frame{ping, ping}) {
		t.Error(st, l)
	}
	if x, l := Feed(st, pingBytes); x != st || l != nil {
		t.Error(x, l)
	}
	if x, l := Feed(State{Seen: math.MaxInt}, pingBytes+pingBytes[:1]); x != (State{Buf: "\x06", Seen: math.MinInt}) || len(l) != 1 {
		t.Error(x, l)
	}
	for _, bad := range []State{{Buf: pingBytes}, {Seen: -1}, {Buf: "\x06", Bad: api.ErrCut}} {
		if x, l := Feed(bad, pingBytes); x != bad || l != nil {
			t.Error(x, l)
		}
	}
}

// P16.3
func TestNeedAll(t *testing.T) {
	for _, x := range []struct {
		st   State
		want int
	}{
		{State{}, 1}, {State{Buf: "\x06"}, 1}, {State{Buf: "\x06\x00"}, 1}, {State{Buf: "\x00\x00\x0a"}, 10}, {State{Buf: "\x00\x00\x0aabc"}, 7},
		{State{Buf: "\x00\x00\x40"}, 1}, {State{Buf: "\x04\x00\x40\x40x"}, 63}, {State{Bad: api.ErrForm}, 0}, {State{Buf: pingBytes}, 0}, {State{Seen: -1}, 0},
	} {
		if Need(x.st) != x.want {
			t.Error(x, Need(x.st))
		}
	}
	if l, e := All(""); len(l) != 0 || e != api.OK {
		t.Error(l, e)
	}
	if l, e := All(pingBytes + pingBytes); !same(l, []frame.Frame{ping, ping}) || e != api.OK {
		t.Error(l, e)
	}
	if l, e := All(pingBytes + pingBytes[:2]); l != nil || e != api.ErrCut {
		t.Error(l, e)
	}
	if l, e := All(pingBytes + "\x05" + pingBytes[:2]); l != nil || e != api.ErrKind {
		t.Error(l, e)
	}
}

// P16.4
func TestAnyPieces(t *testing.T) {
	r := rand.New(rand.NewSource(17))
	for range 200 {
		var want []frame.Frame
		all := ""
		for range r.Intn(9) {
			f := frame.Frame{Kind: frame.Data, Stream: r.Intn(1000), Offset: r.Intn(1 << 40), Data: strings.Repeat("q", r.Intn(33))}
			if r.Intn(2) == 0 {
				f = frame.Frame{Kind: frame.Window, Stream: r.Intn(5), N: 1 + r.Intn(99999)}
			}
			s, _ := frame.Put(f)
			want, all = append(want, f), all+s
		}
		var st State
		var got []frame.Frame
		for rest := all; rest != ""; {
			n := min(len(rest), 1+r.Intn(60))
			if need := Need(st); need < 1 || len(st.Buf) > 2 && need > 1 && n < need && n > 0 {
				x, l := Feed(st, rest[:min(n, need-1)])
				if len(l) > 0 || x.Bad != api.OK {
					t.Fatal("a frame came too soon")
				}
			}
			var l []frame.Frame
			st, l = Feed(st, rest[:n])
			got, rest = append(got, l...), rest[n:]
			if e := Check(st); e != api.OK {
				t.Fatal(e, st)
			}
		}
		if !same(got, want) || st != (State{Seen: len(want)}) {
			t.Fatal(st, len(got), len(want))
		}
		if l, e := All(all); e != api.OK || !same(l, want) {
			t.Fatal(e)
		}
	}
}
