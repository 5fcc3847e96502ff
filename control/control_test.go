package control

import (
	"math"
	"math/rand"
	"slices"
	"strings"
	"testing"

	"sennit/api"
	"sennit/frame"
	"sennit/sbuf"
)

var ping = frame.Frame{Kind: frame.Ping, N: 7}

const pingBytes = "\x06\x00\x01\x07"

// bad may not be.
func bad() State {
	st := New()
	st.Send.Next = 5
	return st
}

// P29.1
func TestNewCheckSame(t *testing.T) {
	if Check(New()) != api.OK || Acked(New()) != 0 || Want(New()) {
		t.Error(New())
	}
	for i, x := range []struct {
		f    func(*State)
		want api.Errno
	}{
		{func(s *State) { s.Send.Data = "abc" }, api.OK},
		{func(s *State) { s.Recv.Recv.Base = 9 }, api.OK},
		{func(s *State) { s.In.Buf = "\x06" }, api.OK},
		{func(s *State) { s.Send.Next = 5; s.Recv.End = -2 }, api.ErrRange},
		{func(s *State) { s.Send.Sent = true; s.Recv.End = -2 }, api.ErrState},
		{func(s *State) { s.Recv.End = -2; s.In.Buf = "\x05" }, api.ErrRange},
		{func(s *State) { s.In.Buf = "\x05"; s.Send.Closed = true }, api.ErrLong},
		{func(s *State) { s.Send.Closed = true }, api.ErrForm},
		{func(s *State) { s.Recv.End = 5 }, api.ErrForm},
		{func(s *State) { s.Recv.Recv.Base, s.Recv.Recv.Ready = 1, "a" }, api.ErrForm},
		{func(s *State) { s.In.Bad = api.ErrKind }, api.ErrForm},
	} {
		st := New()
		if x.f(&st); Check(st) != x.want || Same(st, New()) || !Same(st, st) {
			t.Error(i, Check(st))
		}
	}
}

// P29.2
func TestSend(t *testing.T) {
	st, e := Send(New(), ping)
	if e != api.OK || st.Send.Data != pingBytes {
		t.Error(e, st)
	}
	for i, x := range []struct {
		f    frame.Frame
		want api.Errno
	}{
		{frame.Frame{Kind: frame.Data, Stream: -1}, api.ErrKind}, {frame.Frame{Kind: frame.Came}, api.ErrKind}, {frame.Frame{Kind: frame.Path}, api.ErrKind}, {frame.Frame{Kind: 5}, api.ErrKind},
		{frame.Frame{Kind: frame.Ping, N: -1}, api.ErrRange}, {frame.Frame{Kind: frame.Ping, Stream: 1}, api.ErrForm},
	} {
		if y, e := Send(st, x.f); e != x.want || !Same(y, st) {
			t.Error(i, e)
		}
	}
	if y, e := Send(bad(), frame.Frame{Kind: 5}); e != api.ErrRange || !Same(y, bad()) {
		t.Error(e)
	}
	st.Send.Data = strings.Repeat("x", 4093)
	if y, e := Send(st, ping); e != api.ErrFull || !Same(y, st) {
		t.Error(e)
	}
	st.Send.Data = st.Send.Data[1:]
	if y, e := Send(st, ping); e != api.OK || len(y.Send.Data) != 4096 {
		t.Error(e)
	}
}

// P29.3
func TestOnData(t *testing.T) {
	st, l, code := OnData(New(), 0, pingBytes+pingBytes[:1])
	if code != 0 || len(l) != 1 || !frame.Same(l[0], ping) || st.Recv.Recv.Base != 5 || st.In.Buf != "\x06" || Check(st) != api.OK {
		t.Error(st, l, code)
	}
	late, l, code := OnData(st, 6, "\x01\x08")
	if code != 0 || len(l) != 0 {
		t.Error(l, code)
	}
	if _, l, code := OnData(late, 5, "\x01"); code != 0 || len(l) != 1 || !l[0].Flag || l[0].N != 8 {
		t.Error(l, code)
	}
	for i, x := range []struct {
		s    string
		n    int
		code api.Code
	}{
		{pingBytes + "\x0a\x00\x02\x01\x01" + pingBytes, 1, api.Protocol},
		{"\x09\x00\x02\x01\x01\x05", 0, api.Protocol},
		{pingBytes + pingBytes + "\x05", 2, api.Protocol},
		{pingBytes + "\x06\x00\x40\x41", 1, api.FrameSize},
		{"\x06\x02", 0, api.Protocol},
	} {
		if y, l, code := OnData(New(), 0, x.s); len(l) != x.n || code != x.code || !Same(y, New()) {
			t.Error(i, l, code)
		}
	}
	for _, at := range []int{-1, math.MaxInt, math.MinInt, api.MaxOffset + 1} {
		if y, l, code := OnData(st, at, "a"); l != nil || code != api.Internal || !Same(y, st) {
			t.Error(at, code)
		}
	}
	if y, l, code := OnData(bad(), 0, pingBytes); l != nil || code != api.Internal || !Same(y, bad()) {
		t.Error(code)
	}
}

// P29.5
func TestAcked(t *testing.T) {
	a, _ := Send(New(), ping)
	a, _, _, _ = Pick(a, 0, 32)
	b := New()
	for i, x := range []struct {
		at   int
		s    string
		want int
	}{
		{2, pingBytes[2:], 0},
		{0, "", 0},
		{0, pingBytes[:1], 1},
		{1, pingBytes[1:2], 4},
		{0, pingBytes, 4},
		{5, "\x00", 4},
		{4, "\x06", 6},
	} {
		var code api.Code
		if b, _, code = OnData(b, x.at, x.s); code != api.NoError || Acked(b) != x.want {
			t.Error(i, Acked(b), code)
		}
	}
	if x, _, code := OnData(b, 6, "\x40\x41"); code != api.FrameSize || Acked(x) != 6 {
		t.Error("what is refused did not come", Acked(x), code)
	}
	if x := OnCame(a, Acked(b)-2); x.Send.Base != 4 || x.Send.Data != "" || Acked(x) != 0 {
		t.Error("what this side sent did not come here", x)
	}
}

// P29.4
func TestParts(t *testing.T) {
	st, _ := Send(New(), ping)
	if !Want(st) {
		t.Error("Want")
	}
	st, p, s, ok := Pick(st, 2, 3)
	if p != (sbuf.Piece{From: 0, To: 3, Path: 2}) || s != pingBytes[:3] || !ok {
		t.Error(p, s, ok)
	}
	if y, _, s, ok := Pick(st, 4, 3); ok || s != "" || !Same(y, st) {
		t.Error("no path")
	}
	dead := Dead(st, 2)
	if _, p, s, _ := Pick(dead, 0, 32); p.To != 3 || s != pingBytes[:3] {
		t.Error(p, s)
	}
	if x := OnCame(st, 2); x.Send.Base != 2 || Acked(x) != 0 || !Same(OnCame(st, 4), st) {
		t.Error(x)
	}
	a, p, s, ok := Pick(bad(), 0, 9)
	if ok || s != "" || p != (sbuf.Piece{}) || !Same(a, bad()) || !Same(OnCame(bad(), 1), bad()) || !Same(Dead(bad(), 0), bad()) || Want(bad()) {
		t.Error("a state that may not be")
	}
}

// P29.6
func TestInOrder(t *testing.T) {
	r := rand.New(rand.NewSource(29))
	for range 60 {
		a, b := New(), New()
		var sent, got []frame.Frame
		type piece struct {
			p sbuf.Piece
			s string
		}
		var net []piece
		for range 3000 {
			if len(sent) < 60 {
				f := frame.Frame{Kind: frame.Window, Stream: r.Intn(20), N: 1 + r.Intn(1<<30)}
				if x, e := Send(a, f); e == api.OK {
					a, sent = x, append(sent, f)
				}
			}
			x, p, s, ok := Pick(a, r.Intn(4), 1+r.Intn(32))
			if a = x; ok {
				net = append(net, piece{p, s})
			}
			if len(net) > 0 {
				k := r.Intn(len(net))
				if r.Intn(4) == 0 {
					a = Dead(a, net[k].p.Path)
				} else {
					var l []frame.Frame
					var code api.Code
					if b, l, code = OnData(b, net[k].p.From, net[k].s); code != 0 {
						t.Fatal(code)
					}
					got = append(got, l...)
				}
				net = slices.Delete(net, k, k+1)
			}
			if r.Intn(3) == 0 {
				a = OnCame(a, Acked(b))
			}
			if Check(a) != api.OK || Check(b) != api.OK {
				t.Fatal(a, b)
			}
		}
		if !slices.EqualFunc(sent, got, frame.Same) {
			t.Fatal(len(sent), len(got))
		}
	}
}
