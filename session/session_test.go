package session

import (
	"math"
	"slices"
	"strings"
	"testing"

	"sennit/api"
	"sennit/credit"
	"sennit/frame"
	"sennit/paths"
	"sennit/ptree"
	"sennit/segment"
	"sennit/tune"
)

// two are two ends.
type two [2]*Session

// pair makes two ends with so many paths.
func pair(count int, a, b tune.Values) two {
	x, _ := New(Config{true, count, a, 1})
	y, _ := New(Config{false, count, b, 1 << 31})
	return two{x, y}
}

// usual makes two ends with two paths and the usual values.
func usual() two { return pair(2, tune.First(), tune.First()) }

// pump lets all come at once, till nothing is sent.
func (t two) pump() {
	for range 60 {
		some := false
		for path := range api.MaxPaths {
			for side := range t {
				for _, p := range t[side].Out(path) {
					some = true
					t[1-side].On(path, p)
				}
			}
		}
		if !some {
			return
		}
	}
}

// turn lets ticks go by, and all come.
func (t two) turn(n int) {
	for range n {
		for _, s := range t {
			s.Tick(s.v.Now + 1)
		}
		t.pump()
	}
}

// text tells n bytes.
func text(n int) string { return strings.Repeat("abcdefg", n/7+1)[:n] }

// P30.1
func TestNew(t *testing.T) {
	for _, c := range []Config{{Paths: 9}, {Paths: 0, Values: tune.First()}, {Paths: 5, Values: tune.First()}, {Paths: -1, Values: tune.First()}, {Paths: 1, Values: tune.Values{Streams: 9, Window: 1, Whole: 1, Chunk: 1}}} {
		if s, e := New(c); s != nil || e != api.ErrRange {
			t.Error(c, e)
		}
	}
	s, e := New(Config{true, 3, tune.Values{Streams: 2, Window: 256, Whole: 5000, Chunk: 32}, math.MaxUint32})
	v := s.Look()
	if e != api.OK || v.In != (credit.Ledger{Window: 5000, Limit: 5000}) || v.Out != (credit.Ledger{Window: 4096, Limit: 4096}) || v.Mine != tune.First() || v.Hers != tune.First() {
		t.Error(e, v)
	}
	if v.Control.Send.Data != "\x04\x00\x05\x01\x02\x03\x53\x88"+"\x08\x00\x03\x00\x43\x88" {
		t.Errorf("%x", v.Control.Send.Data)
	}
	if v.IDs.Mine != 8 || v.IDs.Hers != 8 || !v.IDs.Odd || v.Pipes[2].Shake.Mine != 1 || v.Pipes[1].Shake.Stage != 1 || v.Pipes[3].Limit != 0 || v.Paths.Pinned != -1 {
		t.Error(v)
	}
	s, _ = New(Config{false, 1, tune.Values{Streams: 8, Window: 256, Whole: 100, Chunk: 32}, 5})
	v = s.Look()
	if v.In != (credit.Ledger{Window: 4096, Limit: 4096}) || v.Control.Send.Data != "\x04\x00\x03\x03\x40\x64" || v.Pipes[0].Shake.Stage != 0 {
		t.Errorf("%x %v", v.Control.Send.Data, v.In)
	}
	s, _ = New(Config{false, 1, tune.First(), 5})
	if v := s.Look(); v.Control.Send.Data != "\x04\x00\x00" {
		t.Errorf("%x", v.Control.Send.Data)
	}
}

// P30.1
func TestNil(t *testing.T) {
	var s *Session
	id, e := s.Open(0, 16, false)
	n, e2 := s.Write(1, "a")
	text, end, e3 := s.Read(1, 1)
	last, e4 := s.GoAway()
	for _, e := range []api.Errno{e, e2, e3, e4, s.Close(1), s.Reset(1, 1), s.Move(1, 1, 1, true), s.Ping(1)} {
		if e != api.ErrNil {
			t.Error(int(e))
		}
	}
	s.Tick(5)
	s.On(0, "a")
	if id+n+last != 0 || text != "" || end || s.Out(0) != nil || s.Kill(0) || s.Events() != nil || s.Drained() || s.Look().Dead || len(s.Look().Nodes) != 0 {
		t.Error("nil")
	}
}

// P30.2
func TestOpen(t *testing.T) {
	w := pair(1, tune.Values{Streams: 8, Window: 100, Whole: 4096, Chunk: 32}, tune.Values{Streams: 2, Window: 50, Whole: 4096, Chunk: 32})
	a := w[0]
	for _, x := range []struct {
		dep, weight int
		want        api.Errno
	}{{-1, 16, api.ErrRange}, {api.MaxID + 1, 16, api.ErrRange}, {0, 0, api.ErrRange}, {1, 257, api.ErrRange}, {1, 16, api.ErrForm}} {
		if id, e := a.Open(x.dep, x.weight, false); id != 0 || e != x.want {
			t.Error(x, id, e)
		}
	}
	id, e := a.Open(77, 200, true)
	v := a.Look()
	if id != 1 || e != api.OK || !slices.Equal(v.Nodes, []ptree.Node{{ID: 1, Weight: 16}}) || !slices.Equal(v.Gates, []Gate{{1, len(v.Control.Send.Data)}}) {
		t.Error(id, e, v.Nodes, v.Gates)
	}
	if st := v.Streams[0]; st.Out.Limit != 256 || st.In.Limit != 100 || !strings.HasSuffix(v.Control.Send.Data, "\x01\x01\x05\x01\x40\x4d\x40\xc8") {
		t.Errorf("%v %x", st, v.Control.Send.Data)
	}
	w.turn(3)
	id, _ = a.Open(1, 16, false)
	if v := a.Look(); id != 3 || v.Streams[1].Out.Limit != 50 || v.IDs.Mine != 2 {
		t.Error(id, v.Streams)
	}
	if id, e := a.Open(0, 16, false); id != 0 || e != api.ErrFull {
		t.Error(id, e)
	}
	if st := w[1].Look().Streams[0]; st.ID != 1 || st.Out.Limit != 100 {
		t.Error(st) // it took the Settings ahead of the Headers
	}
	b := w[1]
	b.GoAway()
	if _, e := b.Open(0, 16, false); e != api.ErrDrain {
		t.Error(e)
	}
	full := usual()[0]
	for full.Ping(1) == api.OK {
	}
	was := full.Look()
	if id, e := full.Open(0, 16, false); id != 0 || e != api.ErrFull || len(full.Look().Streams) != len(was.Streams) || full.Look().IDs.Next != was.IDs.Next {
		t.Error(id, e)
	}
}

// P30.3
func TestWriteCloseRead(t *testing.T) {
	w := usual()
	a, b := w[0], w[1]
	if _, e := a.Write(1, "a"); e != api.ErrNone || a.Close(1) != api.ErrNone || a.Reset(1, 999) != api.ErrNone {
		t.Error(e)
	}
	if _, _, e := a.Read(1, 1); e != api.ErrNone {
		t.Error(e)
	}
	a.Open(0, 16, false)
	if n, e := a.Write(1, text(5000)); n != 4096 || e != api.OK {
		t.Error(n, e)
	}
	w.turn(9)
	if v := b.Look(); v.Streams[0].In.Used != 256 || v.In.Used != 256 {
		t.Error(v.Streams)
	}
	s, end, e := b.Read(1, 100)
	if s != text(100) || end || e != api.OK || b.v.In.Read != 100 || b.v.Streams[0].In.Limit != 256 {
		t.Error(s, end, e)
	}
	s, _, _ = b.Read(1, 100)
	if len(s) != 100 || b.v.Streams[0].In.Limit != 456 || b.v.In.Read != 200 || !strings.HasSuffix(b.v.Control.Send.Data, "\x08\x00\x03\x01\x40\xc8") {
		t.Errorf("%v %x", b.v.Streams[0].In, b.v.Control.Send.Data)
	}
	read := 200
	for range 40 {
		w.turn(3)
		s, _, _ := b.Read(1, 4096)
		read += len(s)
	}
	if read != 4096 || b.v.In.Limit <= 4096 || a.v.Out.Limit != b.v.In.Limit {
		t.Error(read, b.v.In, a.v.Out)
	}
	if e := a.Close(1); e != api.OK || a.Close(1) != api.ErrState {
		t.Error(e)
	}
	if _, e := a.Write(1, "a"); e != api.ErrState {
		t.Error(e)
	}
	b.Close(1)
	w.turn(5)
	if s, end, e := a.Read(1, 5); s != "" || !end || e != api.OK {
		t.Error(s, end, e)
	}
	if len(a.v.Streams) != 0 || !slices.Equal(a.v.Finals, []Gate{{1, 0}}) || len(a.v.IDs.Live) != 0 || len(a.v.IDs.Cut) != 0 || len(a.v.Gates) != 0 || !slices.Equal(a.Look().Closed, []int{1}) {
		t.Error(a.Look())
	}
	if len(b.v.Streams) != 0 || !slices.Equal(b.v.Finals, []Gate{{1, 4096}}) { // all was read there, and all that it sent came
		t.Error(b.v.Streams)
	}
}

// P30.3
func TestResetMovePingGoAway(t *testing.T) {
	w := usual()
	a, b := w[0], w[1]
	a.Open(0, 16, false)
	a.Open(0, 16, false)
	for _, x := range []struct {
		id, dep, weight int
		want            api.Errno
	}{
		{0, 0, 16, api.ErrRange}, {api.MaxID + 1, 0, 16, api.ErrRange}, {1, -1, 16, api.ErrRange}, {1, api.MaxID + 1, 16, api.ErrRange}, {1, 0, 0, api.ErrRange}, {9, 9, 257, api.ErrRange},
		{9, 9, 16, api.ErrForm}, {9, 1, 16, api.ErrNone}, {3, 1, 17, api.OK},
	} {
		if e := a.Move(x.id, x.dep, x.weight, true); e != x.want {
			t.Error(x, e)
		}
	}
	for code, want := range map[int]api.Errno{-1: api.ErrRange, 256: api.ErrRange, math.MinInt: api.ErrRange} {
		if e := a.Reset(1, code); e != want {
			t.Error(code, e)
		}
	}
	a.Write(1, text(40))
	w.turn(3)
	if n := b.Look().Nodes; !slices.Equal(n, []ptree.Node{{ID: 1, Weight: 16}, {ID: 3, Parent: 1, Weight: 17}}) {
		t.Error(n)
	}
	b.Write(1, "back")
	w.turn(3)
	b.Events()
	if e := a.Reset(1, 255); e != api.OK || !slices.Equal(a.v.Ghosts, []Ghost{{1, 4}}) || a.v.In.Read != 4 || !slices.Equal(a.v.IDs.Cut, []int{1}) {
		t.Error(e, a.v.Ghosts, a.v.In)
	}
	if l := a.Events(); l[len(l)-1] != (Event{Cut, 1, 255}) || len(a.Events()) != 0 {
		t.Error(l)
	}
	w.turn(3)
	if l := b.Events(); !slices.Equal(l, []Event{{Cut, 1, 255}}) || b.v.In.Used != 40 || b.v.In.Read != 40 || len(a.v.Ghosts) != 0 {
		t.Error(l, b.v.In, a.v.Ghosts)
	}
	if e := a.Ping(-1); e != api.ErrRange || a.Ping(1<<40) != api.OK {
		t.Error(e)
	}
	w.turn(3)
	if l := a.Events(); !slices.Equal(l, []Event{{Pong, 1 << 40, 0}}) {
		t.Error(l)
	}
	last, e := b.GoAway()
	if last != 3 || e != api.OK || b.v.IDs.Told != 3 || !strings.HasSuffix(b.v.Control.Send.Data, "\x07\x00\x02\x03\x00") {
		t.Error(last, e)
	}
	size := len(b.v.Control.Send.Data)
	if last, e := b.GoAway(); last != 3 || e != api.OK || len(b.v.Control.Send.Data) != size {
		t.Error(last, e)
	}
}

// P30.3
func TestGoAwayInPeace(t *testing.T) {
	w := usual()
	a, b := w[0], w[1]
	a.Open(0, 16, false)
	w.turn(3)
	b.GoAway()
	a.Open(0, 16, false) // it does not know yet
	a.Write(3, "lost")
	a.Write(1, "kept")
	a.Close(1)
	out := a.v.Out
	w.turn(6)
	if l := a.Events(); !slices.Equal(l[len(l)-2:], []Event{{Refused, 3, 0}, {Away, 1, 0}}) {
		t.Error(l)
	}
	if a.v.Out.Used != out.Used+4 || len(a.v.Streams) != 1 || a.Drained() || b.Drained() {
		t.Error(a.v.Out, out)
	}
	s, end, _ := b.Read(1, 9)
	b.Close(1)
	w.turn(6)
	_, end2, _ := a.Read(1, 9)
	w.turn(6)
	if s != "kept" || !end || !end2 || !a.Drained() || !b.Drained() || b.v.IDs.Last != 3 || b.v.In.Used != 4 {
		t.Error(s, end, a.Look(), b.Look())
	}
}

// P30.4
func TestTick(t *testing.T) {
	w := usual()
	a := w[0]
	w.turn(1)
	a.Open(0, 16, false)
	a.Write(1, text(200))
	w.pump()
	for _, now := range []int{1, 0, -5, math.MinInt, api.MaxTick + 1, math.MaxInt} {
		if a.Tick(now); a.v.Now != 1 {
			t.Error(now)
		}
	}
	sent := a.v.Pipes[0].Send.Base
	was := a.v.Was[0]
	if a.Tick(4); a.v.Now != 4 || a.v.Paths.Lines[0].Bytes != sent || a.v.Paths.Lines[0].Ticks != 3 && a.v.Paths.Lines[0].Ticks != 4 || a.v.Was[0] != sent || was >= sent {
		t.Error(a.v.Paths, sent, was)
	}
	a.Events()
	a.Tick(250)
	if l := a.Events(); !slices.Equal(l, []Event{{Lost, 0, 0}, {Lost, 1, 0}, {Died, 0, int(api.Internal)}}) || !a.v.Dead {
		t.Error(l)
	}
	if _, e := a.Open(0, 16, false); e != api.ErrDead || a.Ping(1) != api.ErrDead || a.Close(1) != api.ErrDead || a.Reset(9, 999) != api.ErrDead || a.Move(0, 0, 0, false) != api.ErrDead {
		t.Error(e)
	}
	_, e := a.Write(1, "")
	_, _, e2 := a.Read(1, 1)
	if _, e3 := a.GoAway(); e != api.ErrDead || e2 != api.ErrDead || e3 != api.ErrDead {
		t.Error(e, e2, e3)
	}
}

// P30.5
func TestOn(t *testing.T) {
	w := usual()
	a, b := w[0], w[1]
	p := a.Out(0)[0]
	for _, path := range []int{1, 2, -1, math.MinInt, math.MaxInt} {
		b.On(path, p)
	}
	b.On(0, p[1:])
	b.On(0, "")
	if b.v.Pipes[0].Shake.Stage != 0 || b.v.Pipes[1].Shake.Stage != 0 {
		t.Error("what does not fit is nothing")
	}
	b.On(0, p)
	a.On(0, b.Out(0)[0])
	if !slices.Equal(paths.Alive(a.v.Paths), []int{0}) || len(paths.Alive(b.v.Paths)) != 0 {
		t.Error(a.v.Paths)
	}
	w.pump()
	reset, _ := segment.Put(segment.Segment{Flags: segment.Reset, Path: 1})
	b.On(1, reset)
	if l := b.Events(); l[len(l)-1] != (Event{Lost, 1, 0}) || !b.v.Paths.Lines[1].Dead {
		t.Error(l)
	}
	r := against(t, true, tune.First())
	r.bytes("\x06\x02")
	r.died("a wrong frame", api.Protocol)
	r = against(t, true, tune.First())
	r.bytes("\x06\x00\x40\x41")
	r.died("a long frame", api.FrameSize)
}

// P30.6
func TestFall(t *testing.T) {
	w := usual()
	a, b := w[0], w[1]
	w.turn(1)
	a.Open(0, 16, false)
	a.Write(1, text(250))
	a.Out(0) // under way, and lost
	path := a.v.Paths.Pinned
	w.turn(3)
	b.v.Finals = []Gate{{99, 5}, {101, 9}}
	b.v.Ins[path].Buf = "\x06"
	if !b.Kill(path) || b.Kill(path) || b.Kill(2) || b.Kill(-1) {
		t.Error("Kill")
	}
	want := []frame.Frame{{Kind: frame.Came, Flag: true, Stream: 99, Offset: 5}, {Kind: frame.Came, Flag: true, Stream: 101, Offset: 9}, {Kind: frame.Path, N: path, Code: 1}}
	if !slices.EqualFunc(b.v.Echoes, want, frame.Same) || !slices.Equal(b.v.Owes, []int{0, 1}) || b.v.Ins[path].Buf != "" || b.v.Paths.Lines[path].Up || b.v.Dead {
		t.Error(b.v.Echoes, b.v.Owes)
	}
	b.v.Finals, b.v.Echoes = nil, want[2:]
	w.turn(3)
	if l := a.Events(); l[len(l)-1] != (Event{Lost, path, 0}) || a.v.Pipes[path].Shake.Stage != 4 || a.v.Paths.Pinned == path {
		t.Error(l, a.v.Paths)
	}
	w.turn(30)
	if s, _, _ := b.Read(1, 999); s != text(250) {
		t.Error(len(s))
	}
	b.Events()
	b.Kill(1 - path)
	if l := b.Events(); !slices.Equal(l, []Event{{Lost, 1 - path, 0}, {Died, 0, 2}}) || !b.v.Dead {
		t.Error(l)
	}
}

// P30.7
func TestFramesByThemselves(t *testing.T) {
	type F = frame.Frame
	for i, x := range []struct {
		f    F
		code api.Code
	}{
		{F{Kind: frame.Headers, Stream: 2, Weight: 1}, api.Protocol}, {F{Kind: frame.Ping}, api.Protocol}, {F{Kind: frame.Window, N: 1}, api.Protocol},
		{F{Kind: frame.Data, Flag: true}, api.Protocol}, {F{Kind: frame.Data, Data: "\x05"}, api.Protocol}, {F{Kind: frame.Data, Data: "\x06\x00\x40\x41"}, api.FrameSize},
		{F{Kind: frame.Data, Offset: api.MaxOffset, Data: "a"}, api.Internal},
		{F{Kind: frame.Came, Flag: true}, api.Protocol}, {F{Kind: frame.Came, Offset: 999}, api.Protocol},
		{F{Kind: frame.Data, Stream: 2}, api.Protocol}, {F{Kind: frame.Data, Stream: 1}, api.Protocol}, {F{Kind: frame.Came, Stream: 2}, api.Protocol},
	} {
		r := against(t, true, tune.First())
		r.self(x.f)
		r.died("frame "+string(rune('a'+i)), x.code)
		if l := r.said; len(l) == 0 || !frame.Same(l[len(l)-1], F{Kind: frame.GoAway, Code: int(x.code)}) {
			t.Error(i, l)
		}
		was := len(r.s.v.Events)
		if r.self(x.f); len(r.s.v.Events) != was {
			t.Error("a dead one takes no frames")
		}
	}
	r := against(t, true, tune.First())
	r.self(F{Kind: frame.Path, N: 3, Code: 1}, F{Kind: frame.Path, N: 0}, F{Kind: frame.Came})
	if len(r.s.v.Events) != 0 {
		t.Error(r.s.v.Events)
	}
	r.self(F{Kind: frame.Path, N: 1, Code: 1})
	if r.last() != (Event{Lost, 1, 0}) || !has(r.got, F{Kind: frame.Path, N: 1, Code: 1}) {
		t.Error(r.s.v.Events, r.got)
	}
}

// P30.7
func TestDataAndCame(t *testing.T) {
	type F = frame.Frame
	r := against(t, true, tune.First())
	r.open(2)
	r.forget()
	r.data(2, 3, "de", false)
	if !has(r.got, F{Kind: frame.Came, Stream: 2}) || r.s.v.In.Used != 5 {
		t.Error(r.got, r.s.v.In)
	}
	r.data(2, 0, "abc", true)
	r.wasCut("an end below what came", 2, api.StreamClosed)
	r.open(4)
	r.data(4, 0, "abc", true)
	if !has(r.got, F{Kind: frame.Came, Flag: true, Stream: 4, Offset: 3}) {
		t.Error(r.got)
	}
	r.data(4, 3, "d", false)
	r.wasCut("beyond the end", 4, api.StreamClosed)
	r.open(6)
	r.data(6, 250, "1234567", false)
	r.wasCut("beyond the window", 6, api.Flow)
	r.data(6, 0, "ignored", false)
	r.open(8)
	for i := range 16 {
		r.open(10 + 2*i)
		if r.data(10+2*i, 250, "123456", false); r.s.v.Dead {
			break
		}
		r.carry(F{Kind: frame.Priority, Stream: 10 + 2*i, Dep: 10 + 2*i, Weight: 1}) // cut; the bytes are eaten
	}
	if r.s.v.Dead {
		t.Error(r.s.v.In, r.s.v.Events)
	}
	r = against(t, true, tune.First())
	for _, f := range []F{{Kind: frame.Came, Stream: 1, Offset: 4}, {Kind: frame.Came, Stream: 1, Offset: 3, Flag: true}, {Kind: frame.Came, Stream: 1, Offset: 2, Flag: true}} {
		r = against(t, true, tune.First())
		r.s.Open(0, 16, false)
		r.s.Write(1, "abc")
		r.flush()
		r.self(F{Kind: frame.Came, Offset: r.s.v.Control.Send.Next})
		r.flush()
		if f.Offset == 2 {
			r.s.Close(1)
			r.flush()
		}
		if r.s.v.Dead || r.s.v.Streams[0].Send.Next != 3 {
			t.Fatal(r.s.Look())
		}
		r.self(f)
		r.died("Came", api.Protocol)
	}
}

// P30.7
func TestEchoes(t *testing.T) {
	type F = frame.Frame
	r := against(t, true, tune.First())
	r.open(2)
	r.data(2, 0, "abc", true)
	r.s.Read(2, 9)
	r.s.Close(2)
	r.flush()
	r.self(F{Kind: frame.Came, Stream: 2, Flag: true})
	if len(r.s.v.Streams) != 0 || len(r.s.v.IDs.Cut) != 0 {
		t.Fatal(r.s.Look())
	}
	r.forget()
	r.data(2, 0, "abc", true)
	r.data(2, 1, "b", false)
	if !has(r.got, F{Kind: frame.Came, Flag: true, Stream: 2, Offset: 3}) || !has(r.got, F{Kind: frame.Came, Flag: true, Stream: 2, Offset: 2}) {
		t.Error(r.got)
	}
	// Two of one stream are one, with the greater place.
	r.s.echo(2, 9)
	r.s.echo(4, 1)
	r.s.echo(2, 5)
	if len(r.s.v.Echoes) != 2 || r.s.v.Echoes[0].Offset != 9 {
		t.Error(r.s.v.Echoes)
	}
	for i := range 50 {
		r.s.echo(100+i, 1)
	}
	if len(r.s.v.Echoes) != 32 {
		t.Error(len(r.s.v.Echoes))
	}
	// One that can't be written is taken off, and nothing is written.
	r.s.v.Echoes = []F{{Kind: frame.Came, Flag: true, Stream: 2, Offset: api.MaxOffset + 1}, {Kind: frame.Came, Flag: true, Stream: 4, Offset: 5}}
	r.forget()
	r.flush()
	if len(r.s.v.Echoes) != 0 || len(r.got) != 1 || r.got[0].Stream != 4 || r.s.v.Dead {
		t.Error(r.got)
	}
	// Behind GoAway what was never taken has no answer.
	r.s.GoAway()
	r.open(4)
	r.forget()
	r.data(4, 0, "abc", true)
	r.data(2, 0, "abc", true)
	if len(r.got) != 1 || r.got[0].Stream != 2 || len(r.s.v.Streams) != 0 || r.s.v.Dead {
		t.Error(r.got)
	}
}

// P30.8
func TestHeadersPriority(t *testing.T) {
	type F = frame.Frame
	for i, x := range []struct {
		f    F
		code api.Code
	}{
		{F{Kind: frame.Headers, Stream: 0, Weight: 1}, api.Protocol}, {F{Kind: frame.Headers, Stream: 1, Weight: 1}, api.Protocol}, {F{Kind: frame.Headers, Stream: 2, Weight: 1}, api.Protocol},
		{F{Kind: frame.Headers, Stream: 4, Weight: 1}, api.StreamClosed}, {F{Kind: frame.Priority, Stream: 0, Dep: 1, Weight: 1}, api.Protocol},
	} {
		r := against(t, true, tune.First())
		r.open(2)
		r.open(6)
		r.carry(x.f)
		r.died("frame "+string(rune('a'+i)), x.code)
	}
	r := against(t, true, tune.Values{Streams: 1, Window: 33, Whole: 4096, Chunk: 32})
	r.open(2)
	if r.last() != (Event{Opened, 2, 0}) || r.s.v.Streams[0].In.Window != 256 || r.s.v.Streams[0].Out.Limit != 256 {
		t.Error(r.s.v.Events, r.s.v.Streams)
	}
	r.carry(F{Kind: frame.Settings, Flag: true})
	if r.last() != (Event{Settled, 0, 0}) || r.s.v.Mine.Window != 33 || r.s.v.IDs.Hers != 1 {
		t.Error(r.s.v.Events)
	}
	r.open(4)
	if !has(r.said, F{Kind: frame.Reset, Stream: 4, Code: int(api.Refused)}) || !slices.Equal(r.s.v.Ghosts, []Ghost{{4, 0}}) || r.last().Kind != Settled || len(r.s.v.Streams) != 1 {
		t.Error(r.said, r.s.v.Ghosts)
	}
	r.data(4, 0, "abc", false)
	r.carry(F{Kind: frame.Reset, Stream: 4, N: 3, Code: int(api.Refused)})
	if len(r.s.v.Ghosts) != 0 || r.s.v.In.Used != 3 || r.s.v.In.Read != 3 {
		t.Error(r.s.v.Ghosts, r.s.v.In)
	}
	r.carry(F{Kind: frame.Priority, Stream: 2, Dep: 2, Weight: 1})
	r.wasCut("on itself", 2, api.Protocol)
	r.open(6)
	if r.s.v.Streams[0].In.Window != 33 {
		t.Error(r.s.v.Streams)
	}
	r.s.Open(0, 16, false)
	r.carry(F{Kind: frame.Priority, Stream: 6, Dep: 1, Weight: 99}, F{Kind: frame.Priority, Stream: 8, Dep: 1, Weight: 99}, F{Kind: frame.Priority, Stream: 8, Dep: 8, Weight: 99})
	if n := r.s.Look().Nodes; len(n) != 3 || n[2] != (ptree.Node{ID: 6, Parent: 1, Weight: 99}) {
		t.Error(n)
	}
	r = against(t, true, tune.First())
	r.carry(F{Kind: frame.Headers, Stream: 2, Dep: 2, Weight: 1})
	r.wasCut("Headers on itself", 2, api.Protocol)
	if l := r.s.v.Events; l[0] != (Event{Opened, 2, 0}) {
		t.Error(l)
	}
}

// P30.8
func TestReset(t *testing.T) {
	type F = frame.Frame
	begin := func() *raw {
		r := against(t, true, tune.First())
		r.open(2)
		r.data(2, 0, "abcdef", false)
		r.s.Read(2, 2)
		r.s.Write(2, "back")
		r.flush()
		r.forget()
		return r
	}
	r := begin()
	r.carry(F{Kind: frame.Reset, Stream: 2, N: 5, Code: 9})
	r.died("fewer bytes than came", api.Protocol)
	r = begin()
	r.carry(F{Kind: frame.Reset, Stream: 2, N: 5000, Code: 9})
	r.died("more bytes than may", api.Flow)
	r = begin()
	r.carry(F{Kind: frame.Reset, Stream: 2, N: 10, Code: 9})
	if r.last() != (Event{Cut, 2, 9}) || !has(r.said, F{Kind: frame.Reset, Stream: 2, N: 4, Code: 9}) || r.s.v.In.Used != 10 || r.s.v.In.Read != 10 || !slices.Equal(r.s.v.IDs.Cut, []int{2}) {
		t.Error(r.s.v.Events, r.said, r.s.v.In)
	}
	r.carry(F{Kind: frame.Reset, Stream: 2, N: 99, Code: 9}) // ignored
	if r.s.v.Dead || r.s.v.In.Used != 10 {
		t.Error("one that was cut off")
	}
	r = begin()
	r.carry(F{Kind: frame.Reset, Stream: 2, N: 6, Code: int(api.Refused)})
	if r.last().Kind != Refused || r.last().ID != 2 {
		t.Error(r.s.v.Events)
	}
	for _, id := range []int{0, 1, 4} {
		r = begin()
		r.carry(F{Kind: frame.Reset, Stream: id, N: 6})
		r.died("none that is there", api.Protocol)
	}
	r = begin()
	r.s.Reset(2, 3)
	r.carry(F{Kind: frame.Reset, Stream: 2, N: 5, Code: 9})
	r.died("a ghost with fewer bytes", api.Protocol)
	r = begin()
	r.s.Reset(2, 3)
	r.carry(F{Kind: frame.Reset, Stream: 2, N: 4097, Code: 9})
	r.died("a ghost with more bytes than may", api.Flow)
	r = begin()
	r.s.Reset(2, 3)
	if r.carry(F{Kind: frame.Reset, Stream: 2, N: 11, Code: 9}); len(r.s.v.Ghosts) != 0 || r.s.v.In.Used != 11 || r.s.v.In.Read != 11 || r.last() != (Event{Cut, 2, 3}) {
		t.Error(r.s.v.Ghosts, r.s.v.In)
	}
}

// P30.8
func TestSettingsPingAwayWindow(t *testing.T) {
	type F = frame.Frame
	r := against(t, true, tune.First())
	r.carry(F{Kind: frame.Settings, Pairs: []api.Pair{{ID: 1, Value: 3}, {ID: 2, Value: 77}, {ID: 4, Value: 5}}})
	if r.s.v.Hers != (tune.Values{Streams: 3, Window: 77, Whole: 4096, Chunk: 5}) || r.s.v.IDs.Mine != 3 || !has(r.said, F{Kind: frame.Settings, Flag: true}) {
		t.Error(r.s.v.Hers, r.said)
	}
	r.carry(F{Kind: frame.Ping, N: 44}, F{Kind: frame.Ping, Flag: true, N: 45})
	if !has(r.said, F{Kind: frame.Ping, Flag: true, N: 44}) || r.last() != (Event{Pong, 45, 0}) {
		t.Error(r.said)
	}
	for i, x := range []struct {
		f    F
		code api.Code
	}{
		{F{Kind: frame.Settings, Pairs: []api.Pair{{ID: 2, Value: 0}}}, api.Flow}, {F{Kind: frame.Settings, Pairs: []api.Pair{{ID: 1, Value: 9}}}, api.Protocol},
		{F{Kind: frame.Window, N: api.MaxOffset}, api.Flow}, {F{Kind: frame.Window, Stream: 2, N: 1}, api.Protocol}, {F{Kind: frame.Window, Stream: 9, N: 1}, api.Protocol},
	} {
		r := against(t, true, tune.First())
		r.carry(x.f)
		r.died("frame "+string(rune('a'+i)), x.code)
	}
	r.carry(F{Kind: frame.Window, N: 100})
	r.s.Open(0, 16, false)
	r.carry(F{Kind: frame.Window, Stream: 1, N: 9})
	if r.s.v.Out.Limit != 4196 || r.s.v.Streams[0].Out.Limit != 86 {
		t.Error(r.s.v.Out, r.s.v.Streams)
	}
	r.carry(F{Kind: frame.Window, Stream: 1, N: api.MaxOffset})
	r.wasCut("a window beyond all", 1, api.Flow)
	r.carry(F{Kind: frame.GoAway, Stream: 5})
	if r.last() != (Event{Away, 5, 0}) || r.s.v.IDs.Heard != 5 {
		t.Error(r.s.v.Events)
	}
	r.carry(F{Kind: frame.GoAway, Stream: 6})
	r.died("one that takes more again", api.Protocol)
	r = against(t, true, tune.First())
	said := len(r.said)
	r.carry(F{Kind: frame.GoAway, Stream: 5, Code: 77})
	if r.died("the other side failed", 77); len(r.said) != said {
		t.Error(r.said)
	}
}

// P30.9
func TestGateIsOfWhatThisSideSent(t *testing.T) {
	r := against(t, true, tune.First())
	r.carry(frame.Frame{Kind: frame.Settings, Pairs: []api.Pair{{ID: 4, Value: 7}}})
	r.s.Open(0, 16, false)
	r.s.Write(1, text(9))
	at := r.s.v.Gates[0].At
	for range 20 {
		r.carry(frame.Frame{Kind: frame.Window, N: 1})
	}
	if came := r.s.v.Control.Recv.Recv.Base; came <= at {
		t.Fatal(came, at)
	}
	went := func() bool {
		return slices.ContainsFunc(r.got, func(f frame.Frame) bool { return f.Kind == frame.Data })
	}
	if r.flush(); went() {
		t.Error("much came, but the other side may not know the stream yet")
	}
	if r.self(frame.Frame{Kind: frame.Came, Offset: at - 1}); went() {
		t.Error("all but one byte came there")
	}
	if r.self(frame.Frame{Kind: frame.Came, Offset: at}); !went() {
		t.Error("the other side knows the stream")
	}
}

// P30.9
func TestOut(t *testing.T) {
	r := against(t, true, tune.First())
	if r.s.Out(2) != nil || r.s.Out(-1) != nil || r.s.Out(math.MaxInt) != nil {
		t.Error("no such path")
	}
	r.carry(frame.Frame{Kind: frame.Settings, Pairs: []api.Pair{{ID: 4, Value: 7}}})
	r.self(frame.Frame{Kind: frame.Came, Offset: r.s.v.Control.Send.Next})
	r.s.Open(0, 16, false)
	r.s.Write(1, text(40))
	r.forget()
	r.flush()
	if len(r.got) != 0 {
		t.Error("it is behind its Gate", r.got)
	}
	r.self(frame.Frame{Kind: frame.Came, Offset: r.s.v.Control.Send.Next})
	if len(r.got) != 6 || !frame.Same(r.got[5], frame.Frame{Kind: frame.Data, Stream: 1, Offset: 35, Data: text(40)[35:]}) || r.s.v.Out.Used != 40 {
		t.Error(r.got)
	}
	if v := r.s.v; len(v.Share) != 1 || v.Share[0].Members[0].Sent != 40 || len(v.Paths.Binds) != 1 || v.Paths.Pinned < 0 {
		t.Error(v.Share, v.Paths)
	}
	// A pipe takes no more than it can soon send.
	r.s.Write(1, text(3000))
	for range 20 {
		r.s.write()
	}
	for i, p := range r.s.v.Pipes[:2] {
		if left := p.Send.Base + len(p.Send.Data) - p.Send.Next; left > mostUnsent+frameRoom {
			t.Error(i, left)
		}
	}
	// Weights 16 and 32: the second one sends twice as much.
	wide := tune.Values{Streams: 8, Window: 4096, Whole: 1 << 20, Chunk: 32}
	w := pair(1, wide, wide)
	w.turn(2)
	w[0].Open(0, 16, false)
	w[0].Open(0, 32, false)
	w[0].Write(1, text(4096))
	w[0].Write(3, text(4096))
	for w[0].v.Streams[1].Send.Next < 2000 {
		w[0].Tick(w[0].v.Now + 1)
		for _, p := range w[0].Out(0) {
			w[1].On(0, p)
		}
		for _, p := range w[1].Out(0) {
			w[0].On(0, p)
		}
	}
	one, two := w[0].v.Streams[0].Send.Next, w[0].v.Streams[1].Send.Next
	if d := 2*one - two; one < 900 || d > 96 || d < -96 {
		t.Error(one, two)
	}
}

// P30.10
func TestKillEventsLookDrained(t *testing.T) {
	w := usual()
	a := w[0]
	a.Open(0, 16, false)
	w.turn(2)
	if l := w[1].Events(); len(l) != 2 || len(w[1].Events()) != 0 {
		t.Error(l)
	}
	if v := a.Look(); len(v.Events) != 1 || len(a.Events()) != 1 || len(v.Nodes) != 1 || v.Now != 2 {
		t.Error(v)
	}
	if a.Drained() {
		t.Error("nobody goes away")
	}
	a.GoAway()
	if a.Reset(1, 0); a.Drained() {
		t.Error("not all that was said came")
	}
	w.turn(3)
	if !a.Drained() || !w[1].Drained() {
		t.Error(a.Look())
	}
}

// P30.11
func TestTwoEnds(t *testing.T) {
	w := pair(3, tune.Values{Streams: 3, Window: 60, Whole: 300, Chunk: 9}, tune.Values{Streams: 8, Window: 4096, Whole: 100000, Chunk: 32})
	var ids [2][]int
	for i, s := range w {
		for range 3 {
			id, _ := s.Open(0, 16, false)
			ids[i] = append(ids[i], id)
			s.Write(id, text(3000))
			s.Close(id)
		}
	}
	got := map[int]string{}
	for round := range 400 {
		w.turn(1)
		if round == 5 {
			w[0].Kill(w[0].v.Paths.Pinned)
		}
		for i, s := range w {
			for _, id := range ids[1-i] {
				text, _, _ := s.Read(id, 4096)
				got[id] += text
				s.Close(id)
			}
			for _, id := range ids[i] {
				s.Read(id, 1)
			}
			if v := s.Look(); v.In.Used-v.In.Read > v.In.Window {
				t.Fatal(v.In)
			}
		}
	}
	for id, s := range got {
		if s != text(3000) {
			t.Error(id, len(s))
		}
	}
	if len(got) != 6 || len(w[0].v.Streams) != 0 || len(w[1].v.Streams) != 0 || w[0].v.Dead || w[1].v.Dead {
		t.Error(w[0].v.Streams, w[1].v.Streams)
	}
}
