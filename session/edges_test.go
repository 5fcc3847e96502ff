package session

import (
	"slices"
	"testing"

	"sennit/api"
	"sennit/frame"
	"sennit/pipe"
	"sennit/tune"
)

// up makes two ends of which all paths are up, and nothing is under way.
func up() two {
	w := usual()
	w.turn(3)
	w[0].Events()
	w[1].Events()
	return w
}

// P30.1
func TestNumbers(t *testing.T) {
	if Opened != 1 || Refused != 2 || Cut != 3 || Pong != 4 || Away != 5 || Lost != 6 || Died != 7 || Settled != 8 {
		t.Error("the kinds of events")
	}
	if _, e := New(Config{Paths: 4, Values: tune.First()}); e != api.OK {
		t.Error(e)
	}
	w := up()
	for range 20 {
		id, _ := w[0].Open(0, 16, false)
		w[0].Reset(id, 8)
		w.turn(1)
	}
	if n := len(w[0].Look().Closed); n != 8 {
		t.Error(n)
	}
}

// P30.2, P30.3: the edges of what may be asked for, and what a move does here.
func TestMoveHere(t *testing.T) {
	a := up()[0]
	if id, e := a.Open(api.MaxID, 256, false); id != 1 || e != api.OK {
		t.Error(id, e)
	}
	if id, e := a.Open(1, 1, false); id != 3 || e != api.OK {
		t.Error(id, e)
	}
	if e := a.Move(1, 3, 1, false); e != api.OK {
		t.Error(e)
	}
	if n := a.Look().Nodes; n[0].Parent != 3 || n[1].Parent != 0 || n[0].Weight != 1 {
		t.Error(n)
	}
	if e := a.Move(1, api.MaxID, 256, false); e != api.OK || a.Look().Nodes[0].Parent != 0 || a.Look().Nodes[0].Weight != 16 {
		t.Error(e)
	}
	a.Move(1, 3, 1, false)
	for a.Ping(1) == api.OK {
	}
	if e := a.Move(1, 0, 9, false); e != api.ErrFull || a.Look().Nodes[0].Parent != 3 {
		t.Error(e)
	}
	if _, e := a.GoAway(); e != api.ErrFull || a.v.IDs.Told != -1 {
		t.Error(e)
	}
	// What has to be said, and can't be, ends the session.
	if e := a.Reset(1, 8); e != api.OK || !a.v.Dead || !slices.Equal(a.Events(), []Event{{Died, 0, int(api.Internal)}, {Cut, 1, 8}}) {
		t.Error(e)
	}
}

// P30.4
func TestTickNotes(t *testing.T) {
	w := up()
	a := w[0]
	line := a.v.Paths.Lines[0]
	a.v.Was[0] -= 7
	a.Tick(5)
	if l := a.v.Paths.Lines[0]; l.Bytes != line.Bytes+7 || l.Ticks != line.Ticks+2 {
		t.Error(line, l)
	}
	if a.Tick(api.MaxTick); a.v.Now != api.MaxTick {
		t.Error(a.v.Now)
	}
}

// P30.5
func TestOnNothing(t *testing.T) {
	w := up()
	a := w[0]
	a.Tick(9)
	was := a.v.Pipes[0]
	a.On(0, "garbage")
	a.On(0, "")
	if !pipe.Same(was, a.v.Pipes[0]) {
		t.Error("a broken packet is nothing")
	}
	w[1].Tick(30)
	l := w[1].Out(0)
	a.Kill(0)
	a.Events()
	if a.On(0, l[0]); len(a.Events()) != 0 {
		t.Error("it was dead")
	}
}

// P30.6: what is owed when a path falls.
func TestFallOwes(t *testing.T) {
	r := against(t, true, tune.First())
	r.open(2)
	r.open(4)
	r.open(6)
	r.data(2, 0, "a", false)
	r.data(4, 0, "", true)
	r.forget()
	r.s.Kill(1)
	if !slices.Equal(r.s.v.Owes, []int{0, 2, 4}) {
		t.Error(r.s.v.Owes)
	}
	if r.flush(); !has(r.got, frame.Frame{Kind: frame.Came, Flag: true, Stream: 4}) || !has(r.got, frame.Frame{Kind: frame.Came, Stream: 2, Offset: 1}) || !has(r.got, frame.Frame{Kind: frame.Came, Offset: r.at}) {
		t.Error(r.got)
	}
}

// The end of a stream: what it leaves.
func TestEnd(t *testing.T) {
	r := against(t, true, tune.First())
	r.open(2)
	r.s.Write(2, "x")
	r.flush()
	if len(r.s.v.Paths.Binds) != 1 {
		t.Error(r.s.v.Paths)
	}
	r.data(2, 0, "abc", true)
	r.s.Read(2, 9)
	r.s.Close(2)
	r.flush()
	r.s.owe(2)
	r.s.onCame(0, frame.Frame{Kind: frame.Came, Flag: true, Stream: 2, Offset: 1})
	want := frame.Frame{Kind: frame.Came, Flag: true, Stream: 2, Offset: 3}
	if len(r.s.v.Streams) != 0 || len(r.s.v.Owes) != 0 || len(r.s.v.Paths.Binds) != 0 || len(r.s.v.Echoes) != 1 || !frame.Same(r.s.v.Echoes[0], want) {
		t.Error(r.s.Look())
	}
	if r.s.echo(2, 12); r.s.v.Echoes[0].Offset != 12 {
		t.Error(r.s.v.Echoes)
	}
	for i := range 40 {
		id := 4 + 2*i
		r.open(id)
		r.data(id, 0, "", true)
		r.s.Close(id)
		r.flush()
		r.self(frame.Frame{Kind: frame.Came, Flag: true, Stream: id})
		r.s.Read(id, 1)
	}
	if l := r.s.v.Finals; len(l) != 32 || l[31] != (Gate{82, 0}) || l[0] != (Gate{20, 0}) {
		t.Error(l)
	}
	r.open(100)
	r.s.owe(100)
	r.forget()
	if r.s.Reset(100, 1); len(r.s.v.Owes) != 0 || len(r.s.v.Echoes) != 0 || len(r.s.v.Finals) != 32 {
		t.Error("one that was cut off", r.s.v.Owes, r.s.v.Echoes)
	}
}

// What is eaten when a stream is cut off here, there, or refused: its own bytes alone.
func TestEaten(t *testing.T) {
	begin := func() *raw {
		r := against(t, true, tune.First())
		r.open(2)
		r.open(4)
		for range 3 {
			r.s.Open(0, 16, false)
		}
		r.s.Write(5, "went")
		r.flush()
		r.self(frame.Frame{Kind: frame.Came, Offset: r.s.v.Control.Send.Next})
		r.data(2, 0, text(32), false)
		r.data(4, 0, text(30)[:20], false)
		r.data(5, 0, text(7), false)
		r.s.Read(4, 3)
		r.s.Read(5, 2)
		if in := r.s.v.In; in.Used != 32+20+7 || in.Read != 5 || r.s.v.Out.Used != 4 {
			t.Fatal(in, r.s.v.Out)
		}
		return r
	}
	r := begin()
	r.s.Reset(4, 9)
	if r.s.v.In.Read != 20+2 {
		t.Error(r.s.v.In)
	}
	r = begin()
	r.carry(frame.Frame{Kind: frame.Reset, Stream: 4, N: 25, Code: 9})
	if r.s.v.In.Read != 25+2 {
		t.Error(r.s.v.In)
	}
	r = begin()
	r.carry(frame.Frame{Kind: frame.GoAway})
	if r.s.v.In.Read != 3+7 || r.s.v.Out.Used != 0 || r.last() != (Event{Away, 0, 0}) || len(r.s.v.Streams) != 2 || len(r.s.v.IDs.Cut) != 0 || r.s.v.Events[2].Kind != Refused {
		t.Error(r.s.v.In, r.s.v.Out, r.s.v.Events)
	}
	// Its number is gone: what comes of it is answered, though it is above the last one that is still taken; cut ones have no answer.
	r.s.GoAway()
	r.forget()
	r.data(5, 0, "late", false)
	r.self(frame.Frame{Kind: frame.Came, Stream: 5})
	r.s.Reset(4, 9)
	r.data(4, 0, "late", false)
	if len(r.got) != 1 || !frame.Same(r.got[0], frame.Frame{Kind: frame.Came, Flag: true, Stream: 5, Offset: 4}) || r.s.v.Dead {
		t.Error(r.got)
	}
}

// P30.9: when a path has room.
func TestRoom(t *testing.T) {
	s := up()[0]
	p := &s.v.Pipes[0]
	fill := func(unsent, free int) {
		sent := api.MaxPipe - free - unsent
		p.Send.Base, p.Send.Data, p.Send.Flight = 0, text(sent+unsent), nil
		p.Send.Next = sent
	}
	for _, x := range []struct {
		unsent, free int
		want         bool
	}{{64, 1000, true}, {65, 1000, false}, {0, 80, true}, {0, 79, false}, {64, 80, true}} {
		if fill(x.unsent, x.free); s.room(0) != x.want {
			t.Error(x)
		}
	}
	fill(65, 1000)
	s.v.Owes, s.v.Echoes = []int{0}, []frame.Frame{{Kind: frame.Came, Flag: true, Stream: 2}}
	s.v.Paths.Lines[0].Bytes, s.v.Paths.Lines[1].Bytes = 1000, 0
	for s.write() {
	}
	if len(s.v.Owes) != 1 || len(s.v.Echoes) != 1 {
		t.Error("what has no room waits", s.v.Paths)
	}
	if s.room(2) || s.room(-1) {
		t.Error("no such path")
	}
	s.v.Paths.Lines[1].Up = false
	if s.room(1) {
		t.Error("it is not up")
	}
}

// P30.10
func TestDrained(t *testing.T) {
	w := up()
	a := w[0]
	a.Open(0, 16, false)
	a.GoAway()
	w.turn(5)
	if a.v.Control.Send.Data != "" || a.Drained() {
		t.Error("there is a stream")
	}
	a.Reset(1, 0)
	if len(a.v.Streams) != 0 || a.Drained() {
		t.Error("not all that was said came")
	}
	w.turn(5)
	if !a.Drained() {
		t.Error(a.Look())
	}
}
