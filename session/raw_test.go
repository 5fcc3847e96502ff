package session

import (
	"math"
	"testing"

	"sennit/api"
	"sennit/deframe"
	"sennit/frame"
	"sennit/pipe"
	"sennit/rasm"
	"sennit/segment"
	"sennit/tune"
)

// raw is an end that sends whatever frames it is told to.
type raw struct {
	t     *testing.T
	s     *Session
	pipes [api.MaxPaths]pipe.State
	ins   [api.MaxPaths]deframe.State
	got   []frame.Frame // by themselves
	said  []frame.Frame // within the control stream
	ctl   rasm.State
	in    deframe.State
	at    int
}

// against makes a session with two paths, and a raw end against it, that took all it said.
func against(t *testing.T, odd bool, v tune.Values) *raw {
	s, e := New(Config{odd, 2, v, 7})
	if e != api.OK {
		t.Fatal(e)
	}
	r := &raw{t: t, s: s, ctl: rasm.New()}
	for i := range 2 {
		r.pipes[i], _ = pipe.New(i, 0, 99)
		if !odd {
			r.pipes[i] = pipe.Open(r.pipes[i])
		}
	}
	r.flush()
	r.forget()
	return r
}

// forget forgets all that came.
func (r *raw) forget() { r.got, r.said = nil, nil }

// flush lets all come, till nothing is sent.
func (r *raw) flush() {
	for some := true; some; {
		some = false
		for i := range 2 {
			for _, p := range r.s.Out(i) {
				some = true
				x, _ := segment.Get(p)
				r.pipes[i] = pipe.On(r.pipes[i], x)
			}
			for {
				next, x, ok := pipe.Out(r.pipes[i])
				if r.pipes[i] = next; !ok {
					break
				}
				some = true
				p, _ := segment.Put(x)
				r.s.On(i, p)
			}
			r.read(i)
		}
	}
}

// read takes what came over a path.
func (r *raw) read(i int) {
	var text string
	r.pipes[i], text = pipe.Read(r.pipes[i], math.MaxInt)
	var l, in []frame.Frame
	r.ins[i], l = deframe.Feed(r.ins[i], text)
	for _, f := range l {
		if f.Kind == frame.Data && f.Stream == 0 {
			r.ctl, _, _ = rasm.Put(r.ctl, f.Offset, f.Data, false)
			var ready string
			r.ctl, ready, _ = rasm.Read(r.ctl, math.MaxInt)
			r.in, in = deframe.Feed(r.in, ready)
			r.said = append(r.said, in...)
			continue
		}
		r.got = append(r.got, f)
	}
}

// bytes sends bytes over path 0.
func (r *raw) bytes(s string) {
	r.pipes[0], _ = pipe.Write(r.pipes[0], s)
	r.flush()
}

// self sends frames by themselves.
func (r *raw) self(l ...frame.Frame) {
	for _, f := range l {
		s, e := frame.Put(f)
		if e != api.OK {
			r.t.Fatal(f, e)
		}
		r.bytes(s)
	}
}

// carry sends frames within the control stream.
func (r *raw) carry(l ...frame.Frame) {
	for _, f := range l {
		s, e := frame.Put(f)
		if e != api.OK {
			r.t.Fatal(f, e)
		}
		r.control(s)
	}
}

// control sends bytes of the control stream.
func (r *raw) control(s string) {
	for len(s) > 0 {
		n := min(len(s), api.MaxChunk)
		r.self(frame.Frame{Kind: frame.Data, Offset: r.at, Data: s[:n]})
		r.at += n
		s = s[n:]
	}
}

// open opens the other side's stream.
func (r *raw) open(id int) {
	r.carry(frame.Frame{Kind: frame.Headers, Stream: id, Weight: 16})
}

// data sends bytes of a stream.
func (r *raw) data(id, at int, s string, fin bool) {
	r.self(frame.Frame{Kind: frame.Data, Stream: id, Offset: at, Data: s, Flag: fin})
}

// has tells whether a frame is among others.
func has(l []frame.Frame, f frame.Frame) bool {
	for _, x := range l {
		if frame.Same(x, f) {
			return true
		}
	}
	return false
}

// last tells the last event.
func (r *raw) last() Event {
	l := r.s.v.Events
	if len(l) == 0 {
		return Event{}
	}
	return l[len(l)-1]
}

// died asks for a session that failed with a code, and told it.
func (r *raw) died(what string, code api.Code) {
	r.t.Helper()
	if r.last() != (Event{Died, 0, int(code)}) || !r.s.v.Dead {
		r.t.Error(what, r.s.v.Events)
	}
}

// wasCut asks for a stream that was cut off with a code, and was told so.
func (r *raw) wasCut(what string, id int, code api.Code) {
	r.t.Helper()
	_, there := r.s.find(id)
	told := false
	for _, f := range r.said {
		told = told || f.Kind == frame.Reset && f.Stream == id && f.Code == int(code)
	}
	if r.last() != (Event{Cut, id, int(code)}) || there || !told || r.s.v.Dead {
		r.t.Error(what, r.s.v.Events, r.said)
	}
}
