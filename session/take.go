package session

import (
	"math"
	"slices"

	"sennit/api"
	"sennit/control"
	"sennit/credit"
	"sennit/deframe"
	"sennit/frame"
	"sennit/paths"
	"sennit/pipe"
	"sennit/rules"
	"sennit/segment"
	"sennit/stid"
	"sennit/strm"
	"sennit/tune"
)

// On takes a packet.
func (s *Session) On(path int, packet string) {
	if !s.has(path) {
		return
	}
	x, e := segment.Get(packet)
	if e != api.OK || x.Path != path {
		return
	}
	was := s.v.Pipes[path]
	now := pipe.On(was, x)
	s.v.Pipes[path] = now
	if pipe.Alive(now) && !pipe.Alive(was) {
		s.v.Paths, _ = paths.Rise(s.v.Paths, path)
	}
	if dead(now) && !dead(was) {
		s.fall(path)
		return
	}
	s.drain(path)
}

// drain reads all that is ready of a path, and takes its frames.
func (s *Session) drain(path int) {
	var ready string
	s.v.Pipes[path], ready = pipe.Read(s.v.Pipes[path], math.MaxInt)
	in, l := deframe.Feed(s.v.Ins[path], ready)
	s.v.Ins[path] = in
	for _, f := range l {
		s.take(f)
	}
	if v := rules.Fault(in.Bad); v.Scope != rules.Fine {
		s.fail(v.Code)
	}
}

// take takes a frame that came by itself.
func (s *Session) take(f frame.Frame) {
	switch {
	case s.v.Dead:
	case rules.Carried(f.Kind):
		s.fail(api.Protocol)
	case f.Kind == frame.Path:
		if f.Code == fallen && s.v.Paths.Lines[f.N].Up {
			s.fall(f.N)
		}
	case f.Stream == 0:
		s.takeControl(f)
	case f.Kind == frame.Data:
		s.judged(f, s.onData)
	case f.Kind == frame.Came:
		s.judged(f, s.onCame)
	}
}

// takeControl takes a frame of the control stream itself.
func (s *Session) takeControl(f frame.Frame) {
	switch {
	case f.Flag:
		s.fail(api.Protocol)
	case f.Kind == frame.Data:
		next, l, code := control.OnData(s.v.Control, f.Offset, f.Data)
		s.v.Control = next
		s.owe(0)
		for _, x := range l {
			s.takeCarried(x)
		}
		if code != api.NoError {
			s.fail(code)
		}
	case f.Offset > s.v.Control.Send.Next:
		s.fail(api.Protocol)
	default:
		s.v.Control = control.OnCame(s.v.Control, f.Offset)
	}
}

// judged lets a frame be done with its stream, by its place, if the rules have nothing against it.
func (s *Session) judged(f frame.Frame, do func(int, frame.Frame)) {
	class := stid.Class(s.v.IDs, f.Stream)
	at, there := s.find(f.Stream)
	if there {
		class = strm.Class(s.v.Streams[at])
	}
	v := rules.Judge(f.Kind, class)
	switch {
	case v.Scope == rules.Session:
		s.fail(v.Code)
	case v.Scope == rules.Fine && there:
		do(at, f)
	case f.Kind == frame.Data && class == rules.Gone:
		// The other side did not hear that all came; but what this side never took did not come.
		if told := s.v.IDs.Told; told == nobody || f.Stream <= told || stid.Own(s.v.IDs, f.Stream) {
			s.echo(f.Stream, f.Offset+len(f.Data))
		}
	}
}

// onData takes bytes of a stream.
func (s *Session) onData(at int, f frame.Frame) {
	st, more, code := strm.OnData(s.v.Streams[at], f.Offset, f.Data, f.Flag)
	if code != api.NoError {
		s.cut(f.Stream, int(code))
		return
	}
	s.v.Streams[at] = st
	if s.reach(more) {
		s.owe(f.Stream)
	}
}

// onCame notes what came of a stream.
func (s *Session) onCame(at int, f frame.Frame) {
	send := s.v.Streams[at].Send
	if f.Offset > send.Next || f.Flag && (!send.Sent || f.Offset != send.Base+len(send.Data)) {
		s.fail(api.Protocol)
		return
	}
	s.v.Streams[at] = strm.OnCame(s.v.Streams[at], f.Offset, f.Flag)
	s.over(f.Stream)
}

// takeCarried takes a frame that came within the control stream.
func (s *Session) takeCarried(f frame.Frame) {
	if s.v.Dead {
		return
	}
	switch f.Kind {
	case frame.Headers:
		s.onHeaders(f)
	case frame.Priority:
		s.onPriority(f)
	case frame.Reset:
		if at := slices.IndexFunc(s.v.Ghosts, func(g Ghost) bool { return g.ID == f.Stream }); at >= 0 {
			s.onGhost(at, f)
		} else {
			s.judged(f, s.onReset)
		}
	case frame.Settings:
		s.onSettings(f)
	case frame.Ping:
		if f.Flag {
			s.happen(Pong, f.N, 0)
		} else {
			s.say(frame.Frame{Kind: frame.Ping, Flag: true, N: f.N})
		}
	case frame.GoAway:
		s.onAway(f)
	case frame.Window:
		s.onWholeWindow(f)
	}
}

// onHeaders lets the other side open a stream.
func (s *Session) onHeaders(f frame.Frame) {
	ids, v := stid.Begin(s.v.IDs, f.Stream)
	s.v.IDs = ids
	switch v.Scope {
	case rules.Session:
		s.fail(v.Code)
	case rules.Stream:
		s.say(frame.Frame{Kind: frame.Reset, Stream: f.Stream, Code: int(api.Refused)})
		s.v.Ghosts = append(s.v.Ghosts, Ghost{ID: f.Stream})
	case rules.Fine:
		s.begin(f.Stream, s.v.Hers.Window, s.v.Mine.Window)
		s.happen(Opened, f.Stream, 0)
		if s.tree.Insert(f.Stream, f.Dep, f.Weight, f.Flag) != api.OK {
			s.cut(f.Stream, int(api.Protocol))
		}
	}
}

// onPriority lets a stream depend on another one.
func (s *Session) onPriority(f frame.Frame) {
	switch {
	case f.Stream == 0:
		s.fail(api.Protocol)
	case f.Stream == f.Dep:
		s.cut(f.Stream, int(api.Protocol))
	case s.node(f.Stream):
		s.tree.Move(f.Stream, f.Dep, f.Weight, f.Flag)
	}
}

// onGhost notes how many bytes went of a stream that this side cut off.
func (s *Session) onGhost(at int, f frame.Frame) {
	more := f.N - s.v.Ghosts[at].Used
	if more < 0 {
		s.fail(api.Protocol)
		return
	}
	if s.reach(more) {
		s.eat(more)
		s.v.Ghosts = slices.Delete(s.v.Ghosts, at, at+1)
	}
}

// onReset lets the other side cut a stream off.
func (s *Session) onReset(at int, f frame.Frame) {
	st := s.v.Streams[at]
	if f.N < st.In.Used {
		s.fail(api.Protocol)
		return
	}
	if !s.reach(f.N - st.In.Used) {
		return
	}
	s.say(frame.Frame{Kind: frame.Reset, Stream: f.Stream, N: st.Send.Next, Code: f.Code})
	s.end(f.Stream, true)
	kind := Cut
	if f.Code == int(api.Refused) {
		kind = Refused
	}
	s.happen(kind, f.Stream, f.Code)
	s.eat(f.N - st.In.Read)
}

// onSettings takes what the other side settles on, or that it took what this side did.
func (s *Session) onSettings(f frame.Frame) {
	if f.Flag {
		s.v.Mine = s.values
		s.v.IDs.Hers = s.values.Streams
		s.happen(Settled, 0, 0)
		return
	}
	hers, code := tune.Apply(s.v.Hers, f.Pairs)
	if code != api.NoError {
		s.fail(code)
		return
	}
	s.v.Hers = hers
	s.v.IDs.Mine = hers.Streams
	s.say(frame.Frame{Kind: frame.Settings, Flag: true})
}

// onAway notes that the other side goes, in peace or not.
func (s *Session) onAway(f frame.Frame) {
	if f.Code != int(api.NoError) {
		s.happen(Died, 0, f.Code)
		s.v.Dead = true
		return
	}
	ids, lost, ok := stid.Away(s.v.IDs, f.Stream)
	if !ok {
		s.fail(api.Protocol)
		return
	}
	s.v.IDs = ids
	for _, id := range lost {
		s.refused(id)
	}
	s.happen(Away, f.Stream, 0)
}

// refused ends a stream that the other side does not take any more: its bytes count for nothing.
func (s *Session) refused(id int) {
	at, there := s.find(id)
	if !there {
		return
	}
	st := s.v.Streams[at]
	s.v.Out.Used -= st.Send.Next
	s.end(id, true)
	s.happen(Refused, id, 0)
	s.eat(st.In.Used - st.In.Read)
}

// onWholeWindow notes that more may go, of all streams or of one.
func (s *Session) onWholeWindow(f frame.Frame) {
	if f.Stream != 0 {
		s.judged(f, s.onWindow)
		return
	}
	out, ok := credit.Given(s.v.Out, f.N)
	if !ok {
		s.fail(api.Flow)
		return
	}
	s.v.Out = out
}

// onWindow notes that more of a stream may go.
func (s *Session) onWindow(at int, f frame.Frame) {
	st, code := strm.OnWindow(s.v.Streams[at], f.N)
	if code != api.NoError {
		s.cut(f.Stream, int(code))
		return
	}
	s.v.Streams[at] = st
}
