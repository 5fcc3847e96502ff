package session

import (
	"slices"

	"sennit/api"
	"sennit/control"
	"sennit/credit"
	"sennit/deframe"
	"sennit/frame"
	"sennit/paths"
	"sennit/pipe"
	"sennit/stid"
	"sennit/strm"
)

const (
	// mostFinals is how many of the streams that ended are kept.
	mostFinals = 32
	// mostEchoes is how many answers wait, but those that tell of paths.
	mostEchoes = 32
	// fallen tells the other side that a path is dead.
	fallen = 1
)

// happen notes an event.
func (s *Session) happen(kind, id, code int) {
	s.v.Events = append(s.v.Events, Event{Kind: kind, ID: id, Code: code})
}

// send sends a frame within the control stream.
func (s *Session) send(f frame.Frame) api.Errno {
	next, e := control.Send(s.v.Control, f)
	if e == api.OK {
		s.v.Control = next
	}
	return e
}

// say sends a frame without which the session can't go on.
func (s *Session) say(f frame.Frame) {
	if s.send(f) != api.OK {
		s.fail(api.Internal)
	}
}

// fail lets the session be dead, and tells the other side why.
func (s *Session) fail(code api.Code) {
	if s.v.Dead {
		return
	}
	s.happen(Died, 0, int(code))
	s.send(frame.Frame{Kind: frame.GoAway, Stream: s.v.IDs.Last, Code: int(code)})
	s.v.Dead = true
}

// owe notes that the other side is to be told what came of a stream.
func (s *Session) owe(id int) {
	if at, there := slices.BinarySearch(s.v.Owes, id); !there {
		s.v.Owes = slices.Insert(s.v.Owes, at, id)
	}
}

// echo lets Came with the flag go by itself: one a stream, with the greatest place.
func (s *Session) echo(id, upto int) {
	for i, f := range s.v.Echoes {
		if f.Kind == frame.Came && f.Stream == id {
			s.v.Echoes[i].Offset = max(f.Offset, upto)
			s.v.Echoes[i].Flag = true
			return
		}
	}
	if len(s.v.Echoes) < mostEchoes {
		s.v.Echoes = append(s.v.Echoes, frame.Frame{Kind: frame.Came, Flag: true, Stream: id, Offset: upto})
	}
}

// eat notes that bytes of the whole were read, and lets more come.
func (s *Session) eat(n int) {
	in, more := credit.Grant(credit.Eat(s.v.In, n))
	s.v.In = in
	if more > 0 {
		s.say(frame.Frame{Kind: frame.Window, N: more})
	}
}

// reach notes that more bytes of the whole came, and tells whether they may.
func (s *Session) reach(more int) bool {
	in, _, ok := credit.Reach(s.v.In, s.v.In.Used+more)
	if !ok {
		s.fail(api.Flow)
		return false
	}
	s.v.In = in
	return true
}

// end ends a stream.
func (s *Session) end(id int, wasCut bool) {
	at, there := s.find(id)
	if !there {
		return
	}
	end := s.v.Streams[at].Recv.End
	s.v.Streams = slices.Delete(s.v.Streams, at, at+1)
	s.v.IDs = stid.End(s.v.IDs, id, wasCut)
	s.tree.Close(id)
	s.v.Paths = paths.Free(s.v.Paths, id)
	s.v.Gates = slices.DeleteFunc(s.v.Gates, func(g Gate) bool { return g.ID == id })
	owed, owes := slices.BinarySearch(s.v.Owes, id)
	if owes {
		s.v.Owes = slices.Delete(s.v.Owes, owed, owed+1)
	}
	if wasCut {
		return
	}
	if owes {
		s.echo(id, end)
	}
	s.v.Finals = append(s.v.Finals, Gate{ID: id, At: end})
	s.v.Finals = s.v.Finals[max(len(s.v.Finals)-mostFinals, 0):]
}

// over ends a stream that is over.
func (s *Session) over(id int) {
	if at, there := s.find(id); there && strm.Over(s.v.Streams[at]) {
		s.end(id, false)
	}
}

// cut cuts a stream off.
func (s *Session) cut(id, code int) {
	at, there := s.find(id)
	if !there {
		return
	}
	st := s.v.Streams[at]
	s.say(frame.Frame{Kind: frame.Reset, Stream: id, N: st.Send.Next, Code: code})
	s.v.Ghosts = append(s.v.Ghosts, Ghost{ID: id, Used: st.In.Used})
	s.eat(st.In.Used - st.In.Read)
	s.end(id, true)
	s.happen(Cut, id, code)
}

// fall lets a path be dead: what went over it goes again over others.
func (s *Session) fall(path int) {
	s.v.Paths, _, _ = paths.Fall(s.v.Paths, path)
	s.v.Pipes[path] = pipe.Kill(s.v.Pipes[path])
	s.v.Ins[path] = deframe.State{}
	s.v.Control = control.Dead(s.v.Control, path)
	s.owe(0)
	for i, st := range s.v.Streams {
		s.v.Streams[i] = strm.Dead(st, path)
		if st.In.Used > 0 || st.Recv.End >= 0 {
			s.owe(st.ID)
		}
	}
	for _, g := range s.v.Finals {
		s.echo(g.ID, g.At)
	}
	s.happen(Lost, path, 0)
	s.v.Echoes = append(s.v.Echoes, frame.Frame{Kind: frame.Path, N: path, Code: fallen})
	if !s.v.Dead && s.allDead() {
		s.happen(Died, 0, int(api.Internal))
		s.v.Dead = true
	}
}

// allDead tells whether no path is left.
func (s *Session) allDead() bool {
	for i := range s.count {
		if !dead(s.v.Pipes[i]) {
			return false
		}
	}
	return true
}
