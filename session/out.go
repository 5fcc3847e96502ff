package session

import (
	"slices"

	"sennit/api"
	"sennit/control"
	"sennit/credit"
	"sennit/frame"
	"sennit/paths"
	"sennit/pipe"
	"sennit/segment"
	"sennit/share"
	"sennit/strm"
)

const (
	// mostOut is how many packets are told at once.
	mostOut = 200
	// mostUnsent is how many bytes that were never sent a pipe may have, to take more.
	mostUnsent = 64
	// frameRoom is more than any frame that goes by itself has.
	frameRoom = 80
)

// Out tells what is sent.
func (s *Session) Out(path int) []string {
	if !s.has(path) {
		return nil
	}
	for s.write() {
	}
	var l []string
	for range mostOut {
		next, x, tells := pipe.Out(s.v.Pipes[path])
		if !tells {
			break
		}
		s.v.Pipes[path] = next
		if packet, e := segment.Put(x); e == api.OK {
			l = append(l, packet)
		}
	}
	return l
}

// write writes one frame into a pipe, and tells whether it could.
func (s *Session) write() bool {
	return s.writeEcho() || s.writeOwed() || s.writeControl() || !s.v.Dead && s.writeStream()
}

// room tells whether a path takes another frame.
func (s *Session) room(path int) bool {
	if !s.has(path) || !s.v.Paths.Lines[path].Up {
		return false
	}
	p := s.v.Pipes[path]
	return p.Send.Base+len(p.Send.Data)-p.Send.Next <= mostUnsent && pipe.Room(p) >= frameRoom
}

// put writes a frame into a path's pipe; one that can't be is nothing.
func (s *Session) put(path int, f frame.Frame) {
	if text, e := frame.Put(f); e == api.OK {
		s.v.Pipes[path], _ = pipe.Write(s.v.Pipes[path], text)
	}
}

// writeEcho writes the first echo.
func (s *Session) writeEcho() bool {
	path := paths.Best(s.v.Paths)
	if len(s.v.Echoes) == 0 || !s.room(path) {
		return false
	}
	f := s.v.Echoes[0]
	s.v.Echoes = slices.Delete(s.v.Echoes, 0, 1)
	s.put(path, f)
	return true
}

// writeOwed tells what came of the first stream of which it is owed.
func (s *Session) writeOwed() bool {
	path := paths.Best(s.v.Paths)
	if len(s.v.Owes) == 0 || !s.room(path) {
		return false
	}
	f := frame.Frame{Kind: frame.Came, Stream: s.v.Owes[0]}
	s.v.Owes = slices.Delete(s.v.Owes, 0, 1)
	recv := s.v.Control.Recv
	if at, there := s.find(f.Stream); there {
		recv = s.v.Streams[at].Recv
	}
	f.Offset = recv.Recv.Base
	f.Flag = recv.End == f.Offset
	s.put(path, f)
	return true
}

// writeControl writes bytes of the control stream.
func (s *Session) writeControl() bool {
	if !control.Want(s.v.Control) {
		return false
	}
	var path int
	s.v.Paths, path = paths.Pin(s.v.Paths)
	if !s.room(path) {
		return false
	}
	next, p, text, tells := control.Pick(s.v.Control, path, api.MaxChunk)
	if tells {
		s.v.Control = next
		s.put(path, frame.Frame{Kind: frame.Data, Offset: p.From, Data: text})
	}
	return tells
}

// writeStream writes bytes of the stream that is next.
func (s *Session) writeStream() bool {
	next, id := share.Pick(s.v.Share, s.tree, s.wanting())
	at, there := s.find(id)
	if !there {
		return false
	}
	s.v.Share = next
	var path int
	s.v.Paths, path = paths.Choose(s.v.Paths, id)
	was := s.v.Streams[at].Send.Next
	st, p, text, tells := strm.Pick(s.v.Streams[at], path, s.v.Hers.Chunk, credit.Free(s.v.Out))
	if !tells {
		return false
	}
	s.v.Streams[at] = st
	s.v.Out, _ = credit.Spend(s.v.Out, st.Send.Next-was)
	s.v.Share = share.Charge(s.v.Share, s.tree, id, len(text))
	s.put(path, frame.Frame{Kind: frame.Data, Flag: p.Fin, Stream: id, Offset: p.From, Data: text})
	return true
}

// wanting tells the streams that have something to send, and a path that takes it.
func (s *Session) wanting() []int {
	free := credit.Free(s.v.Out)
	var l []int
	for _, st := range s.v.Streams {
		if s.gated(st.ID) || !strm.Want(st, free) {
			continue
		}
		var path int
		if s.v.Paths, path = paths.Choose(s.v.Paths, st.ID); s.room(path) {
			l = append(l, st.ID)
		}
	}
	return l
}

// gated tells whether the other side may not know a stream yet.
func (s *Session) gated(id int) bool {
	return slices.ContainsFunc(s.v.Gates, func(g Gate) bool { return g.ID == id && g.At > s.v.Control.Send.Base })
}
