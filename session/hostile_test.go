package session

import (
	"math/rand"
	"testing"

	"sennit/api"
	"sennit/control"
	"sennit/credit"
	"sennit/frame"
	"sennit/paths"
	"sennit/share"
	"sennit/stid"
	"sennit/strm"
	"sennit/tune"
)

// sound asks for a session that is within its bounds (Theorem 3).
func sound(t *testing.T, s *Session) {
	t.Helper()
	v := s.Look()
	for i, e := range []api.Errno{
		control.Check(v.Control), stid.Check(v.IDs), share.Check(v.Share), paths.Check(v.Paths), credit.Check(v.In), credit.Check(v.Out), tune.Check(v.Mine), tune.Check(v.Hers),
	} {
		if e != api.OK {
			t.Fatal("a part that may not be", i, e)
		}
	}
	if len(v.Streams) > 16 || len(v.Nodes) > 24 || len(v.Closed) > 8 || len(v.Finals) > 32 || len(v.Streams) != len(v.IDs.Live) || v.In.Used-v.In.Read > v.In.Window {
		t.Fatal("beyond its bounds", v)
	}
	for i, st := range v.Streams {
		if e := strm.Check(st); e != api.OK || st.ID != v.IDs.Live[i] || st.In.Used-st.In.Read > st.In.Window {
			t.Fatal("a stream that may not be", e, st)
		}
	}
}

// wild tells a frame that a wrong end might send.
func wild(r *rand.Rand) frame.Frame {
	few := func(n int) int { return r.Intn(n) }
	f := frame.Frame{Kind: uint8(r.Intn(11)), Flag: r.Intn(3) == 0, Stream: few(14), Offset: few(40), Dep: few(14), Weight: 1 + few(256), N: few(300), Code: few(9) * few(2)}
	if r.Intn(9) == 0 {
		f.Offset, f.N = r.Intn(api.MaxOffset+1), r.Intn(1<<40)>>r.Intn(40)
	}
	switch f.Kind {
	case frame.Data:
		f.Dep, f.Weight, f.N, f.Code, f.Data = 0, 0, 0, 0, text(few(33))
	case frame.Headers, frame.Priority:
		f.Offset, f.N, f.Code = 0, 0, 0
	case frame.Reset:
		f.Flag, f.Offset, f.Dep, f.Weight = false, 0, 0, 0
	case frame.Settings:
		f = frame.Frame{Kind: f.Kind, Flag: f.Flag}
		if !f.Flag {
			f.Pairs = []api.Pair{{ID: few(6), Value: 1 + few(40)}}
		}
	case frame.Ping:
		f = frame.Frame{Kind: f.Kind, Flag: f.Flag, N: f.N}
	case frame.GoAway:
		f = frame.Frame{Kind: f.Kind, Stream: f.Stream, Code: f.Code * few(2)}
	case frame.Window:
		f = frame.Frame{Kind: f.Kind, Stream: f.Stream, N: 1 + f.N}
	case frame.Came:
		f = frame.Frame{Kind: f.Kind, Flag: f.Flag, Stream: f.Stream, Offset: f.Offset}
	case frame.Path:
		f = frame.Frame{Kind: f.Kind, N: few(2), Code: few(2) * few(2)}
	}
	return f
}

// P30.7, P30.8, P30.11
func TestWrongEnds(t *testing.T) {
	for seed := range int64(400) {
		r := rand.New(rand.NewSource(seed))
		x := against(t, r.Intn(2) == 0, tune.Values{Streams: r.Intn(9), Window: 1 + r.Intn(80), Whole: 1 + r.Intn(8000), Chunk: 1 + r.Intn(32)})
		for i := 0; i < 60 && !x.s.v.Dead; i++ {
			id := r.Intn(14)
			switch r.Intn(12) {
			case 0:
				x.s.Open(r.Intn(14), 1+r.Intn(256), r.Intn(3) == 0)
			case 1:
				x.s.Write(id, text(r.Intn(99)))
			case 2:
				x.s.Read(id, r.Intn(50))
			case 3:
				x.s.Close(id)
			case 4:
				if r.Intn(5) == 0 {
					x.s.Reset(id, r.Intn(256))
				}
			case 5:
				x.s.Tick(x.s.v.Now + 1 + r.Intn(3))
			case 6, 7:
				x.open(r.Intn(20))
			default:
				f := wild(r)
				if _, e := frame.Put(f); e != api.OK {
					continue
				}
				if f.Kind >= frame.Headers && f.Kind <= frame.Window {
					x.carry(f)
				} else {
					x.self(f)
				}
			}
			x.flush()
			sound(t, x.s)
		}
	}
}
