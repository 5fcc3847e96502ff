package shake

import (
	"math"
	"math/rand"
	"testing"

	"sennit/api"
	"sennit/segment"
)

const (
	syn   = segment.Syn
	ack   = segment.Ack
	reset = segment.Reset
	probe = segment.Probe
)

// seg makes a segment of path 1 and epoch 2.
func seg(flags uint8, seq, number uint32) segment.Segment {
	return segment.Segment{Flags: flags, Path: 1, Epoch: 2, Seq: seq, Ack: number}
}

// P13.1
func TestNewCheckFits(t *testing.T) {
	if New(1, 2, 3) != (State{Closed, 1, 2, 3, 0}) || Closed != 0 || Asked != 1 || Heard != 2 || Up != 3 || Dead != 4 {
		t.Error(New(1, 2, 3))
	}
	for _, x := range []struct {
		st   State
		want api.Errno
	}{
		{State{Dead, 3, 65535, 1, 1}, api.OK}, {State{Up, 0, 0, 0, 9}, api.OK}, {State{Heard, 0, 0, 0, 9}, api.OK},
		{State{9, 4, 0, 0, 0}, api.ErrRange}, {State{0, -1, 0, 0, 0}, api.ErrRange}, {State{0, 0, 65536, 0, 0}, api.ErrRange}, {State{0, 0, math.MinInt, 0, 0}, api.ErrRange},
		{State{5, 0, 0, 0, 0}, api.ErrKind}, {State{255, 0, 0, 0, 1}, api.ErrKind}, {State{Closed, 0, 0, 0, 1}, api.ErrForm}, {State{Asked, 0, 0, 0, 1}, api.ErrForm},
	} {
		if Check(x.st) != x.want {
			t.Error(x)
		}
	}
	st := New(1, 2, 3)
	if !Fits(st, seg(syn, 0, 0)) || Fits(st, seg(32, 0, 0)) || Fits(New(0, 2, 3), seg(syn, 0, 0)) || Fits(New(1, 1, 3), seg(syn, 0, 0)) || Fits(st, seg(syn, 0, 1)) {
		t.Error("Fits")
	}
}

// P13.2
func TestAskKill(t *testing.T) {
	for stage := Closed; stage <= Dead; stage++ {
		st := State{Stage: stage, Path: 1, Epoch: 2, Mine: 3}
		want := st
		if stage == Closed {
			want.Stage = Asked
		}
		if Ask(st) != want {
			t.Error(stage, Ask(st))
		}
		want.Stage = Dead
		if Kill(st) != want {
			t.Error(stage, Kill(st))
		}
	}
	bad := State{Path: 9}
	if Ask(bad) != bad || Kill(bad) != bad {
		t.Error("an end that may not be")
	}
}

// P13.3
func TestOn(t *testing.T) {
	const top = math.MaxUint32
	for i, x := range []struct {
		stage      uint8
		mine, hers uint32
		x          segment.Segment
		want       uint8
		wantHers   uint32
	}{
		{Closed, 5, 0, seg(syn, 70, 0), Heard, 70},
		{Closed, 5, 0, seg(syn|ack, 70, 6), Closed, 0},
		{Closed, 5, 0, seg(ack, 70, 6), Closed, 0},
		{Closed, 5, 0, seg(reset, 70, 0), Closed, 0},
		{Closed, 5, 0, seg(reset|syn, 70, 0), Dead, 0},
		{Asked, 5, 0, seg(syn|ack, 70, 6), Up, 70},
		{Asked, top, 0, seg(syn|ack, 70, 0), Up, 70},
		{Asked, 5, 0, seg(syn|ack, 70, 7), Asked, 0},
		{Asked, 5, 0, seg(syn, 70, 0), Heard, 70},
		{Asked, top, 0, seg(syn, 70, 0), Heard, 70}, // the number behind Mine is 0, but nothing is acknowledged
		{Asked, 5, 0, seg(ack, 70, 6), Asked, 0},
		{Asked, 5, 0, seg(reset, 70, 0), Dead, 0},
		{Heard, 5, 70, seg(ack, 71, 6), Up, 70},
		{Heard, 5, 70, seg(ack, 71, 5), Heard, 70},
		{Heard, 5, 70, seg(ack, 70, 6), Heard, 70},
		{Heard, 5, 70, seg(ack|syn, 70, 6), Up, 70},
		{Heard, 5, 70, seg(ack|syn, 69, 6), Heard, 70},
		{Heard, 5, 70, seg(ack, 70+1<<31, 5+1<<31), Up, 70},
		{Heard, 5, 70, seg(ack, 71+1<<31, 6), Heard, 70},
		{Heard, 5, 70, seg(ack, 71, 6+1<<31), Heard, 70},
		{Heard, 5, 70, seg(syn, 71, 0), Heard, 70},
		{Heard, 5, 70, seg(probe, 71, 0), Heard, 70},
		{Heard, 5, 70, seg(reset|ack, 71, 6), Dead, 70},
		{Up, 5, 70, seg(syn|ack, 99, 6), Up, 70},
		{Up, 5, 70, seg(reset, 0, 0), Dead, 70},
		{Dead, 5, 70, seg(syn, 99, 0), Dead, 70},
	} {
		got := On(State{x.stage, 1, 2, x.mine, x.hers}, x.x)
		if got != (State{x.want, 1, 2, x.mine, x.wantHers}) {
			t.Error(i, got)
		}
	}
	other := seg(reset, 0, 0)
	other.Epoch = 3
	if st := (State{Up, 1, 2, 5, 70}); On(st, other) != st {
		t.Error("one that does not fit")
	}
	if bad := (State{9, 1, 2, 5, 70}); On(bad, seg(reset, 0, 0)) != bad {
		t.Error("an end that may not be")
	}
}

// P13.4
func TestOut(t *testing.T) {
	for stage := Closed; stage <= Dead+1; stage++ {
		st := State{Stage: stage, Path: 1, Epoch: 2, Mine: 3}
		if stage > Asked {
			st.Hers = math.MaxUint32
		}
		want, tells := segment.Segment{}, stage == Asked || stage == Heard
		if tells {
			want = segment.Segment{Flags: syn, Path: 1, Epoch: 2, Seq: 3, Window: 65535}
		}
		if stage == Heard {
			want.Flags |= ack // the number behind Hers is 0
		}
		if x, ok := Out(st); ok != tells || !segment.Same(x, want) {
			t.Error(stage, x, ok)
		}
	}
	if x, _ := Out(State{Heard, 1, 2, 3, 8}); x.Ack != 9 {
		t.Error(x)
	}
	if x, ok := Out(State{Asked, 1, 2, 3, 8}); ok || x.Flags != 0 {
		t.Error("an end that may not be")
	}
}

// P13.5
func TestRun(t *testing.T) {
	st := New(1, 2, 5)
	if x := Run(st, []segment.Segment{seg(ack, 1, 1), seg(syn, 70, 0), seg(ack, 71, 6)}); x != (State{Up, 1, 2, 5, 70}) {
		t.Error(x)
	}
	if Run(st, nil) != st {
		t.Error("none")
	}
}

// P13.6
func TestBothComeUp(t *testing.T) {
	r := rand.New(rand.NewSource(14))
	for range 300 {
		ends := [2]State{Ask(New(1, 2, r.Uint32())), New(1, 2, r.Uint32())}
		if r.Intn(3) == 0 {
			ends[1] = Ask(ends[1])
		}
		mine := [2]uint32{ends[0].Mine, ends[1].Mine}
		for range 60 {
			i := r.Intn(2)
			x, ok := Out(ends[i])
			if ends[i].Stage == Up { // what a pipe sends then
				x, ok = seg(ack, ends[i].Mine+1, ends[i].Hers+1), true
			}
			if ok && r.Intn(3) > 0 {
				was := ends[1-i]
				ends[1-i] = On(was, x)
				if was.Hers != 0 && ends[1-i].Hers != was.Hers {
					t.Fatal("Hers did not stay")
				}
			}
		}
		if ends[0].Stage != Up || ends[1].Stage != Up || ends[0].Hers != mine[1] || ends[1].Hers != mine[0] {
			t.Fatal(ends)
		}
		dead := Kill(ends[0])
		for range 5 {
			dead = On(Ask(dead), seg(uint8(r.Intn(32)), r.Uint32(), 0))
		}
		if dead.Stage != Dead {
			t.Fatal(dead)
		}
	}
}
