package paths

import (
	"math"
	"math/rand"
	"slices"
	"testing"

	"sennit/api"
	"sennit/gauge"
)

// good is a state with the paths 0 (no rate), 1 (2 by 1) and 3 (3 by 2) up, and 2 dead.
func good() State {
	return State{[4]Line{{Up: true}, {true, false, 20, 10}, {false, true, 99, 1}, {true, false, 30, 20}}, 3, []Bind{{2, 1}, {5, 3}, {9, 1}}}
}

// bad may not be.
func bad() State {
	st := good()
	st.Lines[0].Dead = true
	return st
}

// P28.1
func TestNewCheckAliveRatesSame(t *testing.T) {
	if !Same(New(), State{Pinned: -1}) || Check(New()) != api.OK || len(Alive(New())) != 0 {
		t.Error(New())
	}
	many := func(n int) (l []Bind) {
		for i := range n {
			l = append(l, Bind{i + 1, 0})
		}
		return l
	}
	for i, x := range []struct {
		f    func(*State)
		want api.Errno
	}{
		{func(s *State) {}, api.OK},
		{func(s *State) { s.Binds = many(32) }, api.OK},
		{func(s *State) { s.Lines[2].Bytes, s.Lines[2].Ticks, s.Pinned = 1<<40, 1<<40, -1 }, api.OK},
		{func(s *State) { s.Lines[0].Dead = true; s.Pinned = 9 }, api.ErrForm},
		{func(s *State) { s.Lines[2].Bytes = -1 }, api.ErrRange},
		{func(s *State) { s.Lines[2].Ticks = 1<<40 + 1 }, api.ErrRange},
		{func(s *State) { s.Pinned = 4 }, api.ErrRange},
		{func(s *State) { s.Pinned = -2 }, api.ErrRange},
		{func(s *State) { s.Binds[0].Stream = 0 }, api.ErrRange},
		{func(s *State) { s.Binds[2].Stream = api.MaxID + 1 }, api.ErrRange},
		{func(s *State) { s.Binds[0].Path = 4; s.Binds[1].Stream = 1 }, api.ErrRange},
		{func(s *State) { s.Binds[0].Path = -1 }, api.ErrRange},
		{func(s *State) { s.Binds = many(33) }, api.ErrRange},
		{func(s *State) { s.Binds[1].Stream = 2; s.Pinned = 2 }, api.ErrOrder},
		{func(s *State) { s.Binds[1].Stream = 1 }, api.ErrOrder},
		{func(s *State) { s.Pinned = 2 }, api.ErrState},
		{func(s *State) { s.Binds[0].Path = 2 }, api.ErrState},
	} {
		st := good()
		if x.f(&st); Check(st) != x.want || i > 0 && Same(st, good()) {
			t.Error(i, Check(st))
		}
	}
	if !slices.Equal(Alive(good()), []int{0, 1, 3}) {
		t.Error(Alive(good()))
	}
	if r := Rates(good()); len(r) != 4 || gauge.Kind(r[0]) != gauge.Nan || r[1] != 2 || gauge.Kind(r[2]) != gauge.Nan || r[3] != 1.5 {
		t.Error(r)
	}
}

// P28.2
func TestRiseFall(t *testing.T) {
	st, ok := Rise(New(), 1)
	if !ok || !slices.Equal(Alive(st), []int{1}) {
		t.Error(st)
	}
	for _, path := range []int{0, 1, 2, 3, 4, -1, math.MinInt} {
		if x, ok := Rise(good(), path); ok || !Same(x, good()) {
			t.Error(path)
		}
	}
	x, lost, ok := Fall(good(), 1)
	if !ok || !slices.Equal(lost, []int{2, 9}) || !slices.Equal(x.Binds, []Bind{{5, 3}}) || x.Pinned != 3 || x.Lines[1] != (Line{false, true, 20, 10}) {
		t.Error(x, lost)
	}
	if x, lost, ok := Fall(good(), 3); !ok || !slices.Equal(lost, []int{5}) || x.Pinned != -1 || Check(x) != api.OK {
		t.Error(x, lost)
	}
	for _, path := range []int{2, 4, -1, math.MaxInt} {
		if x, lost, ok := Fall(good(), path); ok || len(lost) != 0 || !Same(x, good()) {
			t.Error(path)
		}
	}
	if _, lost, ok := Fall(New(), 0); ok || len(lost) != 0 {
		t.Error("one that is not there yet")
	}
	if x, ok := Rise(bad(), 2); ok || !Same(x, bad()) {
		t.Error(ok)
	}
	if x, _, ok := Fall(bad(), 1); ok || !Same(x, bad()) {
		t.Error(ok)
	}
}

// P28.3
func TestNote(t *testing.T) {
	if x := Note(good(), 1, 1<<20, 0); x.Lines[1] != (Line{true, false, 20 + 1<<20, 10}) {
		t.Error(x)
	}
	for _, x := range [][3]int{{2, 1, 1}, {4, 1, 1}, {-1, 1, 1}, {1, -1, 1}, {1, 1, -1}, {1, 1<<20 + 1, 1}, {1, 1, 1<<20 + 1}, {1, math.MaxInt, math.MaxInt}} {
		if !Same(Note(good(), x[0], x[1], x[2]), good()) {
			t.Error(x)
		}
	}
	st := good()
	st.Lines[1].Bytes = 1<<30 - 1
	if x := Note(st, 1, 1, 1); x.Lines[1] != (Line{true, false, 1 << 30, 11}) {
		t.Error(x.Lines[1])
	}
	if x := Note(st, 1, 2, 1); x.Lines[1] != (Line{true, false, 1 << 29, 5}) {
		t.Error(x.Lines[1])
	}
	if !Same(Note(bad(), 1, 1, 1), bad()) {
		t.Error("a state that may not be")
	}
}

// P28.4
func TestBestChoosePinFree(t *testing.T) {
	if Best(good()) != 1 || Best(New()) != -1 || Best(bad()) != -1 {
		t.Error("Best")
	}
	st, _ := Rise(New(), 2)
	st, _ = Rise(st, 1)
	if Best(st) != 1 {
		t.Error("the first one that is up")
	}
	x, path := Choose(good(), 5)
	if path != 3 || !Same(x, good()) {
		t.Error(path)
	}
	x, path = Choose(good(), 7)
	if path != 1 || !slices.Equal(x.Binds, []Bind{{2, 1}, {5, 3}, {7, 1}, {9, 1}}) {
		t.Error(path, x)
	}
	for _, id := range []int{0, -1, api.MaxID + 1, math.MinInt} {
		if x, path := Choose(good(), id); path != -1 || !Same(x, good()) {
			t.Error(id)
		}
	}
	if x, path := Choose(New(), 7); path != -1 || !Same(x, New()) {
		t.Error(path)
	}
	full := good()
	full.Binds = nil
	for i := range 32 {
		full.Binds = append(full.Binds, Bind{i + 1, 0})
	}
	if x, path := Choose(full, 99); path != 1 || !Same(x, full) {
		t.Error(path)
	}
	if x, path := Choose(full, 7); path != 0 || !Same(x, full) {
		t.Error(path)
	}
	if x, path := Pin(good()); path != 3 || !Same(x, good()) {
		t.Error(path)
	}
	if x, path := Pin(st); path != 1 || x.Pinned != 1 {
		t.Error(path)
	}
	if x, path := Pin(New()); path != -1 || !Same(x, New()) {
		t.Error(path)
	}
	if x := Free(good(), 5); !slices.Equal(x.Binds, []Bind{{2, 1}, {9, 1}}) || len(good().Binds) != 3 || !Same(Free(good(), 6), good()) {
		t.Error(x)
	}
	a, n := Choose(bad(), 5)
	b, m := Pin(bad())
	if n != -1 || m != -1 || !Same(a, bad()) || !Same(b, bad()) || !Same(Free(bad(), 5), bad()) {
		t.Error("a state that may not be")
	}
}

// P28.5
func TestBoundStaysSo(t *testing.T) {
	r := rand.New(rand.NewSource(28))
	for range 200 {
		st := New()
		bound := map[int]int{}
		for range 80 {
			path, id := r.Intn(5), 1+r.Intn(40)
			switch r.Intn(9) {
			case 0:
				st, _ = Rise(st, path)
			case 1:
				if r.Intn(4) == 0 {
					var lost []int
					st, lost, _ = Fall(st, path)
					for _, id := range lost {
						if bound[id] != path {
							t.Fatal(id, path)
						}
						delete(bound, id)
					}
				}
			case 2, 3:
				st = Note(st, path, r.Intn(100), r.Intn(9))
			case 4:
				st = Free(st, id)
				delete(bound, id)
			default:
				was, there := bound[id]
				var got int
				st, got = Choose(st, id)
				if there && got != was || got >= 0 && !st.Lines[got].Up || (got < 0) != (len(Alive(st)) == 0) {
					t.Fatal(id, got, was)
				}
				if got >= 0 && (there || len(bound) < 32) {
					bound[id] = got
				}
			}
			if Check(st) != api.OK || len(st.Binds) != len(bound) {
				t.Fatal(st)
			}
		}
	}
}

// P28.3: nothing may be noted; ticks are halved, too.
func TestNoteEdges(t *testing.T) {
	if x := Note(good(), 1, 0, 5); x.Lines[1] != (Line{true, false, 20, 15}) {
		t.Error(x)
	}
	st := good()
	st.Lines[1].Ticks = 1 << 30
	if x := Note(st, 1, 0, 0); x.Lines[1].Ticks != 1<<30 {
		t.Error(x.Lines[1])
	}
	if x := Note(st, 1, 0, 1); x.Lines[1] != (Line{true, false, 10, 1 << 29}) {
		t.Error(x.Lines[1])
	}
}

// P28.5: no call changes what it is given, nor its list's spare room.
func TestNothingIsChanged(t *testing.T) {
	spare := make([]Bind, 0, 8)
	st := good()
	st.Binds = append(spare, st.Binds...)
	calls := []func() State{
		func() State { x, _ := Rise(st, 0); return x },
		func() State { x, _, _ := Fall(st, 1); return x },
		func() State { x, _, _ := Fall(st, 2); return x },
		func() State { return Note(st, 1, 1, 1) },
		func() State { x, _ := Choose(st, 3); return x },
		func() State { x, _ := Choose(st, 0); return x },
		func() State { x, _ := Pin(st); return x },
		func() State { return Free(st, 5) },
		func() State { return Free(st, 6) },
	}
	for i, call := range calls {
		x := call()
		for j := range x.Binds {
			x.Binds[j].Path = 77
		}
		if !Same(st, good()) || spare[:4][3] != (Bind{}) {
			t.Error(i, st)
		}
	}
}
