package stid

import (
	"math"
	"math/rand"
	"slices"
	"testing"

	"sennit/api"
	"sennit/rules"
)

// good is a state that may be, of odd numbers.
func good() State {
	return State{true, 9, 6, []int{1, 2, 7}, []int{4, 3}, 8, 8, -1, -1}
}

// P22.1
func TestNewCheckOwnCountSame(t *testing.T) {
	if st, e := New(true, 8, 0); e != api.OK || !Same(st, State{true, 1, 0, nil, nil, 8, 0, -1, -1}) {
		t.Error(st, e)
	}
	if st, e := New(false, 0, 8); e != api.OK || !Same(st, State{false, 2, 0, nil, nil, 0, 8, -1, -1}) {
		t.Error(st, e)
	}
	for _, x := range [][2]int{{9, 1}, {-1, 1}, {1, 9}, {1, -1}, {math.MaxInt, math.MinInt}} {
		if st, e := New(true, x[0], x[1]); e != api.ErrRange || !Same(st, State{}) {
			t.Error(x, e)
		}
	}
	for i, x := range []struct {
		f    func(*State)
		want api.Errno
	}{
		{func(s *State) {}, api.OK},
		{func(s *State) { s.Next = api.MaxID + 1 }, api.OK},
		{func(s *State) { s.Last = api.MaxID }, api.OK},
		{func(s *State) { s.Heard = api.MaxID; s.Told = 0 }, api.OK},
		{func(s *State) { s.Next = 8 }, api.ErrRange},
		{func(s *State) { s.Next = -1 }, api.ErrRange},
		{func(s *State) { s.Next = 0 }, api.ErrRange},
		{func(s *State) { s.Next = api.MaxID + 3 }, api.ErrRange},
		{func(s *State) { s.Last = 5 }, api.ErrRange},
		{func(s *State) { s.Last = -2 }, api.ErrRange},
		{func(s *State) { s.Last = api.MaxID + 2 }, api.ErrRange},
		{func(s *State) { s.Mine = 9 }, api.ErrRange},
		{func(s *State) { s.Hers = -1 }, api.ErrRange},
		{func(s *State) { s.Heard = -2 }, api.ErrRange},
		{func(s *State) { s.Told = api.MaxID + 1 }, api.ErrRange},
		{func(s *State) { s.Live = []int{1, 1}; s.Cut = []int{1} }, api.ErrForm},
		{func(s *State) { s.Live = []int{2, 1} }, api.ErrForm},
		{func(s *State) { s.Live = []int{9} }, api.ErrForm},
		{func(s *State) { s.Live = []int{8} }, api.ErrForm},
		{func(s *State) { s.Live = []int{0} }, api.ErrForm},
		{func(s *State) { s.Live = []int{-3} }, api.ErrForm},
		{func(s *State) {
			s.Next, s.Live = 101, nil
			for i := range 17 {
				s.Live = append(s.Live, 2*i+1)
			}
		}, api.ErrForm},
		{func(s *State) { s.Cut = []int{4, 4} }, api.ErrOrder},
		{func(s *State) { s.Cut = []int{2} }, api.ErrOrder},
		{func(s *State) { s.Cut = []int{9} }, api.ErrOrder},
		{func(s *State) { s.Cut = []int{0} }, api.ErrOrder},
		{func(s *State) { s.Next, s.Cut = 101, []int{11, 13, 15, 17, 19, 21, 23, 25, 27} }, api.ErrOrder},
	} {
		st := good()
		if x.f(&st); Check(st) != x.want || i > 0 && Same(st, good()) {
			t.Error(i, Check(st))
		}
	}
	for id, odd := range map[int]bool{1: true, 2: false, 7: true} {
		if Own(good(), id) != odd || Own(State{}, id) == odd {
			t.Error(id)
		}
	}
	for _, id := range []int{0, -1, -2, math.MinInt} {
		if Own(good(), id) || Own(State{}, id) {
			t.Error(id)
		}
	}
	if a, b := Count(good()); a != 2 || b != 1 {
		t.Error(a, b)
	}
}

// P22.2
func TestOpen(t *testing.T) {
	st, id, e := Open(good())
	if id != 9 || e != api.OK || st.Next != 11 || !slices.Equal(st.Live, []int{1, 2, 7, 9}) {
		t.Error(st, id, e)
	}
	for i, x := range []struct {
		f    func(*State)
		want api.Errno
	}{
		{func(s *State) { s.Next = 8; s.Told = 0 }, api.ErrRange},
		{func(s *State) { s.Heard = 0; s.Mine = 0 }, api.ErrDrain},
		{func(s *State) { s.Told = 0 }, api.ErrDrain},
		{func(s *State) { s.Mine = 2; s.Next = api.MaxID + 1 }, api.ErrFull},
		{func(s *State) { s.Mine = 1 }, api.ErrFull},
		{func(s *State) { s.Next = api.MaxID + 1 }, api.ErrRange},
	} {
		st := good()
		x.f(&st)
		if y, id, e := Open(st); e != x.want || id != 0 || !Same(y, st) {
			t.Error(i, id, e)
		}
	}
	even, _ := New(false, 8, 8)
	even.Next = api.MaxID
	if _, id, e := Open(even); id != api.MaxID || e != api.OK {
		t.Error(id, e)
	}
}

// P22.3
func TestBegin(t *testing.T) {
	session := func(c api.Code) rules.Verdict { return rules.Verdict{Scope: rules.Session, Code: c} }
	for _, x := range []struct {
		id   int
		want rules.Verdict
	}{
		{0, session(api.Protocol)}, {-2, session(api.Protocol)}, {9, session(api.Protocol)}, {1, session(api.Protocol)}, {api.MaxID + 2, session(api.Protocol)},
		{2, session(api.Protocol)}, {4, session(api.StreamClosed)}, {6, session(api.StreamClosed)}, {math.MinInt, session(api.Protocol)}, {math.MaxInt, session(api.Protocol)},
	} {
		if st, v := Begin(good(), x.id); v != x.want || !Same(st, good()) {
			t.Error(x, v)
		}
	}
	st, v := Begin(good(), 10)
	if v != (rules.Verdict{}) || st.Last != 10 || !slices.Equal(st.Live, []int{1, 2, 7, 10}) {
		t.Error(st, v)
	}
	full := good()
	full.Hers, full.Cut = 1, []int{4, 3, 6, 5}
	st, v = Begin(full, 8)
	if v != (rules.Verdict{Scope: rules.Stream, Code: api.Refused}) || st.Last != 8 || !slices.Equal(st.Live, full.Live) || !slices.Equal(st.Cut, []int{4, 3, 6, 5, 8}) {
		t.Error(st, v)
	}
	away := good()
	away.Told, away.Hers = 6, 0
	st, v = Begin(away, api.MaxID)
	if v != (rules.Verdict{Scope: rules.Ignored}) || st.Last != api.MaxID || !slices.Equal(st.Live, away.Live) || !slices.Equal(st.Cut, away.Cut) {
		t.Error(st, v)
	}
	bad := good()
	bad.Next = 8
	if st, v := Begin(bad, 10); v != session(api.Internal) || !Same(st, bad) {
		t.Error(v)
	}
}

// P22.4
func TestEndClass(t *testing.T) {
	if st := End(good(), 7, false); !slices.Equal(st.Live, []int{1, 2}) || !slices.Equal(st.Cut, []int{4, 3}) {
		t.Error(st)
	}
	if st := End(good(), 2, true); !slices.Equal(st.Live, []int{1, 7}) || !slices.Equal(st.Cut, []int{4, 3, 2}) {
		t.Error(st)
	}
	full := good()
	full.Next, full.Cut = 101, []int{11, 13, 15, 17, 19, 21, 23, 25}
	if st := End(full, 2, true); !slices.Equal(st.Cut, []int{13, 15, 17, 19, 21, 23, 25, 2}) {
		t.Error(st)
	}
	for _, id := range []int{0, 4, 9, -1} {
		if !Same(End(good(), id, true), good()) {
			t.Error(id)
		}
	}
	bad := good()
	bad.Next = 8
	if !Same(End(bad, 1, true), bad) {
		t.Error("a state that may not be")
	}
	for id, want := range map[int]uint8{
		0: rules.Control, 1: rules.Open, 2: rules.Open, 3: rules.Cut, 4: rules.Cut, 5: rules.Gone, 6: rules.Gone, 8: rules.Idle, 9: rules.Wrong, 99: rules.Wrong,
		api.MaxID: rules.Idle, api.MaxID + 1: rules.Wrong, api.MaxID + 2: rules.Wrong, -1: rules.Wrong, -2: rules.Wrong,
	} {
		if Class(good(), id) != want {
			t.Error(id, Class(good(), id))
		}
	}
}

// P22.5
func TestAwayShut(t *testing.T) {
	st, lost, ok := Away(good(), 1)
	if !ok || st.Heard != 1 || !slices.Equal(lost, []int{7}) || !slices.Equal(st.Live, []int{1, 2}) || !slices.Equal(st.Cut, []int{4, 3}) {
		t.Error(st, lost, ok)
	}
	if x, lost, ok := Away(st, 0); !ok || x.Heard != 0 || !slices.Equal(lost, []int{1}) {
		t.Error(x, lost, ok)
	}
	for _, last := range []int{2, -1, api.MaxID + 1, math.MinInt} {
		if x, lost, ok := Away(st, last); ok || lost != nil || !Same(x, st) {
			t.Error(last)
		}
	}
	if x, lost, ok := Away(good(), api.MaxID); !ok || len(lost) != 0 || x.Heard != api.MaxID {
		t.Error(x)
	}
	st, n := Shut(good())
	if n != 6 || st.Told != 6 {
		t.Error(n)
	}
	st.Last = 8
	if x, n := Shut(st); n != 6 || !Same(x, st) {
		t.Error(n)
	}
	bad := good()
	bad.Next = 8
	if x, n := Shut(bad); n != -1 || !Same(x, bad) {
		t.Error(n)
	}
	if x, _, ok := Away(bad, 0); ok || !Same(x, bad) {
		t.Error(ok)
	}
}

// P22.6
func TestMayStillBe(t *testing.T) {
	r := rand.New(rand.NewSource(22))
	for range 100 {
		st, _ := New(r.Intn(2) == 0, r.Intn(9), r.Intn(9))
		seen := map[int]int{}
		shut := false
		for range 150 {
			switch id := r.Intn(60); r.Intn(20) {
			case 0, 1, 2, 3, 4, 5:
				var e api.Errno
				if st, id, e = Open(st); e == api.OK {
					seen[id]++
				}
			case 6, 7, 8, 9, 10, 11:
				var v rules.Verdict
				if st, v = Begin(st, st.Last+r.Intn(4)); v.Scope == rules.Fine {
					if seen[st.Last]++; shut {
						t.Fatal("one began behind Shut")
					}
				}
			case 12:
				if r.Intn(9) == 0 {
					st, _, _ = Away(st, id)
				}
			case 13:
				if r.Intn(9) == 0 {
					st, _ = Shut(st)
					shut = true
				}
			default:
				st = End(st, id, r.Intn(2) == 0)
			}
			if e := Check(st); e != api.OK {
				t.Fatal(e, st)
			}
		}
		for id, n := range seen {
			if n != 1 {
				t.Fatal(id, n)
			}
		}
	}
}

// P22.1, P22.3, P22.4, P22.5: edges.
func TestEdges(t *testing.T) {
	even, _ := New(false, 8, 8)
	even.Next = api.MaxID + 2
	if Check(even) != api.OK {
		t.Error("all even numbers were opened")
	}
	if st, v := Begin(even, 1); v.Scope != rules.Fine || !slices.Equal(st.Live, []int{1}) {
		t.Error(v)
	}
	if even.Next++; Check(even) != api.ErrRange {
		t.Error("an odd number is not its own")
	}
	full := good()
	full.Next, full.Live = 101, nil
	for i := range 16 {
		full.Live = append(full.Live, 2*i+5)
	}
	if Check(full) != api.OK {
		t.Error("sixteen may be")
	}
	if st := End(good(), 1, false); !slices.Equal(st.Live, []int{2, 7}) {
		t.Error(st)
	}
	gone := good()
	gone.Heard = 3
	if st, lost, ok := Away(gone, 3); !ok || st.Heard != 3 || !slices.Equal(lost, []int{7}) {
		t.Error(st, lost, ok)
	}
}

// P22.6: no call changes what it is given, nor its lists' spare room.
func TestNothingIsChanged(t *testing.T) {
	live, cut := append(make([]int, 0, 16), 1, 2, 7), append(make([]int, 0, 16), 4, 3)
	st := good()
	st.Live, st.Cut = live, cut
	calls := []func() State{
		func() State { x, _, _ := Open(st); return x },
		func() State { x, _ := Begin(st, 10); return x },
		func() State { x := st; x.Hers = 0; x, _ = Begin(x, 10); return x },
		func() State { return End(st, 2, true) },
		func() State { return End(st, 99, true) },
		func() State { x, _, _ := Away(st, 1); return x },
		func() State { x, _, _ := Away(st, -1); return x },
		func() State { x, _ := Shut(st); return x },
	}
	for i, call := range calls {
		x := call()
		for j := range x.Live {
			x.Live[j] = 77
		}
		for j := range x.Cut {
			x.Cut[j] = 77
		}
		if !Same(st, good()) || live[:4][3] != 0 || cut[:3][2] != 0 {
			t.Error(i, st)
		}
	}
}
