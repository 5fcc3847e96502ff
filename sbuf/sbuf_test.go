package sbuf

import (
	"math"
	"math/rand"
	"strings"
	"testing"

	"sennit/api"
	"sennit/ivals"
)

// set tells the intervals from and to pairs of numbers.
func set(l ...int) (s ivals.Set) {
	for i := 0; i < len(l); i += 2 {
		s = append(s, ivals.Ival{From: l[i], To: l[i+1]})
	}
	return s
}

// text tells n bytes.
func text(n int) string { return strings.Repeat("abcdefg", n/7+1)[:n] }

// good is a state whose end went: 10 to 20 over path 0, 20 to 25 lost, 25 to 30 with the end over path 1.
func good() State {
	return State{10, text(20), 30, []Piece{{10, 20, 0, false}, {25, 30, 1, true}}, set(20, 25), true, true, false, false}
}

// P23.1
func TestNewCheckRoomOverSame(t *testing.T) {
	if !Same(New(), State{}) || Check(New()) != api.OK || Room(New()) != 4096 || Over(New()) {
		t.Error(New())
	}
	for i, x := range []struct {
		f    func(*State)
		want api.Errno
	}{
		{func(s *State) {}, api.OK},
		{func(s *State) { s.Pieces = []Piece{{10, 20, 0, false}, {25, 30, 0, false}, {30, 30, 3, true}} }, api.OK},
		{func(s *State) { s.Pieces[1].Fin, s.Again = false, true }, api.OK},
		{func(s *State) { s.Pieces[1].Fin, s.Done = false, true }, api.OK},
		{func(s *State) { s.Base = -1 }, api.ErrRange},
		{func(s *State) { s.Base = math.MaxInt }, api.ErrRange},
		{func(s *State) { s.Base = api.MaxOffset - api.MaxPipe + 1 }, api.ErrRange},
		{func(s *State) { s.Next = 9; s.Data = text(5000) }, api.ErrRange},
		{func(s *State) { s.Next = 31 }, api.ErrRange},
		{func(s *State) { s.Data = text(4097); s.Lost = set(3, 1) }, api.ErrLong},
		{func(s *State) { s.Lost = set(3, 1); s.Pieces = []Piece{{}} }, api.ErrForm},
		{func(s *State) { s.Lost = set(9, 10) }, api.ErrForm},
		{func(s *State) { s.Lost = set(30, 31) }, api.ErrForm},
		{func(s *State) { s.Pieces[0].From = 9 }, api.ErrOrder},
		{func(s *State) { s.Pieces[1].To = 31 }, api.ErrOrder},
		{func(s *State) { s.Pieces[0].To = 21 }, api.ErrOrder},
		{func(s *State) { s.Lost = nil; s.Pieces[0].To = 26 }, api.ErrOrder},
		{func(s *State) { s.Pieces[0].To = 10; s.Closed = false }, api.ErrOrder},
		{func(s *State) { s.Pieces[0] = Piece{math.MaxInt, math.MinInt, 0, false} }, api.ErrOrder},
		{func(s *State) { s.Pieces[0].Path = 4 }, api.ErrOrder},
		{func(s *State) { s.Pieces[0].Path = -1 }, api.ErrOrder},
		{func(s *State) { s.Closed = false }, api.ErrState},
		{func(s *State) { s.Sent = false }, api.ErrState},
		{func(s *State) { s.Pieces[1].Fin = false }, api.ErrState},
		{func(s *State) { s.Pieces[1].Fin, s.Again, s.Done = false, true, true }, api.ErrState},
		{func(s *State) { s.Pieces[1].Fin, s.Again, s.Sent = false, true, false }, api.ErrState},
		{func(s *State) { s.Pieces[1].Fin, s.Done, s.Sent = false, true, false }, api.ErrState},
		{func(s *State) { s.Pieces[0].Fin = true; s.Pieces[1].Fin = false }, api.ErrState},
		{func(s *State) { s.Again = true }, api.ErrState},
		{func(s *State) { s.Pieces = []Piece{{22, 22, 1, true}} }, api.ErrState}, // it has no place, so none of Lost
		{func(s *State) { s.Data = text(21); s.Pieces[1].Fin, s.Again = false, true }, api.ErrState},
	} {
		st := good()
		if x.f(&st); Check(st) != x.want || i > 0 && Same(st, good()) {
			t.Error(i, Check(st))
		}
	}
	if Room(good()) != 0 || Room(State{Data: "abc"}) != 4093 || Over(State{Data: "a", Done: true}) || !Over(State{Done: true}) {
		t.Error("Room, Over")
	}
}

// P23.2
func TestWriteClose(t *testing.T) {
	st, n := Write(New(), "abc")
	if n != 3 || st.Data != "abc" {
		t.Error(n, st)
	}
	if x, n := Write(st, text(5000)); n != 4093 || Room(x) != 0 {
		t.Error(n)
	}
	st = Close(st)
	if !st.Closed || Check(st) != api.OK {
		t.Error(st)
	}
	if x, n := Write(st, "d"); n != 0 || !Same(x, st) {
		t.Error(n)
	}
	bad := State{Next: 5}
	if x, n := Write(bad, "d"); n != 0 || !Same(x, bad) || Close(bad).Closed {
		t.Error(n)
	}
	top := api.MaxOffset - api.MaxPipe
	late := State{Base: top - 5, Data: "ab", Next: top - 5}
	if _, n := Write(late, "cde"); n != 3 {
		t.Error(n)
	}
	if x, n := Write(late, "cdef"); n != 0 || !Same(x, late) {
		t.Error(n)
	}
}

// P23.3
func TestPick(t *testing.T) {
	st, _ := Write(New(), "abc")
	st = Close(st)
	x, p, s, ok := Pick(st, 0, 9, 9)
	if p != (Piece{0, 3, 0, true}) || s != "abc" || !ok || !x.Sent || x.Next != 3 {
		t.Error(p, s, ok)
	}
	x = Dead(x, 0)
	if y, p, s, ok := Pick(x, 1, 9, 0); p != (Piece{0, 3, 1, true}) || s != "abc" || !ok || len(y.Lost) != 0 || y.Again {
		t.Error(p, s, ok)
	}
	y, p, s, ok := Pick(x, 2, 2, 0)
	if p != (Piece{0, 2, 2, false}) || s != "ab" || !ok || !ivals.Same(y.Lost, set(2, 3)) || !y.Again {
		t.Error(p, s, ok, y)
	}
	if _, p, s, _ := Pick(y, 2, 2, 0); p != (Piece{2, 3, 2, true}) || s != "c" {
		t.Error(p, s)
	}
	for _, x := range []struct{ path, most, limit int }{{-1, 9, 9}, {4, 9, 9}, {0, 0, 9}, {0, -1, 9}, {0, 9, 0}, {0, 9, -1}, {0, 9, math.MinInt}, {math.MinInt, math.MinInt, 9}} {
		if y, p, s, ok := Pick(st, x.path, x.most, x.limit); ok || s != "" || p != (Piece{}) || !Same(y, st) {
			t.Error(x, p)
		}
	}
	y, p, s, ok = Pick(st, 3, math.MaxInt, 2)
	if p != (Piece{0, 2, 3, false}) || s != "ab" || !ok || y.Sent {
		t.Error(p, s)
	}
	if _, _, _, ok := Pick(y, 3, 9, 2); ok {
		t.Error("beyond the limit")
	}
	open, _ := Write(New(), "abc")
	open, p, _, _ = Pick(open, 0, 9, math.MaxInt)
	if p.Fin {
		t.Error("it is not closed")
	}
	if _, _, _, ok := Pick(open, 0, 9, 9); ok {
		t.Error("nothing is left")
	}
	shut, p, s, ok := Pick(Close(open), 1, 1, 0)
	if p != (Piece{3, 3, 1, true}) || s != "" || !ok || len(shut.Pieces) != 2 || Check(shut) != api.OK {
		t.Error(p, s, ok, shut)
	}
	// The end went by itself; the bytes ahead of it are lost, and go again in their place.
	if y, p, _, _ := Pick(Dead(shut, 0), 2, 9, 0); p != (Piece{0, 3, 2, false}) || y.Pieces[0] != p || y.Pieces[1].Path != 1 || Check(y) != api.OK {
		t.Error(p, y)
	}
	if _, p, _, ok := Pick(Dead(shut, 1), 2, 9, 0); p != (Piece{3, 3, 2, true}) || !ok {
		t.Error(p)
	}
	if _, _, _, ok := Pick(State{Next: 5}, 0, 9, 9); ok {
		t.Error("a state that may not be")
	}
	got, p, s, ok := Pick(good(), 2, 3, 0)
	if p != (Piece{20, 23, 2, false}) || s != text(20)[10:13] || !ok || got.Pieces[1] != p || Check(got) != api.OK {
		t.Error(p, got)
	}
}

// P23.4
func TestCame(t *testing.T) {
	for i, x := range []struct {
		upto int
		fin  bool
		want State
	}{
		{15, false, State{15, text(20)[5:], 30, []Piece{{15, 20, 0, false}, {25, 30, 1, true}}, set(20, 25), true, true, false, false}},
		{20, false, State{20, text(20)[10:], 30, []Piece{{25, 30, 1, true}}, set(20, 25), true, true, false, false}},
		{27, false, State{27, text(20)[17:], 30, []Piece{{27, 30, 1, true}}, nil, true, true, false, false}},
		{30, false, State{30, "", 30, []Piece{{30, 30, 1, true}}, nil, true, true, false, false}},
		{30, true, State{30, "", 30, nil, nil, true, true, false, true}},
		{9, false, good()}, {0, false, good()}, {-1, false, good()}, {31, false, good()}, {29, true, good()}, {math.MinInt, false, good()}, {math.MaxInt, true, good()},
	} {
		if got := Came(good(), x.upto, x.fin); !Same(got, x.want) {
			t.Error(i, got)
		}
	}
	again := Dead(good(), 1)
	if got := Came(again, 30, true); got.Again || !got.Done || !Over(got) || Check(got) != api.OK {
		t.Error(got)
	}
	open := State{Data: "abc", Next: 3, Closed: true, Pieces: []Piece{{0, 3, 0, false}}}
	if got := Came(open, 3, true); !Same(got, open) {
		t.Error("the end did not go")
	}
	if bad := (State{Next: 3}); !Same(Came(bad, 3, false), bad) {
		t.Error("a state that may not be")
	}
}

// P23.5
func TestDeadWant(t *testing.T) {
	if got := Dead(good(), 0); !Same(got, State{10, text(20), 30, []Piece{{25, 30, 1, true}}, set(10, 25), true, true, false, false}) {
		t.Error(got)
	}
	if got := Dead(good(), 1); !Same(got, State{10, text(20), 30, []Piece{{10, 20, 0, false}}, set(20, 30), true, true, true, false}) {
		t.Error(got)
	}
	for _, path := range []int{-1, 2, 4, math.MinInt} {
		if !Same(Dead(good(), path), good()) {
			t.Error(path)
		}
	}
	bad := good()
	bad.Closed = false
	if !Same(Dead(bad, 0), bad) || Want(bad, 99) {
		t.Error("a state that may not be")
	}
	st, _ := Write(New(), "abc")
	if !Want(st, 1) || Want(st, 0) || Want(st, math.MinInt) || Want(New(), 9) || !Want(Close(New()), 0) || !Want(good(), 0) {
		t.Error("Want")
	}
}

// P23.6
func TestAllIsSent(t *testing.T) {
	r := rand.New(rand.NewSource(23))
	for range 80 {
		all := text(r.Intn(2000))
		st, wrote := New(), 0
		got := make([]byte, len(all))
		var under []Piece
		var came ivals.Set
		fin := false
		for !Over(st) {
			n := 0
			st, n = Write(st, all[wrote:min(len(all), wrote+r.Intn(200))])
			if wrote += n; wrote == len(all) {
				st = Close(st)
			}
			for range 3 {
				var p Piece
				var s string
				var ok bool
				limit := r.Intn(2500)
				want := Want(st, limit)
				if st, p, s, ok = Pick(st, r.Intn(4), 1+r.Intn(32), limit); ok {
					copy(got[p.From:], s)
					under = append(under, p)
				}
				if ok != want {
					t.Fatal("Want")
				}
			}
			var left []Piece
			dead := r.Intn(40)
			for _, p := range under {
				if p.Path == dead {
					continue
				}
				if r.Intn(3) > 0 {
					left = append(left, p)
					continue
				}
				came = ivals.Add(came, ivals.Ival{From: p.From, To: p.To})
				fin = fin || p.Fin
			}
			under = left
			st = Dead(st, dead)
			cum := ivals.First(came, 0)
			st = Came(st, cum, fin && cum == len(all))
			if e := Check(st); e != api.OK {
				t.Fatal(e, st)
			}
		}
		if string(got) != all || st.Base != len(all) {
			t.Fatal("bytes are lacking")
		}
	}
}

// P23.1, P23.3, P23.4: edges.
func TestEdges(t *testing.T) {
	top := api.MaxOffset - api.MaxPipe
	if Check(State{Base: top + 1, Next: top + 1}) != api.ErrRange || Check(State{Data: text(4096)}) != api.OK || Check(State{Base: top, Next: top}) != api.OK {
		t.Error("Check")
	}
	shut := Close(New())
	if x, _, _, ok := Pick(shut, 0, 0, 9); ok || !Same(x, shut) {
		t.Error("most is below 1")
	}
	gone, p, s, ok := Pick(shut, 0, 1, 0)
	if p != (Piece{0, 0, 0, true}) || s != "" || !ok {
		t.Error(p, s, ok)
	}
	if x := Came(gone, 0, true); !x.Done || !Over(x) || len(x.Pieces) != 0 {
		t.Error(x)
	}
	lost := State{Data: "abc", Next: 3, Lost: set(0, 3)}
	if x := Came(lost, 2, false); !ivals.Same(x.Lost, set(2, 3)) || Check(x) != api.OK {
		t.Error(x)
	}
	for i, f := range []func(*State){
		func(s *State) { s.Base++ }, func(s *State) { s.Data += "x" }, func(s *State) { s.Next++ }, func(s *State) { s.Pieces = nil }, func(s *State) { s.Lost = nil },
		func(s *State) { s.Closed = false }, func(s *State) { s.Sent = false }, func(s *State) { s.Again = true }, func(s *State) { s.Done = true },
	} {
		x := good()
		if f(&x); Same(x, good()) {
			t.Error(i)
		}
	}
}

// P23.6: no call changes what it is given, nor its lists' spare room.
func TestNothingIsChanged(t *testing.T) {
	spare, room := make([]Piece, 0, 8), make(ivals.Set, 0, 8)
	st := good()
	st.Pieces, st.Lost = append(spare, st.Pieces...), append(room, st.Lost...)
	calls := []func() State{
		func() State { x, _ := Write(st, "a"); return x },
		func() State { return Close(st) },
		func() State { x, _, _, _ := Pick(st, 0, 2, 9); return x },
		func() State { x, _, _, _ := Pick(st, 9, 2, 9); return x },
		func() State { return Came(st, 12, false) },
		func() State { return Came(st, -1, false) },
		func() State { return Dead(st, 0) },
		func() State { return Dead(st, 3) },
	}
	for i, call := range calls {
		x := call()
		for j := range x.Pieces {
			x.Pieces[j].Path = 77
		}
		for j := range x.Lost {
			x.Lost[j].To = 77
		}
		if !Same(st, good()) || spare[:3][2] != (Piece{}) || room[:2][1] != (ivals.Ival{}) {
			t.Error(i, st)
		}
	}
}
