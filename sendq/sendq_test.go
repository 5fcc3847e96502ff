package sendq

import (
	"math"
	"math/rand"
	"strings"
	"testing"

	"sennit/api"
	"sennit/ivals"
)

// set tells the intervals from and to pairs of numbers.
func set(l ...int) (s ivals.Set) {
	for i := 0; i < len(l); i += 2 {
		s = append(s, ivals.Ival{From: l[i], To: l[i+1]})
	}
	return s
}

// text tells n bytes.
func text(n int) string { return strings.Repeat("abcdefg", n/7+1)[:n] }

// P11.1
func TestNewCheckRoomSame(t *testing.T) {
	if !Same(New(), State{}) || Check(New()) != api.OK || Room(New()) != 4096 {
		t.Error(New())
	}
	good := State{10, text(100), 70, []Chunk{{10, 20, 3, 1, false}, {20, 30, api.MaxTick, 1 << 30, true}, {40, 70, 0, 2, false}}, set(30, 40)}
	if Check(good) != api.OK || Room(good) != 3996 {
		t.Error(Check(good))
	}
	chunk := func(c Chunk) func(*State) { return func(s *State) { s.Flight[1] = c } }
	for i, x := range []struct {
		f    func(*State)
		want api.Errno
	}{
		{func(s *State) { s.Base = -1 }, api.ErrRange},
		{func(s *State) { s.Base = math.MaxInt }, api.ErrRange},
		{func(s *State) { s.Base = api.MaxOffset - api.MaxPipe + 1 }, api.ErrRange},
		{func(s *State) { s.Next = 9; s.Data = text(5000) }, api.ErrRange},
		{func(s *State) { s.Next = 111 }, api.ErrRange},
		{func(s *State) { s.Data = text(4097); s.Came[0].From = 0 }, api.ErrLong},
		{func(s *State) { s.Came[0] = ivals.Ival{From: 40, To: 40}; s.Flight[0].To = 90 }, api.ErrForm},
		{func(s *State) { s.Came[0].To = 71 }, api.ErrForm},
		{func(s *State) { s.Came = set(10, 11); s.Flight = nil }, api.ErrForm},
		{chunk(Chunk{19, 30, 0, 1, true}), api.ErrOrder},
		{chunk(Chunk{20, 31, 0, 1, true}), api.ErrOrder},
		{chunk(Chunk{35, 37, 0, 1, true}), api.ErrOrder},
		{chunk(Chunk{20, 20, 0, 1, true}), api.ErrOrder},
		{chunk(Chunk{math.MaxInt, math.MinInt, 0, 1, true}), api.ErrOrder},
		{chunk(Chunk{20, 30, -1, 1, true}), api.ErrOrder},
		{chunk(Chunk{20, 30, api.MaxTick + 1, 1, true}), api.ErrOrder},
		{chunk(Chunk{20, 30, 0, 0, true}), api.ErrOrder},
		{chunk(Chunk{20, 30, 0, 1<<30 + 1, true}), api.ErrOrder},
		{func(s *State) { s.Flight[0].From = 9 }, api.ErrOrder},
		{func(s *State) { s.Flight[2].To = 71 }, api.ErrOrder},
		{func(s *State) { s.Came = nil; s.Next = 110; s.Flight = []Chunk{{10, 59, 0, 1, false}} }, api.ErrOrder},
	} {
		st := kept(good)
		x.f(&st)
		if Check(st) != x.want || Same(st, good) {
			t.Error(i, Check(st))
		}
	}
	if got := Check(State{Base: api.MaxOffset - api.MaxPipe, Next: api.MaxOffset - api.MaxPipe}); got != api.OK {
		t.Error(got)
	}
}

// P11.2
func TestWrite(t *testing.T) {
	st, n := Write(New(), "abc")
	if n != 3 || st.Data != "abc" {
		t.Error(n, st)
	}
	st, n = Write(st, text(5000))
	if n != 4093 || len(st.Data) != 4096 || Room(st) != 0 {
		t.Error(n)
	}
	if x, n := Write(st, "a"); n != 0 || !Same(x, st) {
		t.Error(n)
	}
	bad := State{Next: 1}
	if x, n := Write(bad, "a"); n != 0 || !Same(x, bad) {
		t.Error(n)
	}
	top := api.MaxOffset - api.MaxPipe
	late := State{Base: top - 5, Data: "ab", Next: top - 4}
	if _, n := Write(late, "cde"); n != 3 {
		t.Error(n)
	}
	if x, n := Write(late, "cdef"); n != 0 || !Same(x, late) {
		t.Error(n)
	}
}

// P11.3
func TestPick(t *testing.T) {
	st, _ := Write(New(), text(100))
	for _, x := range []struct{ now, win, limit, n int }{
		{0, 96, 96, 48}, {0, 5, 96, 5}, {0, 96, 7, 7}, {0, 0, 96, 0}, {0, 96, 0, 0}, {0, -1, 96, 0}, {0, math.MinInt, math.MaxInt, 0},
		{0, math.MaxInt, math.MinInt, 0}, {-1, 96, 96, 0}, {api.MaxTick + 1, 96, 96, 0}, {api.MaxTick, math.MaxInt, math.MaxInt, 48},
	} {
		y, c, s := Pick(st, x.now, x.win, x.limit)
		if s != text(100)[:x.n] || x.n == 0 && (c != Chunk{} || !Same(y, st)) || x.n > 0 && (c != Chunk{0, x.n, x.now, 1, false} || y.Next != x.n || len(y.Flight) != 1) {
			t.Error(x, c, s)
		}
	}
	st, _, _ = Pick(st, 1, 999, 999)
	st, _, _ = Pick(st, 2, 999, 999)
	st, c, s := Pick(st, 3, 999, 999)
	if c != (Chunk{96, 100, 3, 1, false}) || s != text(100)[96:] {
		t.Error(c, s)
	}
	if x, c, s := Pick(st, 4, 999, 999); c != (Chunk{}) || s != "" || !Same(x, st) {
		t.Error(c)
	}
	st.Flight[1].Lost = true
	if x, c, s := Pick(st, 4, 99, 0); c != (Chunk{}) || s != "" || !Same(x, st) { // 52 under way
		t.Error(c)
	}
	x, c, s := Pick(st, 4, 100, 0)
	if c != (Chunk{48, 96, 4, 2, false}) || s != text(100)[48:96] || x.Flight[1] != c || !st.Flight[1].Lost {
		t.Error(c, s)
	}
	st, _ = Expire(st)
	st.Flight[0].Tries = 1 << 30
	if _, c, _ := Pick(st, 9, 0, 0); c != (Chunk{0, 48, 9, 1 << 30, false}) { // nothing is under way
		t.Error(c)
	}
}

// P11.4
func TestAck(t *testing.T) {
	st, _ := Write(New(), text(200))
	for i := range 4 {
		st, _, _ = Pick(st, i, 999, 999)
	}
	for _, x := range []struct {
		cum, now int
		l        ivals.Set
		base     int
		flight   []Chunk
		came     ivals.Set
		r        Report
	}{
		{48, 10, nil, 48, []Chunk{{48, 96, 1, 1, false}, {96, 144, 2, 1, false}, {144, 192, 3, 1, false}}, nil, Report{48, 10, false}},
		{0, 10, nil, 0, st.Flight, nil, Report{0, -1, false}},
		{50, 10, nil, 50, []Chunk{{50, 96, 1, 1, false}, {96, 144, 2, 1, false}, {144, 192, 3, 1, false}}, nil, Report{50, 9, false}},
		{192, 3, nil, 192, nil, nil, Report{192, 0, false}},
		{192, 2, nil, 192, nil, nil, Report{192, -1, false}},
		{0, 9, set(60, 70, 80, 81), 0, []Chunk{{0, 48, 0, 1, false}, {48, 60, 1, 1, false}, {70, 80, 1, 1, false}, {81, 96, 1, 1, false}, {96, 144, 2, 1, false}, {144, 192, 3, 1, false}}, set(60, 70, 80, 81), Report{11, 8, false}},
		{0, 9, set(100, 144), 0, []Chunk{{0, 48, 0, 1, true}, {48, 96, 1, 1, false}, {96, 100, 2, 1, false}, {144, 192, 3, 1, false}}, set(100, 144), Report{44, 7, true}},
		{0, 9, set(100, 143), 0, []Chunk{{0, 48, 0, 1, false}, {48, 96, 1, 1, false}, {96, 100, 2, 1, false}, {143, 144, 2, 1, false}, {144, 192, 3, 1, false}}, set(100, 143), Report{43, 7, false}},
		{48, 9, set(48, 60), 60, []Chunk{{60, 96, 1, 1, false}, {96, 144, 2, 1, false}, {144, 192, 3, 1, false}}, nil, Report{60, 8, false}},
	} {
		want := State{x.base, text(200)[x.base:], 192, x.flight, x.came}
		if got, r := Ack(st, x.cum, x.l, x.now); !Same(got, want) || r != x.r {
			t.Error(x, got, r)
		}
	}
	for _, x := range []struct {
		cum int
		l   ivals.Set
	}{{-1, nil}, {193, nil}, {math.MinInt, nil}, {48, set(47, 50)}, {0, set(190, 193)}, {0, set(5, 5)}, {0, set(5, 7, 1, 2)}} {
		if got, r := Ack(st, x.cum, x.l, 9); !Same(got, st) || r != (Report{0, -1, false}) {
			t.Error(x, got, r)
		}
	}
	bad := State{Next: 5}
	if got, r := Ack(bad, 0, nil, 0); !Same(got, bad) || r.Sample != -1 {
		t.Error(got)
	}
	// What came out of order counts once, and a chunk sent twice tells no time.
	st, _ = Ack(st, 0, set(48, 96), 9)
	st, r := Ack(st, 48, nil, 9)
	if st.Base != 96 || len(st.Came) != 0 || r != (Report{48, 9, false}) {
		t.Error(st, r)
	}
	st.Flight[0].Tries = 2
	if _, r := Ack(st, 144, nil, 9); r.Sample != -1 {
		t.Error(r)
	}
	if _, r := Ack(st, 150, nil, 9); r.Sample != 6 {
		t.Error(r)
	}
}

// P11.5
func TestExpireFlightOldest(t *testing.T) {
	st, _ := Write(New(), text(120))
	if _, ok := Oldest(st); ok || Flight(st) != 0 {
		t.Error("nothing under way")
	}
	if x, was := Expire(st); was || !Same(x, st) {
		t.Error(was)
	}
	for i := range 3 {
		st, _, _ = Pick(st, 9-i, 999, 999)
	}
	if at, ok := Oldest(st); at != 7 || !ok || Flight(st) != 120 {
		t.Error(at)
	}
	st.Flight[2].Lost = true
	if at, ok := Oldest(st); at != 8 || !ok || Flight(st) != 96 {
		t.Error(at)
	}
	st, was := Expire(st)
	if at, ok := Oldest(st); at != 0 || ok || !was || Flight(st) != 0 {
		t.Error(at)
	}
	if _, was := Expire(st); was {
		t.Error("all were lost")
	}
}

// P11.6
func TestAllIsSent(t *testing.T) {
	r := rand.New(rand.NewSource(12))
	for range 40 {
		st, all := New(), text(r.Intn(3000))
		got, wrote := make([]byte, len(all)), 0
		var came ivals.Set
		for now := 0; st.Base < len(all); now++ {
			n := 0
			st, n = Write(st, all[wrote:min(len(all), wrote+r.Intn(300))])
			wrote += n
			for range 4 {
				var c Chunk
				var s string
				if st, c, s = Pick(st, now, 200+r.Intn(400), wrote); s != "" && r.Intn(3) > 0 {
					copy(got[c.From:], s)
					came = ivals.Add(came, ivals.Ival{From: c.From, To: c.To})
				}
			}
			if r.Intn(3) == 0 {
				cum := ivals.First(came, 0)
				var far ivals.Set
				for _, x := range came {
					if x.From > cum && r.Intn(2) == 0 {
						far = append(far, x)
					}
				}
				st, _ = Ack(st, cum, far, now)
			}
			if r.Intn(6) == 0 {
				st, _ = Expire(st)
			}
			if e := Check(st); e != api.OK {
				t.Fatal(e, st)
			}
		}
		if string(got) != all {
			t.Fatal("bytes are lacking")
		}
	}
}

// P11.1, P11.3, P11.4, P11.5: edges.
func TestEdges(t *testing.T) {
	top := api.MaxOffset - api.MaxPipe
	if Check(State{Base: top + 1, Next: top + 1}) != api.ErrRange || Check(State{Data: text(4096)}) != api.OK || Check(State{Data: text(4097)}) != api.ErrLong {
		t.Error("Check")
	}
	st, _ := Write(New(), text(100))
	st, _, _ = Pick(st, 5, 999, 999)
	for _, n := range []int{math.MinInt, -1, 47, 48} {
		if x, _, s := Pick(st, 6, 999, n); s != "" || !Same(x, st) {
			t.Error(n)
		}
		if x, _, s := Pick(st, 6, n, 999); s != "" || !Same(x, st) {
			t.Error(n)
		}
	}
	one := State{Data: text(49), Next: 49, Flight: []Chunk{{0, 48, 0, 1, true}, {48, 49, 0, 1, false}}}
	if _, _, s := Pick(one, 0, 48, 0); s != "" {
		t.Error("one byte is under way")
	}
	if _, _, s := Pick(one, 0, 49, 0); len(s) != 48 {
		t.Error("both fit")
	}
	st.Base, st.Data, st.Flight[0].From = 1, st.Data[1:], 1
	for _, cum := range []int{0, 49} {
		if x, r := Ack(st, cum, nil, 9); !Same(x, st) || r != (Report{0, -1, false}) {
			t.Error(cum, r)
		}
	}
	if x, r := Ack(st, 1, set(40, 48), 9); r.Acked != 8 || !ivals.Same(x.Came, set(40, 48)) {
		t.Error(x, r)
	}
	if _, r := Ack(st, 48, nil, 0); r.Sample != -1 {
		t.Error(r)
	}
	two := State{Data: text(90), Next: 90, Flight: []Chunk{{0, 40, 3, 1, false}, {40, 80, 7, 1, false}, {80, 90, 5, 1, false}}}
	if at, ok := Oldest(two); at != 3 || !ok {
		t.Error(at)
	}
	for i, f := range []func(*State){func(s *State) { s.Base++ }, func(s *State) { s.Data += "x" }, func(s *State) { s.Next++ }, func(s *State) { s.Flight = nil }, func(s *State) { s.Came = set(3, 4) }} {
		x := two
		if f(&x); Same(x, two) {
			t.Error(i)
		}
	}
}

// P11.6: no call changes what it is given, nor its lists' spare room.
func TestNothingIsChanged(t *testing.T) {
	spare := make([]Chunk, 0, 8)
	came := make(ivals.Set, 0, 8)
	st := State{Data: text(200), Next: 144, Flight: append(spare, Chunk{0, 48, 1, 1, true}, Chunk{48, 96, 1, 1, false}), Came: append(came, set(100, 110)...)}
	was := kept(st)
	x, _, _ := Pick(st, 9, 999, 999)
	x.Flight[0].Sent = 77
	x, _ = Ack(st, 10, set(60, 70), 9)
	x.Flight[0].Sent = 77
	x, _ = Expire(st)
	x.Flight[0].Sent = 77
	x, _ = Write(st, "a")
	x.Flight[0].Sent, x.Came[0].To = 77, 77
	st.Flight = st.Flight[:1]
	x, _ = Ack(st, 10, nil, 9)
	x, _, _ = Pick(x, 9, 999, 999)
	if !Same(State{st.Base, st.Data, st.Next, st.Flight[:2], st.Came}, was) || spare[:3][2] != (Chunk{}) || came[:2][1] != (ivals.Ival{}) {
		t.Error(st)
	}
}
