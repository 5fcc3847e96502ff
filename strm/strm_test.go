package strm

import (
	"math"
	"math/rand"
	"strings"
	"testing"

	"sennit/api"
	"sennit/credit"
	"sennit/rules"
	"sennit/sbuf"
)

// made makes stream 1 with these windows.
func made(out, in int) State {
	st, _ := New(1, out, in)
	return st
}

// busy is a stream of which some went, and some came.
func busy() State {
	st, _, _ := Write(made(10, 10), "hello")
	st, _, _, _ = Pick(st, 0, 3, 99)
	st, _, _ = OnData(st, 0, "abc", false)
	st, _, _ = OnData(st, 5, "f", false)
	st, _, _, _ = Read(st, 1)
	return st
}

// bad may not be.
func bad() State {
	st := busy()
	st.Out.Used = 0
	return st
}

// P25.1
func TestNewCheckSame(t *testing.T) {
	for _, x := range [][3]int{{-1, 10, 10}, {api.MaxID + 1, 10, 10}, {1, 0, 10}, {1, api.MaxWindow + 1, 10}, {1, 10, 0}, {1, 10, api.MaxPipe + 1}, {1, 10, math.MaxInt}} {
		if st, e := New(x[0], x[1], x[2]); e != api.ErrRange || !Same(st, State{}) {
			t.Error(x, e)
		}
	}
	st, e := New(api.MaxID, api.MaxWindow, api.MaxPipe)
	if e != api.OK || Check(st) != api.OK || st.Out.Limit != api.MaxWindow || st.In.Limit != api.MaxPipe || st.Mine != -1 || st.Hers != -1 || st.Recv.End != -1 {
		t.Error(st, e)
	}
	for i, x := range []struct {
		f    func(*State)
		want api.Errno
	}{
		{func(s *State) {}, api.OK},
		{func(s *State) { s.Mine, s.Hers = 0, 255 }, api.OK},
		{func(s *State) { s.ID = -1; s.Out.Used = 99 }, api.ErrRange},
		{func(s *State) { s.ID = api.MaxID + 1 }, api.ErrRange},
		{func(s *State) { s.Mine = -2 }, api.ErrRange},
		{func(s *State) { s.Mine = 256 }, api.ErrRange},
		{func(s *State) { s.Hers = 256 }, api.ErrRange},
		{func(s *State) { s.In.Window = 4097 }, api.ErrRange},
		{func(s *State) { s.Out.Used = -1; s.Send.Closed, s.Send.Sent, s.Send.Done = true, true, false }, api.ErrRange},
		{func(s *State) { s.In.Limit = -1 }, api.ErrRange},
		{func(s *State) { s.Send.Sent = true; s.Recv.End = -2 }, api.ErrState},
		{func(s *State) { s.Recv.End = -2; s.Out.Used = 0 }, api.ErrRange},
		{func(s *State) { s.Recv.Recv.Parts[0].At = 3 }, api.ErrOrder},
		{func(s *State) { s.Out.Used = 2 }, api.ErrForm},
		{func(s *State) { s.In.Used = 5 }, api.ErrForm},
		{func(s *State) { s.Recv.End = 7 }, api.ErrForm},
		{func(s *State) { s.Recv.End = 7; s.In.Used = 7 }, api.OK},
		{func(s *State) { s.In.Read = 0 }, api.ErrForm},
		{func(s *State) { s.In.Limit = 11 }, api.OK},
		{func(s *State) { s.In.Limit = 12 }, api.ErrForm},
	} {
		st := busy()
		st.Recv.Recv.Parts = append(st.Recv.Recv.Parts[:0:0], st.Recv.Recv.Parts...)
		if x.f(&st); Check(st) != x.want || i > 0 && Same(st, busy()) {
			t.Error(i, Check(st))
		}
	}
}

// P25.2
func TestWriteCloseReadGrant(t *testing.T) {
	st, n, e := Write(made(10, 10), "hello")
	if n != 5 || e != api.OK || st.Send.Data != "hello" {
		t.Error(n, e)
	}
	st, e = Close(st)
	if e != api.OK || !st.Send.Closed {
		t.Error(e)
	}
	if x, n, e := Write(st, "a"); n != 0 || e != api.ErrState || !Same(x, st) {
		t.Error(n, e)
	}
	if x, e := Close(st); e != api.ErrState || !Same(x, st) {
		t.Error(e)
	}
	st, s, end, e := Read(busy(), 9)
	if s != "bc" || end || e != api.OK || st.In.Read != 3 {
		t.Error(s, end, e)
	}
	if x, n := Grant(st); n != 0 || !Same(x, st) {
		t.Error(n)
	}
	st, _, _ = OnData(st, 3, "de", false)
	st, s, _, _ = Read(st, 9)
	x, n := Grant(st)
	if s != "def" || n != 6 || x.In.Limit != 16 {
		t.Error(s, n)
	}
	ended, _, _ := OnData(st, 6, "", true)
	if y, n := Grant(ended); n != 0 || !Same(y, ended) {
		t.Error(n)
	}
	if _, s, end, e := Read(ended, 0); s != "" || !end || e != api.OK {
		t.Error("the end")
	}
	for i, x := range []State{Reset(st, 3), OnReset(st, 3), bad()} {
		want := api.ErrReset
		if i == 2 {
			want = api.ErrForm
		}
		a, n, e := Write(x, "a")
		b, e2 := Close(x)
		c, s, end, e3 := Read(x, 1)
		d, m := Grant(x)
		if e != want || e2 != want || e3 != want || n+m != 0 || s != "" || end || !Same(a, x) || !Same(b, x) || !Same(c, x) || !Same(d, x) {
			t.Error(i, e, e2, e3)
		}
	}
}

// P25.3
func TestOn(t *testing.T) {
	for i, x := range []struct {
		at   int
		s    string
		fin  bool
		n    int
		code api.Code
		end  int
	}{
		{3, "de", false, 0, 0, -1}, {6, "gh", false, 2, 0, -1}, {6, "ghij", true, 4, 0, 10}, {6, "ghijk", false, 0, api.Flow, -1}, {11, "", true, 0, api.Flow, -1},
		{-1, "a", false, 0, api.Flow, -1}, {-1, "", false, 0, 0, -1}, {math.MaxInt, "", false, 0, 0, -1}, {math.MaxInt, "a", false, 0, api.Flow, -1},
		{api.MaxOffset, "a", false, 0, api.Flow, -1}, {math.MinInt, "a", true, 0, api.Flow, -1}, {3, "d", true, 0, api.StreamClosed, -1}, {8, "", true, 2, 0, 8},
	} {
		st, n, code := OnData(busy(), x.at, x.s, x.fin)
		if n != x.n || code != x.code || st.Recv.End != x.end || st.In.Used != 6+n || code != 0 && !Same(st, busy()) || Check(st) != api.OK {
			t.Error(i, n, code, st)
		}
	}
	ended, _, _ := OnData(busy(), 8, "", true)
	if st, n, code := OnData(ended, 6, "xyz", false); n != 0 || code != api.StreamClosed || !Same(st, ended) {
		t.Error(n, code)
	}
	for n, want := range map[int]api.Code{1: 0, 0: api.Flow, -1: api.Flow, api.MaxOffset: api.Flow, api.MaxOffset - 10: 0} {
		st, code := OnWindow(busy(), n)
		if code != want || want == 0 && st.Out.Limit != 10+n || want != 0 && !Same(st, busy()) {
			t.Error(n, code)
		}
	}
	if st := OnCame(busy(), 2, false); st.Send.Base != 2 || Check(st) != api.OK {
		t.Error(st)
	}
	if st := OnCame(busy(), 3, true); !Same(st, busy()) {
		t.Error("the end did not go")
	}
	for i, x := range []State{Reset(busy(), 3), OnReset(busy(), 3), bad()} {
		a, n, c := OnData(x, 99, "a", false)
		b, c2 := OnWindow(x, -1)
		if n != 0 || c != 0 || c2 != 0 || !Same(a, x) || !Same(b, x) || !Same(OnCame(x, 2, false), x) {
			t.Error(i, n, c, c2)
		}
	}
}

// P25.4
func TestResetDead(t *testing.T) {
	for code, ok := range map[int]bool{0: true, 255: true, -1: false, 256: false, math.MinInt: false} {
		a, b := OnReset(busy(), code), Reset(busy(), code)
		if ok != (a.Hers == code && code != -1) || ok != (b.Mine == code && code != -1) || !ok && (!Same(a, busy()) || !Same(b, busy())) {
			t.Error(code, a, b)
		}
	}
	a, b := OnReset(busy(), 3), Reset(busy(), 3)
	if !Same(OnReset(a, 4), a) || !Same(Reset(a, 4), a) || !Same(Reset(b, 4), b) || OnReset(b, 4).Hers != 4 || OnReset(b, 4).Mine != 3 {
		t.Error("one that was cut off")
	}
	if !Same(OnReset(bad(), 3), bad()) || !Same(Reset(bad(), 3), bad()) {
		t.Error("one that may not be")
	}
	if st := Dead(busy(), 0); len(st.Send.Lost) != 1 || Check(st) != api.OK || !Same(Dead(busy(), 1), busy()) {
		t.Error(st)
	}
}

// P25.5
func TestPickWant(t *testing.T) {
	st, _, _ := Write(made(10, 10), "hello world!")
	for _, x := range []struct{ path, most, free, n int }{
		{0, 3, 99, 3}, {3, 99, 99, 10}, {1, 99, 4, 4}, {1, 99, math.MaxInt, 10}, {1, 99, 0, 0}, {1, 99, -1, 0}, {1, 99, math.MinInt, 0}, {1, 0, 9, 0}, {4, 9, 9, 0},
	} {
		y, p, s, ok := Pick(st, x.path, x.most, x.free)
		if ok != (x.n > 0) || s != "hello world!"[:x.n] || y.Out.Used != x.n || y.Send.Next != x.n || !ok && (p != sbuf.Piece{} || !Same(y, st)) {
			t.Error(x, p, s, ok)
		}
	}
	if !Want(st, 1) || Want(st, 0) || Want(st, -1) || Want(made(1, 1), 9) || !Want(Dead(busy(), 0), 0) {
		t.Error("Want")
	}
	shut, _ := Close(made(1, 1))
	if !Want(shut, 0) || Want(shut, -1) {
		t.Error("the end")
	}
	for i, x := range []State{Reset(st, 3), OnReset(st, 3), bad()} {
		if y, p, s, ok := Pick(x, 0, 9, 9); ok || s != "" || p != (sbuf.Piece{}) || !Same(y, x) || Want(x, 9) {
			t.Error(i)
		}
	}
}

// P25.6
func TestOverClass(t *testing.T) {
	st := busy()
	if Over(st) || Class(st) != rules.Open || !Over(Reset(st, 0)) || !Over(OnReset(st, 0)) {
		t.Error("Over")
	}
	st, _, _ = OnData(st, 3, "de", false)
	st, _, _ = OnData(st, 6, "", true)
	if Class(st) != rules.Ended || Over(st) {
		t.Error("Class")
	}
	st, _ = Close(st)
	st, _, _, _ = Pick(st, 0, 9, 9)
	came := OnCame(st, 5, true)
	if Over(came) {
		t.Error("not all was read")
	}
	came, _, _, _ = Read(came, 9)
	st, _, _, _ = Read(st, 9)
	if !Over(came) || Over(st) {
		t.Error("Over")
	}
}

// P25.7
func TestTwoEnds(t *testing.T) {
	r := rand.New(rand.NewSource(25))
	for range 60 {
		all := strings.Repeat("abcdefg", r.Intn(120))
		w := 1 + r.Intn(80)
		a, b := made(w, 5), made(5, w)
		read, end := "", false
		wrote := 0
		type sent struct {
			p sbuf.Piece
			s string
		}
		var net []sent
		for range 20000 {
			var n int
			a, n, _ = Write(a, all[wrote:])
			if wrote += n; wrote == len(all) {
				a, _ = Close(a)
			}
			x, p, s, ok := Pick(a, r.Intn(4), 1+r.Intn(9), r.Intn(50))
			if a = x; ok {
				net = append(net, sent{p, s})
			}
			if len(net) > 0 {
				k := r.Intn(len(net))
				if r.Intn(3) == 0 {
					a = Dead(a, net[k].p.Path)
				} else {
					b, _, _ = OnData(b, net[k].p.From, net[k].s, net[k].p.Fin)
				}
				net = append(net[:k], net[k+1:]...)
			}
			b, s, end, _ = Read(b, r.Intn(20))
			read += s
			if b, n = Grant(b); n > 0 {
				a, _ = OnWindow(a, n)
			}
			a = OnCame(a, b.Recv.Recv.Base, b.Recv.End == b.Recv.Recv.Base)
			if Check(a) != api.OK || Check(b) != api.OK || b.In.Used-b.In.Read > w || !strings.HasPrefix(all, read) || end && read != all || credit.Free(a.Out) < 0 {
				t.Fatal(a, b)
			}
			if end {
				break
			}
		}
		if !end || read != all {
			t.Fatal("not all came", len(read), len(all))
		}
	}
}

// P25.1: the least number; two streams are one only in all fields.
func TestLeastAndSame(t *testing.T) {
	if st, e := New(0, 1, 1); e != api.OK || Check(st) != api.OK {
		t.Error(e)
	}
	for i, f := range []func(*State){
		func(s *State) { s.ID++ }, func(s *State) { s.Send.Next++ }, func(s *State) { s.Recv.End = 9 }, func(s *State) { s.Out.Used++ }, func(s *State) { s.In.Used++ },
		func(s *State) { s.Mine = 0 }, func(s *State) { s.Hers = 0 },
	} {
		x := busy()
		if f(&x); Same(x, busy()) {
			t.Error(i)
		}
	}
}
