package recvq

import (
	"math"
	"math/rand"
	"strings"
	"testing"

	"sennit/api"
	"sennit/ivals"
)

// set tells the intervals from and to pairs of numbers.
func set(l ...int) (s ivals.Set) {
	for i := 0; i < len(l); i += 2 {
		s = append(s, ivals.Ival{From: l[i], To: l[i+1]})
	}
	return s
}

// P12.1
func TestNewCheckLimitHeldSame(t *testing.T) {
	if !Same(New(), State{}) || Check(New()) != api.OK || Limit(New()) != 4096 || Held(New()) != 0 {
		t.Error(New())
	}
	full := strings.Repeat("x", 4096)
	for i, x := range []struct {
		st          State
		want        api.Errno
		limit, held int
	}{
		{State{10, "abc", []Part{{11, "x"}, {13, "yz"}}}, api.OK, 4103, 6},
		{State{4096, full, nil}, api.OK, 4096, 4096},
		{State{0, "", []Part{{1, full[1:]}}}, api.OK, 4096, 4095},
		{State{api.MaxOffset, "ab", nil}, api.OK, api.MaxOffset, 2},
		{State{api.MaxOffset + 1, "", nil}, api.ErrRange, api.MaxOffset, 0},
		{State{math.MaxInt, "", nil}, api.ErrRange, api.MaxOffset, 0},
		{State{-1, "", []Part{{}}}, api.ErrRange, 4095, 0},
		{State{5000, full + "y", nil}, api.ErrRange, 4999, 4097},
		{State{2, "abc", nil}, api.ErrRange, 4095, 3},
		{State{10, "", []Part{{12, ""}}}, api.ErrOrder, 4106, 0},
		{State{10, "", []Part{{10, "a"}}}, api.ErrOrder, 4106, 1},
		{State{10, "", []Part{{12, "a"}, {13, "b"}}}, api.ErrOrder, 4106, 2},
		{State{10, "", []Part{{14, "a"}, {12, "b"}}}, api.ErrOrder, 4106, 2},
		{State{0, "", []Part{{1, full}}}, api.ErrOrder, 4096, 4096},
		{State{0, "", []Part{{math.MaxInt, "a"}}}, api.ErrOrder, 4096, 1},
	} {
		if Check(x.st) != x.want || Limit(x.st) != x.limit || Held(x.st) != x.held {
			t.Error(i, Check(x.st), Limit(x.st), Held(x.st))
		}
	}
	a := State{10, "abc", []Part{{11, "x"}}}
	for _, b := range []State{{11, "abc", a.Parts}, {10, "abd", a.Parts}, {10, "abc", nil}, {10, "abc", []Part{{11, "y"}}}} {
		if Same(a, b) || !Same(a, a) {
			t.Error(b)
		}
	}
}

// P12.2
func TestPut(t *testing.T) {
	st, n := Put(New(), 2, "cd")
	if n != 2 || !Same(st, State{0, "", []Part{{2, "cd"}}}) {
		t.Error(n, st)
	}
	if x, n := Put(st, 0, "abc"); n != 2 || !Same(x, State{4, "abcd", nil}) {
		t.Error(n, x)
	}
	base := State{10, "ab", []Part{{12, "cd"}, {20, "mn"}, {30, "xy"}}}
	for _, x := range []struct {
		at   int
		s    string
		n    int
		want State
	}{
		{10, "Z", 1, State{11, "abZ", base.Parts}},
		{5, "12345", 0, base},
		{5, "123456", 1, State{11, "ab6", base.Parts}},
		{10, "ZZZZ", 2, State{14, "abZZcd", []Part{{20, "mn"}, {30, "xy"}}}},
		{12, "QQ", 0, base},
		{14, "Q", 1, State{10, "ab", []Part{{12, "cdQ"}, {20, "mn"}, {30, "xy"}}}},
		{13, "1234567890", 7, State{10, "ab", []Part{{12, "cd234567mn0"}, {30, "xy"}}}},
		{15, "Q", 1, State{10, "ab", []Part{{12, "cd"}, {15, "Q"}, {20, "mn"}, {30, "xy"}}}},
		{19, "Q", 1, State{10, "ab", []Part{{12, "cd"}, {19, "Qmn"}, {30, "xy"}}}},
		{40, "Q", 1, State{10, "ab", []Part{{12, "cd"}, {20, "mn"}, {30, "xy"}, {40, "Q"}}}},
		{4103, "PQ", 1, State{10, "ab", []Part{{12, "cd"}, {20, "mn"}, {30, "xy"}, {4103, "P"}}}},
		{4104, "PQ", 0, base}, {-1, "P", 0, base}, {math.MinInt, "P", 0, base}, {api.MaxOffset + 1, "P", 0, base}, {api.MaxOffset, "P", 0, base}, {10, "", 0, base},
		{0, "----------abcdefghijklmnopqrstuvwxyz", 20, State{36, "ab" + "abcdefghij" + "mnmnopqrst" + "xywxyz", nil}}, // old bytes stay
	} {
		if got, n := Put(base, x.at, x.s); n != x.n || !Same(got, x.want) {
			t.Error(x, n, got)
		}
	}
	bad := State{1, "abc", nil}
	if got, n := Put(bad, 1, "x"); n != 0 || !Same(got, bad) {
		t.Error(got)
	}
	got, _ := Put(base, 40, "Q")
	got.Parts[0].At = 0
	if base.Parts[0].At != 12 {
		t.Error("Put shares its argument")
	}
}

// P12.3
func TestRead(t *testing.T) {
	st := State{10, "abc", []Part{{12, "x"}}}
	for n, want := range map[int]string{0: "", -1: "", math.MinInt: "", 1: "a", 3: "abc", 4: "abc", math.MaxInt: "abc"} {
		x, s := Read(st, n)
		if s != want || x.Base != 10 || x.Ready != "abc"[len(want):] || len(x.Parts) != 1 {
			t.Error(n, s, x)
		}
	}
	bad := State{2, "abc", nil}
	if x, s := Read(bad, 2); s != "" || !Same(x, bad) {
		t.Error(s)
	}
}

// P12.4
func TestCameBlocks(t *testing.T) {
	st := State{10, "abc", []Part{{12, "x"}, {14, "yz"}, {20, "q"}}}
	if c := Came(st); !ivals.Same(c, set(12, 13, 14, 16, 20, 21)) {
		t.Error(c)
	}
	for n, want := range map[int]ivals.Set{0: nil, -1: nil, math.MinInt: nil, 1: set(12, 13), 3: Came(st), math.MaxInt: Came(st)} {
		if b := Blocks(st, n); !ivals.Same(b, want) {
			t.Error(n, b)
		}
	}
	st.Base = 12
	if len(Came(st)) != 0 || len(Blocks(st, 2)) != 0 || len(Came(New())) != 0 {
		t.Error("a state that may not be")
	}
}

// P12.5
func TestAnyOrder(t *testing.T) {
	r := rand.New(rand.NewSource(13))
	for range 60 {
		all := make([]byte, r.Intn(9000))
		r.Read(all)
		st, read, count := New(), "", 0
		for len(read) < len(all) {
			at := max(0, len(read)+r.Intn(200)-60)
			at = min(at, len(all))
			to := min(len(all), at+r.Intn(80))
			if r.Intn(9) == 0 {
				at, to = len(read), min(len(all), len(read)+30)
			}
			var n int
			was := Held(st)
			st, n = Put(st, at, string(all[at:to]))
			if count += n; Held(st) != was+n {
				t.Fatal("Held")
			}
			var s string
			if r.Intn(3) == 0 {
				st, s = Read(st, r.Intn(50))
				read += s
			}
			if e := Check(st); e != api.OK {
				t.Fatal(e, st)
			}
		}
		if read != string(all) || count != len(all) {
			t.Fatal("not what was put")
		}
	}
}

// P12.2, P12.5: a place below 0 is none; no call changes what it is given, nor its lists' spare room.
func TestNothingIsChanged(t *testing.T) {
	if st, n := Put(New(), -1, "abc"); n != 0 || !Same(st, New()) {
		t.Error(st, n)
	}
	if _, n := Put(New(), 0, strings.Repeat("x", 5000)); n != 4096 {
		t.Error(n)
	}
	spare := make([]Part, 0, 8)
	st := State{10, "abc", append(spare, Part{12, "x"}, Part{20, "y"})}
	x, _ := Put(st, 14, "z")
	x.Parts[0].At = 77
	x, _ = Put(st, 13, "z")
	x.Parts[0].At = 77
	x, _ = Put(st, 10, "z")
	x, _ = Read(st, 1)
	x.Parts[0].At = 77
	x, _ = Put(st, 0, "z")
	x.Parts[0].At = 77
	if !Same(st, State{10, "abc", []Part{{12, "x"}, {20, "y"}}}) || spare[:3][2] != (Part{}) {
		t.Error(st, spare[:3])
	}
}
