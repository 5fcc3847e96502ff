package rasm

import (
	"math"
	"math/rand"
	"strings"
	"testing"

	"sennit/api"
	"sennit/recvq"
)

// of makes a state of which so much came, and was not read, with a part behind it.
func of(base int, ready string, at int, part string, end int) State {
	st := State{recvq.State{Base: base, Ready: ready}, end}
	if part != "" {
		st.Recv.Parts = []recvq.Part{{At: at, Data: part}}
	}
	return st
}

// P24.1
func TestNewCheckHighSame(t *testing.T) {
	if !Same(New(), State{End: -1}) || Check(New()) != api.OK || High(New()) != 0 {
		t.Error(New())
	}
	for i, x := range []struct {
		st   State
		want api.Errno
		high int
	}{
		{of(5, "ab", 7, "xyz", -1), api.OK, 10}, {of(5, "ab", 7, "xyz", 10), api.OK, 10}, {of(5, "ab", 0, "", api.MaxOffset), api.OK, 5},
		{of(1, "ab", 0, "", -2), api.ErrRange, 1}, {of(5, "ab", 5, "x", 3), api.ErrOrder, 6},
		{of(5, "ab", 7, "xyz", 9), api.ErrRange, 10}, {of(5, "ab", 0, "", 4), api.ErrRange, 5}, {of(5, "ab", 0, "", api.MaxOffset+1), api.ErrRange, 5}, {of(5, "", 0, "", -2), api.ErrRange, 5},
	} {
		if Check(x.st) != x.want || High(x.st) != x.high {
			t.Error(i, Check(x.st), High(x.st))
		}
	}
	if a := of(5, "ab", 7, "xyz", 10); Same(a, of(5, "ab", 7, "xyz", 11)) || Same(a, of(5, "ab", 7, "xyw", 10)) || !Same(a, a) {
		t.Error("Same")
	}
}

// P24.2
func TestPut(t *testing.T) {
	known, open := of(5, "ab", 7, "xyz", 12), of(5, "ab", 7, "xyz", -1)
	for i, x := range []struct {
		st   State
		at   int
		s    string
		fin  bool
		n    int
		code api.Code
		want State
	}{
		{open, 5, "PQ", false, 2, 0, of(10, "abPQxyz", 0, "", -1)},
		{open, 5, "PQ", true, 0, api.StreamClosed, open},
		{open, 9, "z", true, 0, 0, of(5, "ab", 7, "xyz", 10)},
		{open, 10, "w", true, 1, 0, of(5, "ab", 7, "xyzw", 11)},
		{open, 30, "", true, 0, 0, of(5, "ab", 7, "xyz", 30)},
		{known, 10, "wv", false, 2, 0, of(5, "ab", 7, "xyzwv", 12)},
		{known, 10, "wvu", false, 0, api.StreamClosed, known},
		{known, 10, "wv", true, 2, 0, of(5, "ab", 7, "xyzwv", 12)},
		{known, 10, "w", true, 0, api.StreamClosed, known},
		{known, 0, "12345", false, 0, 0, known},
		{open, -1, "a", false, 0, api.Internal, open},
		{open, api.MaxOffset, "a", false, 0, api.Internal, open},
		{open, math.MaxInt, "", true, 0, api.Internal, open},
		{open, math.MinInt, "", true, 0, api.Internal, open},
		{open, api.MaxOffset, "", true, 0, 0, of(5, "ab", 7, "xyz", api.MaxOffset)},
		{of(1, "ab", 0, "", -1), 1, "a", false, 0, api.Internal, of(1, "ab", 0, "", -1)},
	} {
		if got, n, code := Put(x.st, x.at, x.s, x.fin); n != x.n || code != x.code || !Same(got, x.want) {
			t.Error(i, got, n, code)
		}
	}
}

// P24.3
func TestReadWholeEnded(t *testing.T) {
	st, _, _ := Put(New(), 3, "de", true)
	if Whole(st) || Ended(st) {
		t.Error("not whole")
	}
	st, _, _ = Put(st, 0, "abc", false)
	if !Whole(st) || Ended(st) {
		t.Error("whole, not read")
	}
	x, s, end := Read(st, 4)
	if s != "abcd" || end {
		t.Error(s, end)
	}
	if x, s, end := Read(x, 1); s != "e" || !end || !Ended(x) {
		t.Error(s, end)
	}
	if x, s, end := Read(st, 9); s != "abcde" || !end || !Ended(x) || !Whole(x) {
		t.Error(s, end)
	}
	if _, s, end := Read(st, -1); s != "" || end {
		t.Error(s, end)
	}
	empty, _, _ := Put(New(), 0, "", true)
	if _, s, end := Read(empty, 0); s != "" || !end || !Ended(empty) {
		t.Error(s, end)
	}
	bad := State{recvq.State{Base: 5, Ready: "abc", Parts: []recvq.Part{{At: 5}}}, 5}
	if x, s, end := Read(bad, 2); s != "" || end || Whole(bad) || Ended(bad) || !Same(x, bad) {
		t.Error(s, end)
	}
}

// P24.3
func TestReadHangsOnWhatCameAlone(t *testing.T) {
	for _, end := range []int{0, 2, 4, -2, -7, api.MaxOffset + 1, math.MinInt, math.MaxInt} {
		st := State{recvq.State{Base: 3, Ready: "abc", Parts: []recvq.Part{{At: 7, Data: "x"}}}, end}
		if Check(st) != api.ErrRange {
			t.Error(end, Check(st))
		}
		for _, n := range []int{math.MinInt, -1, 0, 1, 2, 3, math.MaxInt} {
			want, text := recvq.Read(st.Recv, n)
			if x, s, ended := Read(st, n); s != text || ended || !recvq.Same(x.Recv, want) || x.End != end {
				t.Error(end, n, x, s, ended)
			}
		}
	}
	st := State{recvq.State{Base: 1, Ready: "c"}, 0}
	if x, s, ended := Read(st, 1); s != "c" || ended || !Same(x, State{recvq.State{Base: 1}, 0}) {
		t.Error(x, s, ended)
	}
	// Nothing is ready any more, and the end is wrong: it is not told.
	if x, s, ended := Read(State{recvq.State{Base: api.MaxOffset + 1}, api.MaxOffset + 1}, 1); s != "" || ended {
		t.Error(x, s, ended)
	}
}

// P24.4
func TestBeginnings(t *testing.T) {
	r := rand.New(rand.NewSource(24))
	for range 100 {
		all := strings.Repeat("abcdefg", r.Intn(40))
		st, read := New(), ""
		for range 4000 {
			at := r.Intn(len(all) + 1)
			to := min(len(all), at+r.Intn(20))
			st, _, _ = Put(st, at, all[at:to], to == len(all))
			if st.End >= 0 {
				if x, n, code := Put(st, at, all[at:]+"!", false); code != api.StreamClosed || n != 0 || !Same(x, st) {
					t.Fatal("a byte behind the end")
				}
			}
			x, s, end := Read(st, r.Intn(9))
			st = x
			if read += s; !strings.HasPrefix(all, read) || end != (st.End >= 0 && read == all) || Check(st) != api.OK {
				t.Fatal(read, end)
			}
			if end {
				break
			}
		}
		if read != all {
			t.Fatal("not all was read")
		}
	}
}
