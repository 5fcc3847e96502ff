package lossy

import (
	"math"
	"math/rand"
	"slices"
	"testing"

	"sennit/api"
)

const top = 1 << 40

// three has three packets.
func three() State {
	return State{[]Packet{{0, 1, "aa"}, {2, 0, "bb"}, {0, 1, "cc"}}, 9, 4}
}

// bad may not be.
func bad() State { return State{[]Packet{{0, 2, "a"}}, 0, 0} }

// P31.1
func TestCheckSame(t *testing.T) {
	for i, x := range []struct {
		st   State
		want api.Errno
	}{
		{State{}, api.OK}, {three(), api.OK}, {State{make([]Packet, 200), top, top}, api.OK}, {State{make([]Packet, 201), -1, 0}, api.ErrLong},
		{State{[]Packet{{4, 0, ""}}, 0, 0}, api.ErrRange}, {State{[]Packet{{-1, 0, ""}}, 0, 0}, api.ErrRange}, {bad(), api.ErrRange}, {State{[]Packet{{0, -1, ""}}, 0, 0}, api.ErrRange},
		{State{nil, -1, 0}, api.ErrRange}, {State{nil, top + 1, 0}, api.ErrRange}, {State{nil, 0, -1}, api.ErrRange}, {State{nil, 0, top + 1}, api.ErrRange},
	} {
		if Check(x.st) != x.want {
			t.Error(i, Check(x.st))
		}
	}
	for i, b := range []State{{three().L[:2], 9, 4}, {three().L, 8, 4}, {three().L, 9, 5}, {append(three().L[:2:2], Packet{0, 1, "cd"}), 9, 4}} {
		if Same(three(), b) || !Same(three(), three()) {
			t.Error(i)
		}
	}
}

// P31.2
func TestSend(t *testing.T) {
	st, ok := Send(three(), Packet{3, 0, "dd"})
	if !ok || st.Sent != 10 || st.Came != 4 || len(st.L) != 4 || st.L[3] != (Packet{3, 0, "dd"}) {
		t.Error(st)
	}
	for i, x := range []struct {
		st State
		p  Packet
	}{
		{three(), Packet{4, 0, ""}}, {three(), Packet{-1, 0, ""}}, {three(), Packet{0, 2, ""}}, {three(), Packet{0, math.MinInt, ""}},
		{State{make([]Packet, 200), 0, 0}, Packet{}}, {State{nil, top, 0}, Packet{}}, {bad(), Packet{}},
	} {
		if st, ok := Send(x.st, x.p); ok || !Same(st, x.st) {
			t.Error(i)
		}
	}
}

// P31.3
func TestTakeDropFlip(t *testing.T) {
	st, p, ok := Take(three(), 1, false)
	if !ok || p != (Packet{2, 0, "bb"}) || !Same(st, State{[]Packet{{0, 1, "aa"}, {0, 1, "cc"}}, 9, 5}) {
		t.Error(st, p)
	}
	st, p, ok = Take(three(), 2, true)
	if !ok || p.Data != "cc" || !Same(st, State{three().L, 9, 5}) {
		t.Error(st, p)
	}
	late := three()
	late.Came = top
	if st, _, ok := Take(late, 0, false); !ok || st.Came != top {
		t.Error(st)
	}
	if st, ok := Drop(three(), 0); !ok || !Same(st, State{three().L[1:], 9, 4}) {
		t.Error(st)
	}
	was := three()
	if st, ok := Flip(was, 0, 3, 256+1); !ok || st.L[0].Data != "a`" || was.L[0].Data != "aa" {
		t.Error(st)
	}
	if st, ok := Flip(was, 0, math.MaxInt, math.MaxInt); !ok || st.L[0].Data == "aa" {
		t.Error(st)
	}
	for _, x := range [][3]int{{3, 0, 1}, {-1, 0, 1}, {0, -1, 1}, {0, 0, -1}, {math.MinInt, 0, 0}, {math.MaxInt, 0, 0}} {
		if st, ok := Flip(three(), x[0], x[1], x[2]); ok || !Same(st, three()) {
			t.Error(x)
		}
	}
	if _, ok := Flip(State{[]Packet{{}}, 0, 0}, 0, 0, 1); ok {
		t.Error("no bytes")
	}
	for i, x := range []State{three(), bad()} {
		n := 3 - 3*i
		a, p, ok := Take(x, n, true)
		b, ok2 := Drop(x, n)
		c, ok3 := Flip(x, n, 0, 1)
		if ok || ok2 || ok3 || p != (Packet{}) || !Same(a, x) || !Same(b, x) || !Same(c, x) {
			t.Error(i)
		}
	}
}

// P31.4
func TestCutAll(t *testing.T) {
	if st, n := Cut(three(), 0); n != 2 || !Same(st, State{three().L[1:2], 9, 4}) {
		t.Error(st, n)
	}
	if st, n := Cut(three(), 7); n != 0 || !Same(st, three()) {
		t.Error(st, n)
	}
	if st, l := All(three(), 0, 1); !slices.Equal(l, []Packet{{0, 1, "aa"}, {0, 1, "cc"}}) || !Same(st, State{three().L[1:2], 9, 6}) {
		t.Error(st, l)
	}
	for _, x := range [][2]int{{0, 0}, {2, 1}, {1, 1}, {-1, -1}} {
		if st, l := All(three(), x[0], x[1]); len(l) != 0 || !Same(st, three()) {
			t.Error(x, l)
		}
	}
	late := three()
	late.Came = top - 1
	if st, _ := All(late, 0, 1); st.Came != top {
		t.Error(st)
	}
	a, n := Cut(bad(), 0)
	b, l := All(bad(), 0, 2)
	if n != 0 || len(l) != 0 || !Same(a, bad()) || !Same(b, bad()) {
		t.Error("a state that may not be")
	}
}

// P31.5
func TestStaysAsItWas(t *testing.T) {
	r := rand.New(rand.NewSource(31))
	var st State
	var plain []Packet
	for range 5000 {
		n := r.Intn(12)
		switch r.Intn(5) {
		case 0, 1, 2:
			p := Packet{r.Intn(4), r.Intn(2), string(rune('a' + n))}
			var ok bool
			if st, ok = Send(st, p); ok {
				plain = append(plain, p)
			}
		case 3:
			var p Packet
			var ok bool
			if st, p, ok = Take(st, n, false); ok {
				if p != plain[n] {
					t.Fatal(p, plain[n])
				}
				plain = slices.Delete(plain, n, n+1)
			}
		case 4:
			var ok bool
			if st, ok = Drop(st, n); ok {
				plain = slices.Delete(plain, n, n+1)
			}
		}
		if !slices.Equal(st.L, plain) || Check(st) != api.OK {
			t.Fatal(st)
		}
	}
}

// P31.3, P31.5: nothing may be flipped; no call changes what it is given, nor its list's spare room.
func TestNothingIsChanged(t *testing.T) {
	if st, ok := Flip(three(), 0, 0, 0); !ok || !Same(st, three()) {
		t.Error(st)
	}
	spare := make([]Packet, 0, 8)
	st := three()
	st.L = append(spare, st.L...)
	calls := []func() State{
		func() State { x, _ := Send(st, Packet{}); return x },
		func() State { x, _ := Send(st, Packet{Path: 9}); return x },
		func() State { x, _, _ := Take(st, 0, false); return x },
		func() State { x, _, _ := Take(st, 0, true); return x },
		func() State { x, _ := Drop(st, 1); return x },
		func() State { x, _ := Drop(st, 9); return x },
		func() State { x, _ := Flip(st, 0, 0, 1); return x },
		func() State { x, _ := Cut(st, 2); return x },
		func() State { x, _ := All(st, 2, 0); return x },
	}
	for i, call := range calls {
		x := call()
		for j := range x.L {
			x.L[j].Data = "77"
		}
		if !Same(st, three()) || spare[:4][3] != (Packet{}) {
			t.Error(i, st)
		}
	}
}
