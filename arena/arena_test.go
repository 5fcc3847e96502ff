package arena

import (
	"math"
	"math/rand"
	"slices"
	"testing"

	"sennit/api"
)

// P18.1
func TestNewCheckSame(t *testing.T) {
	if !Same(New(), State{Free: -1}) || Check(New()) != api.OK || Same(New(), State{}) {
		t.Error(New())
	}
	live := Cell{Live: true, Value: 7}
	for i, x := range []struct {
		st   State
		want api.Errno
	}{
		{State{[]Cell{live, {Link: 2}, {Link: -1}}, 1, 1}, api.OK},
		{State{make([]Cell, 64), 0, 0}, api.ErrOrder},
		{State{make([]Cell, 65), 99, 0}, api.ErrLong},
		{State{nil, 0, 0}, api.ErrRange},
		{State{[]Cell{live}, -2, 1}, api.ErrRange},
		{State{[]Cell{live}, 1, 1}, api.ErrRange},
		{State{[]Cell{live, {Link: 2}}, 1, 1}, api.ErrRange},
		{State{[]Cell{{Value: 3, Link: math.MinInt}}, 0, 0}, api.ErrRange},
		{State{[]Cell{{Live: true, Link: 1}}, -1, 0}, api.ErrForm},
		{State{[]Cell{{Live: true, Link: math.MaxInt}}, -1, 1}, api.ErrForm},
		{State{[]Cell{{Value: 3, Link: -1}}, 0, 0}, api.ErrForm},
		{State{[]Cell{live}, -1, 0}, api.ErrOrder},
		{State{[]Cell{live}, -1, 2}, api.ErrOrder},
		{State{[]Cell{live}, 0, 1}, api.ErrOrder},
		{State{[]Cell{{Link: -1}}, -1, 0}, api.ErrOrder},
		{State{[]Cell{{Link: -1}, {Link: -1}}, 0, 0}, api.ErrOrder},
		{State{[]Cell{{Link: 1}, {Link: 0}}, 0, 0}, api.ErrOrder},
		{State{[]Cell{{Link: 1}, {Link: 1}}, 0, 0}, api.ErrOrder},
		{State{[]Cell{{Link: 0}}, 0, 0}, api.ErrOrder},
		{State{[]Cell{{Link: 1}, live}, 0, 1}, api.ErrOrder},
	} {
		if Check(x.st) != x.want {
			t.Error(i, Check(x.st))
		}
	}
	a := State{[]Cell{live}, -1, 1}
	for _, b := range []State{{[]Cell{{Live: true, Value: 8}}, -1, 1}, {[]Cell{live}, 0, 1}, {[]Cell{live}, -1, 2}} {
		if Same(a, b) || !Same(a, a) {
			t.Error(b)
		}
	}
}

// P18.2
func TestTake(t *testing.T) {
	st, a, _ := Take(New(), 5)
	st, b, _ := Take(st, 7)
	if a != 0 || b != 1 || st.Used != 2 {
		t.Error(a, b, st)
	}
	st, _ = Give(st, 0)
	was := kept(st)
	st, c, e := Take(st, 9)
	if c != 0 || e != api.OK || !Same(st, State{[]Cell{{true, 9, 0}, {true, 7, 0}}, -1, 2}) {
		t.Error(c, st)
	}
	if was.Cells[0].Live {
		t.Error("Take changes its argument")
	}
	full := New()
	for i := range 64 {
		var at int
		if full, at, e = Take(full, i); at != i || e != api.OK {
			t.Error(at, e)
		}
	}
	if x, at, e := Take(full, 1); at != 0 || e != api.ErrFull || !Same(x, full) {
		t.Error(at, e)
	}
	bad := State{}
	if x, at, e := Take(bad, 1); at != 0 || e != api.ErrRange || !Same(x, bad) {
		t.Error(at, e)
	}
}

// P18.3
func TestGiveSetGet(t *testing.T) {
	st := State{[]Cell{{true, 5, 0}, {false, 0, -1}, {true, 6, 0}}, 1, 2}
	if x, e := Give(st, 2); e != api.OK || !Same(x, State{[]Cell{{true, 5, 0}, {false, 0, -1}, {false, 0, 1}}, 2, 1}) || !st.Cells[2].Live {
		t.Error(x, e)
	}
	if x, e := Set(st, 2, 9); e != api.OK || x.Cells[2] != (Cell{true, 9, 0}) || st.Cells[2].Value != 6 {
		t.Error(x, e)
	}
	if v, ok := Get(st, 2); v != 6 || !ok {
		t.Error(v)
	}
	for _, at := range []int{-1, 1, 3, math.MinInt, math.MaxInt} {
		x, e := Give(st, at)
		y, e2 := Set(st, at, 1)
		v, ok := Get(st, at)
		if e != api.ErrNone || e2 != api.ErrNone || v != 0 || ok || !Same(x, st) || !Same(y, st) {
			t.Error(at, e, e2, v)
		}
	}
	bad := State{[]Cell{{true, 5, 0}}, -1, 0}
	_, e := Give(bad, 0)
	_, e2 := Set(bad, 0, 1)
	if v, ok := Get(bad, 0); v != 0 || ok || e != api.ErrOrder || e2 != api.ErrOrder {
		t.Error(v, e, e2)
	}
}

// P18.4
func TestLiveSpare(t *testing.T) {
	st := State{[]Cell{{true, 5, 0}, {false, 0, -1}, {true, 6, 0}, {false, 0, 1}}, 3, 2}
	if !slices.Equal(Live(st), []int{0, 2}) || !slices.Equal(Spare(st), []int{3, 1}) {
		t.Error(Live(st), Spare(st))
	}
	st.Used = 1
	if len(Live(st)) != 0 || len(Spare(st)) != 0 {
		t.Error("a state that may not be")
	}
}

// P18.5
func TestPlacesAreGivenAgain(t *testing.T) {
	r := rand.New(rand.NewSource(18))
	st, plain, most := New(), map[int]int{}, 0
	for range 3000 {
		if r.Intn(2) == 0 {
			spare, v := Spare(st), r.Intn(99)
			x, at, e := Take(st, v)
			if e != api.OK {
				continue
			}
			if len(spare) > 0 && at != spare[0] {
				t.Fatal("not the one that was given back last")
			}
			st = x
			plain[at] = v
		} else {
			at := r.Intn(20)
			_, there := plain[at]
			var e api.Errno
			if st, e = Give(st, at); (e == api.OK) != there {
				t.Fatal(e)
			}
			delete(plain, at)
		}
		most = max(most, len(plain))
		if Check(st) != api.OK || len(st.Cells) > most || len(Live(st)) != len(plain) {
			t.Fatal(st)
		}
		for at, v := range plain {
			if got, ok := Get(st, at); got != v || !ok {
				t.Fatal(at, v, got)
			}
		}
	}
}

// P18.5: no call changes what it is given, nor its list's spare room.
func TestNothingIsChanged(t *testing.T) {
	spare := make([]Cell, 0, 8)
	st := State{append(spare, Cell{true, 5, 0}, Cell{true, 6, 0}), -1, 2}
	x, _, _ := Take(st, 9)
	x.Cells[0].Value = 77
	y, _ := Give(st, 0)
	y.Cells[1].Value = 77
	z, _ := Set(st, 0, 9)
	z.Cells[1].Value = 77
	x, _ = Give(st, 9)
	x.Cells[0].Value = 77
	if !Same(st, State{[]Cell{{true, 5, 0}, {true, 6, 0}}, -1, 2}) || spare[:3][2] != (Cell{}) {
		t.Error(st, spare[:3])
	}
}
