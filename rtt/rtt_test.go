package rtt

import (
	"math"
	"math/rand"
	"testing"

	"sennit/api"
)

// P8.1
func TestNewCheck(t *testing.T) {
	if New() != (State{}) || Check(New()) != api.OK {
		t.Error("New")
	}
	for _, x := range []struct {
		st   State
		want api.Errno
	}{
		{State{1 << 20, 1 << 20, true, 6}, api.OK}, {State{0, 0, true, 0}, api.OK}, {State{0, 0, false, 6}, api.OK},
		{State{1<<20 + 1, 0, true, 0}, api.ErrRange}, {State{0, 1<<20 + 1, true, 0}, api.ErrRange}, {State{-1, 0, true, 0}, api.ErrRange},
		{State{0, -1, true, 0}, api.ErrRange}, {State{0, 0, true, 7}, api.ErrRange}, {State{0, 0, true, -1}, api.ErrRange},
		{State{1, 0, false, 9}, api.ErrRange}, {State{1, 0, false, 0}, api.ErrForm}, {State{0, 1, false, 0}, api.ErrForm},
	} {
		if Check(x.st) != x.want {
			t.Error(x)
		}
	}
}

// P8.2
func TestSample(t *testing.T) {
	st := Sample(New(), 3)
	if st != (State{24, 6, true, 0}) {
		t.Error(st)
	}
	st.Shift = 4
	if x := Sample(st, 10); x != (State{31, 6 + 7 - 1, true, 0}) {
		t.Error(x)
	}
	if x := Sample(State{31, 12, true, 2}, 1); x != (State{29, 12 + 2 - 3, true, 0}) {
		t.Error(x)
	}
	if x := Sample(State{7, 0, true, 0}, 0); x != (State{7, 0, true, 0}) {
		t.Error(x)
	}
	if x := Sample(Expire(New()), 0); x != (State{0, 0, true, 0}) {
		t.Error(x)
	}
	if x := Sample(New(), 1<<16); x != (State{1 << 19, 1 << 17, true, 0}) {
		t.Error(x)
	}
	for _, n := range []int{-1, 1<<16 + 1, math.MinInt, math.MaxInt} {
		if Sample(st, n) != st {
			t.Error(n)
		}
	}
	if bad := (State{1, 1, false, 1}); Sample(bad, 3) != bad {
		t.Error("a state that may not be")
	}
}

// P8.3
func TestExpireWait(t *testing.T) {
	st := New()
	for _, want := range []int{8, 16, 32, 64, 64, 64, 64, 64} {
		if Wait(st) != want {
			t.Error(st, Wait(st))
		}
		st = Expire(st)
	}
	if st.Shift != 6 {
		t.Error(st)
	}
	for _, x := range []struct {
		st   State
		want int
	}{
		{State{24, 6, true, 0}, 9}, {State{24, 6, true, 2}, 36}, {State{0, 0, true, 0}, 2}, {State{0, 0, true, 6}, 64}, {State{15, 0, true, 1}, 4},
		{State{1 << 20, 1 << 20, true, 6}, 64}, {State{1, 0, false, 3}, 8}, {State{9, 9, true, 7}, 8},
	} {
		if Wait(x.st) != x.want {
			t.Error(x, Wait(x.st))
		}
	}
	if bad := (State{0, 0, true, -1}); Expire(bad) != bad {
		t.Error("a state that may not be")
	}
}

// P8.4
func TestRun(t *testing.T) {
	if x := Run(New(), []int{3, -1, math.MinInt}); x != (State{24, 6, true, 2}) {
		t.Error(x)
	}
	if x := Run(New(), []int{-1, -5, 3, 10}); x != Sample(Sample(New(), 3), 10) {
		t.Error(x)
	}
	if x := Run(State{1, 2, true, 3}, nil); x != (State{1, 2, true, 3}) {
		t.Error(x)
	}
	if x := Run(New(), []int{0}); !x.Known {
		t.Error(x)
	}
}

// P8.5
func TestMayStillBe(t *testing.T) {
	r := rand.New(rand.NewSource(9))
	st := New()
	for range 5000 {
		st = Run(st, []int{r.Intn(1<<uint(1+r.Intn(17))) - 1})
		if w := Wait(st); Check(st) != api.OK || w < Least || w > Most {
			t.Fatal(st, w)
		}
		x, was := st, 0
		for range 8 {
			if Wait(x) < was {
				t.Fatal("a wait fell", x)
			}
			was, x = Wait(x), Expire(x)
		}
		if was != Most {
			t.Fatal(st, was)
		}
	}
	for range 5000 {
		st := State{r.Intn(1<<20 + 1), r.Intn(1<<20 + 1), true, r.Intn(7)}
		if x := Sample(st, r.Intn(1<<16+1)); Check(x) != api.OK {
			t.Fatal(st, x)
		}
	}
}

// P8.2: nothing may be the smooth time.
func TestSampleOfNothing(t *testing.T) {
	if x := Sample(State{0, 0, true, 3}, 0); x != (State{0, 0, true, 0}) {
		t.Error(x)
	}
}
