package aimd

import (
	"math"
	"math/rand"
	"testing"

	"sennit/api"
)

// P10.1
func TestNewCheck(t *testing.T) {
	if New() != (State{96, 1024, 0}) || Check(New()) != api.OK {
		t.Error(New())
	}
	for _, x := range []struct {
		st   State
		want api.Errno
	}{
		{State{48, 48, 47}, api.OK}, {State{4096, 4096, 4095}, api.OK}, {State{47, 48, 0}, api.ErrRange}, {State{48, 47, 0}, api.ErrRange},
		{State{4097, 48, 0}, api.ErrRange}, {State{48, 4097, 0}, api.ErrRange}, {State{48, 48, 48}, api.ErrRange}, {State{48, 48, -1}, api.ErrRange}, {State{}, api.ErrRange},
	} {
		if Check(x.st) != x.want {
			t.Error(x)
		}
	}
}

// P10.2
func TestAcked(t *testing.T) {
	for _, x := range []struct {
		st   State
		n    int
		want State
	}{
		{New(), 48, State{144, 1024, 0}}, {New(), 5, State{101, 1024, 0}}, {New(), 4096, State{144, 1024, 0}},
		{State{96, 96, 90}, 5, State{96, 96, 95}}, {State{96, 96, 90}, 6, State{144, 96, 0}}, {State{96, 96, 0}, 4096, State{144, 96, 0}},
		{State{4090, 4096, 7}, 48, State{4096, 4096, 7}}, {State{4090, 50, 4000}, 100, State{4096, 50, 0}},
		{New(), 0, New()}, {New(), -1, New()}, {New(), 4097, New()}, {New(), math.MaxInt, New()}, {State{1, 2, 3}, 48, State{1, 2, 3}},
	} {
		if got := Acked(x.st, x.n); got != x.want {
			t.Error(x, got)
		}
	}
}

// P10.3
func TestLostExpired(t *testing.T) {
	for _, x := range []struct{ st, lost, expired State }{
		{State{144, 1024, 5}, State{96, 96, 0}, State{48, 96, 0}},
		{State{401, 1024, 5}, State{200, 200, 0}, State{48, 200, 0}},
		{State{48, 48, 5}, State{96, 96, 0}, State{48, 96, 0}},
		{State{1, 48, 5}, State{1, 48, 5}, State{1, 48, 5}},
	} {
		if l, e := Lost(x.st), Expired(x.st); l != x.lost || e != x.expired {
			t.Error(x, l, e)
		}
	}
}

// P10.4
func TestFreeRun(t *testing.T) {
	for flight, want := range map[int]int{0: 96, 96: 0, 97: 0, 50: 46, -5: 96, math.MinInt: 96, math.MaxInt: 0} {
		if Free(New(), flight) != want {
			t.Error(flight)
		}
	}
	if Free(State{}, -9) != 0 {
		t.Error("a state that may not be")
	}
	if x := Run(New(), []Act{{0, 48}, {1, 7}, {5, 7}, {3, 10}}); x != Acked(Expired(Lost(Acked(New(), 48))), 10) {
		t.Error(x)
	}
	if x := Run(State{400, 48, 0}, []Act{{4, 0}}); x != Lost(State{400, 48, 0}) {
		t.Error(x)
	}
}

// P10.5
func TestMayStillBe(t *testing.T) {
	r := rand.New(rand.NewSource(11))
	st := New()
	for range 20000 {
		a := Act{uint8(r.Intn(256)), r.Intn(4200) - 50}
		if r.Intn(8) > 0 {
			a.Kind = 0
		}
		was := st
		st = Run(st, []Act{a})
		if Check(st) != api.OK || st.Win > was.Win+api.MaxPayload || a.Kind%3 != 0 && st.Win > max(was.Win, 96) {
			t.Fatal(was, a, st)
		}
	}
}

// P10.2: one byte counts.
func TestAckedOne(t *testing.T) {
	if x := Acked(New(), 1); x != (State{97, 1024, 0}) {
		t.Error(x)
	}
}
