package credit

import (
	"math"
	"math/rand"
	"slices"
	"testing"

	"sennit/api"
)

const off = api.MaxOffset

// P21.1
func TestNewCheckFree(t *testing.T) {
	for n, want := range map[int]api.Errno{1: api.OK, api.MaxWindow: api.OK, 0: api.ErrRange, -1: api.ErrRange, api.MaxWindow + 1: api.ErrRange, math.MinInt: api.ErrRange} {
		l, e := New(n)
		if e != want || e == api.OK && l != (Ledger{n, n, 0, 0}) || e != api.OK && l != (Ledger{}) {
			t.Error(n, l, e)
		}
	}
	for _, x := range []struct {
		l    Ledger
		want api.Errno
		free int
	}{
		{Ledger{1, off, off, off}, api.OK, 0}, {Ledger{10, 20, 15, 3}, api.OK, 5}, {Ledger{10, 0, 0, 0}, api.OK, 0},
		{Ledger{0, 20, 15, 3}, api.ErrRange, 0}, {Ledger{10, off + 1, 15, 3}, api.ErrRange, 0}, {Ledger{10, -1, -1, -1}, api.ErrRange, 0},
		{Ledger{10, 20, 21, 3}, api.ErrRange, 0}, {Ledger{10, 20, -1, -2}, api.ErrRange, 0}, {Ledger{10, 20, 15, 16}, api.ErrRange, 0}, {Ledger{10, 20, 15, -1}, api.ErrRange, 0},
	} {
		if Check(x.l) != x.want || Free(x.l) != x.free {
			t.Error(x, Free(x.l))
		}
	}
}

var bad = Ledger{10, 20, 15, 16}

// P21.2
func TestSpendGiven(t *testing.T) {
	l := Ledger{10, 20, 15, 3}
	for n, want := range map[int]bool{0: true, 5: true, 6: false, -1: false, math.MaxInt: false, math.MinInt: false} {
		x, ok := Spend(l, n)
		if ok != want || ok && x != (Ledger{10, 20, 15 + n, 3}) || !ok && x != l {
			t.Error(n, x, ok)
		}
	}
	for n, want := range map[int]bool{1: true, off - 20: true, off - 19: false, 0: false, -1: false, math.MaxInt: false, math.MinInt: false} {
		x, ok := Given(l, n)
		if ok != want || ok && x != (Ledger{10, 20 + n, 15, 3}) || !ok && x != l {
			t.Error(n, x, ok)
		}
	}
	if x, ok := Spend(bad, 0); ok || x != bad {
		t.Error(x)
	}
	if x, ok := Given(bad, 1); ok || x != bad {
		t.Error(x)
	}
}

// P21.3
func TestReachEatGrant(t *testing.T) {
	l := Ledger{10, 20, 15, 3}
	for _, x := range []struct {
		upto, used, more int
		ok               bool
	}{{20, 20, 5, true}, {15, 15, 0, true}, {0, 15, 0, true}, {21, 15, 0, false}, {-1, 15, 0, false}, {math.MinInt, 15, 0, false}, {math.MaxInt, 15, 0, false}} {
		if y, more, ok := Reach(l, x.upto); y != (Ledger{10, 20, x.used, 3}) || more != x.more || ok != x.ok {
			t.Error(x, y, more, ok)
		}
	}
	for n, read := range map[int]int{0: 3, 5: 8, 12: 15, 13: 15, -4: 3, math.MaxInt: 15, math.MinInt: 3} {
		if y := Eat(l, n); y != (Ledger{10, 20, 15, read}) {
			t.Error(n, y)
		}
	}
	for _, x := range []struct {
		l Ledger
		n int
	}{
		{Ledger{10, 10, 6, 6}, 6}, {Ledger{10, 10, 6, 5}, 5}, {Ledger{10, 10, 6, 4}, 0}, {Ledger{11, 11, 6, 5}, 5}, {Ledger{1, 1, 0, 0}, 0}, {Ledger{1, 1, 1, 1}, 1},
		{Ledger{10, 20, 3, 3}, 0}, {Ledger{10, off, off, off}, 0}, {Ledger{10, off - 5, off - 5, off - 5}, 5}, {Ledger{10, off - 4, off - 5, off - 5}, 0}, {bad, 0},
	} {
		y, n := Grant(x.l)
		x.l.Limit += x.n
		if n != x.n || y != x.l {
			t.Error(x, y, n)
		}
	}
	if y, n, ok := Reach(bad, 5); y != bad || n != 0 || ok || Eat(bad, 1) != bad {
		t.Error(y)
	}
}

// P21.4
func TestRun(t *testing.T) {
	l, _ := New(10)
	x, told := Run(l, []Act{{2, 6}, {2, 11}, {3, 6}, {4, 99}, {0, 4}, {0, 99}, {1, 3}, {1, 0}, {255, 2}, {8, 4}, {9, 0}, {7, 0}})
	if x != (Ledger{10, 19, 12, 10}) || !slices.Equal(told, []int{6, -1, 0, 6, 1, 0, 1, 0, 1, 0, 0, 0}) {
		t.Error(x, told)
	}
	if x, told := Run(bad, nil); x != bad || len(told) != 0 {
		t.Error(x)
	}
}

// P21.5
func TestTwoAgree(t *testing.T) {
	r := rand.New(rand.NewSource(21))
	for range 200 {
		window := 1 + r.Intn(50)
		in, _ := New(window)
		out := in
		for range 200 {
			var ok bool
			switch r.Intn(3) {
			case 0:
				n := r.Intn(20)
				if out, ok = Spend(out, n); ok {
					if in, _, ok = Reach(in, out.Used); !ok {
						t.Fatal("the other side may not send what it may")
					}
				}
			case 1:
				in = Eat(in, r.Intn(20))
			case 2:
				var n int
				if in, n = Grant(in); n > 0 {
					if out, ok = Given(out, n); !ok {
						t.Fatal("Given")
					}
				}
			}
			if Check(in) != api.OK || Check(out) != api.OK || in.Used-in.Read > window || in.Limit != out.Limit || in.Used != out.Used {
				t.Fatal(in, out)
			}
		}
	}
}
