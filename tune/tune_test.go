package tune

import (
	"math"
	"math/rand"
	"slices"
	"testing"

	"sennit/api"
)

// pair makes settings of numbers and values.
func pair(l ...int) (out []api.Pair) {
	for i := 0; i < len(l); i += 2 {
		out = append(out, api.Pair{ID: l[i], Value: l[i+1]})
	}
	return out
}

// P26.1
func TestFirstCheckEnough(t *testing.T) {
	if First() != (Values{8, 256, 4096, 32}) {
		t.Error(First())
	}
	for _, x := range []struct {
		v      Values
		want   api.Errno
		enough bool
	}{
		{First(), api.OK, true}, {Values{0, 1, 1, 1}, api.OK, true}, {Values{8, 4096, 1 << 20, 32}, api.OK, true}, {Values{8, 257, 4096, 32}, api.OK, false},
		{Values{0, 2, 1, 1}, api.OK, false}, {Values{1, 4, 7, 1}, api.OK, false}, {Values{1, 4, 8, 1}, api.OK, true},
		{Values{-1, 1, 1, 1}, api.ErrRange, false}, {Values{9, 1, 1000, 1}, api.ErrRange, false}, {Values{1, 0, 1, 1}, api.ErrRange, false}, {Values{1, 4097, 1 << 20, 1}, api.ErrRange, false},
		{Values{1, 1, 0, 1}, api.ErrRange, false}, {Values{1, 1, 1<<20 + 1, 1}, api.ErrRange, false}, {Values{1, 1, 9, 0}, api.ErrRange, false}, {Values{1, 1, 9, 33}, api.ErrRange, false},
		{Values{math.MinInt, math.MaxInt, math.MaxInt, 1}, api.ErrRange, false},
	} {
		if Check(x.v) != x.want || Enough(x.v) != x.enough {
			t.Error(x)
		}
	}
}

// P26.2
func TestApply(t *testing.T) {
	for i, x := range []struct {
		l    []api.Pair
		want Values
		code api.Code
	}{
		{nil, First(), 0},
		{pair(2, 100), Values{8, 100, 4096, 32}, 0},
		{pair(1, 0, 2, 7, 3, 9, 4, 5, 1, 3), Values{3, 7, 9, 5}, 0},
		{pair(0, -1, 5, 99, math.MaxInt, 3, math.MinInt, 4), First(), 0},
		{pair(1, 9), Values{}, api.Protocol}, {pair(1, -1), Values{}, api.Protocol}, {pair(4, 0), Values{}, api.Protocol}, {pair(4, 33), Values{}, api.Protocol},
		{pair(2, 0), Values{}, api.Flow}, {pair(2, 4097), Values{}, api.Flow}, {pair(3, 0), Values{}, api.Flow}, {pair(3, 1<<20+1), Values{}, api.Flow},
		{pair(2, 5, 4, 33, 3, 0), Values{}, api.Protocol}, {pair(3, 0, 4, 33, 3, 5), Values{}, api.Flow},
	} {
		if got, code := Apply(First(), x.l); got != x.want || code != x.code {
			t.Error(i, got, code)
		}
	}
	if got, code := Apply(Values{}, pair(1, 1)); got != (Values{}) || code != api.Internal {
		t.Error(got, code)
	}
}

// P26.3
func TestPairsDiffLeast(t *testing.T) {
	if l := Pairs(Values{1, -2, 3, 4}); !slices.Equal(l, pair(1, 1, 2, -2, 3, 3, 4, 4)) {
		t.Error(l)
	}
	if l := Diff(First(), Values{8, 100, 4096, 31}); !slices.Equal(l, pair(2, 100, 4, 31)) {
		t.Error(l)
	}
	if len(Diff(First(), First())) != 0 || len(Diff(Values{}, First())) != 0 || len(Diff(First(), Values{})) != 0 {
		t.Error("Diff")
	}
	if v := Least(Values{1, 9, -3, 4}, Values{5, 2, 7, -8}); v != (Values{1, 2, -3, -8}) {
		t.Error(v)
	}
}

// P26.4
func TestBetween(t *testing.T) {
	r := rand.New(rand.NewSource(26))
	random := func() Values {
		return Values{r.Intn(9), 1 + r.Intn(4096), 1 + r.Intn(1<<20), 1 + r.Intn(32)}
	}
	for range 500 {
		a, b := random(), random()
		if got, code := Apply(a, Diff(a, b)); got != b || code != 0 {
			t.Fatal(a, b, got)
		}
		if got, code := Apply(a, Pairs(b)); got != b || code != 0 || Check(Least(a, b)) != api.OK {
			t.Fatal(a, b, got)
		}
		if got, code := Apply(a, pair(r.Intn(6), r.Intn(9000)-10)); code == 0 && Check(got) != api.OK {
			t.Fatal(got)
		}
	}
}
