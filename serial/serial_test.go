package serial

import (
	"math"
	"math/rand"
	"testing"

	"sennit/api"
)

// P4.1
func TestAddDiffLess(t *testing.T) {
	for _, x := range []struct {
		a    uint32
		n    int
		want uint32
	}{{1, 2, 3}, {math.MaxUint32, 1, 0}, {0, -1, math.MaxUint32}, {5, 1 << 32, 5}, {0, math.MinInt, 0}, {0, math.MaxInt, math.MaxUint32}} {
		if Add(x.a, x.n) != x.want {
			t.Error(x, Add(x.a, x.n))
		}
	}
	for _, x := range []struct {
		a, b uint32
		want int
	}{{2, math.MaxUint32, 3}, {math.MaxUint32, 2, -3}, {1 << 31, 0, -1 << 31}, {0, 1 << 31, -1 << 31}, {1<<31 - 1, 0, 1<<31 - 1}, {7, 7, 0}} {
		if Diff(x.a, x.b) != x.want || Less(x.a, x.b) != (x.want < 0) {
			t.Error(x, Diff(x.a, x.b))
		}
	}
}

// P4.2
func TestLongShort(t *testing.T) {
	for _, x := range []struct {
		near int
		a    uint32
		want int
	}{
		{1<<32 + 5, math.MaxUint32, 1<<32 - 1},
		{0, math.MaxUint32, math.MaxUint32}, // -1 would be nearer
		{0, 1 << 31, 1 << 31},
		{1 << 31, 0, 1 << 32}, // 0 is as near
		{1<<31 - 1, 0, 0},
		{1<<31 + 1, 0, 1 << 32},
		{-5, 3, 3}, {math.MinInt, 3, 3},
		{math.MaxInt, 7, api.MaxOffset + 7}, {math.MaxInt, 0, api.MaxOffset},
		{api.MaxOffset, 1 << 31, api.MaxOffset + 1<<31},
		{3 << 32, math.MaxUint32, 3<<32 - 1},
	} {
		if got := Long(x.near, x.a); got != x.want {
			t.Error(x, got)
		}
	}
	for n, want := range map[int]uint32{0: 0, 1<<32 + 9: 9, -1: math.MaxUint32, math.MinInt: 0} {
		if Short(n) != want {
			t.Error(n, Short(n))
		}
	}
}

// P4.3
func TestInLatest(t *testing.T) {
	for _, x := range []struct {
		a, from uint32
		n       int
		want    bool
	}{
		{5, 5, 1, true}, {6, 5, 1, false}, {6, 5, 2, true}, {4, 5, 9, false}, {1, math.MaxUint32, 3, true}, {2, math.MaxUint32, 3, false},
		{5, 5, 0, false}, {5, 5, -1, false}, {4, 5, 1 << 32, true}, {4, 5, 1<<32 - 1, false}, {4, 5, math.MaxInt, true}, {4, 5, math.MinInt, false},
	} {
		if In(x.a, x.from, x.n) != x.want {
			t.Error(x)
		}
	}
	if Latest(nil, 9) != 9 || Latest([]uint32{8, math.MaxUint32}, 9) != 9 {
		t.Error("Latest of none that is behind")
	}
	if got := Latest([]uint32{math.MaxUint32, 3, 1, 1 << 31}, math.MaxUint32-1); got != 3 {
		t.Error(got)
	}
}

// P4.4
func TestRound(t *testing.T) {
	r := rand.New(rand.NewSource(5))
	for range 2000 {
		a, n := r.Uint32(), int(int32(r.Uint32()))
		if Diff(Add(a, n), a) != n {
			t.Fatal(a, n)
		}
		long := r.Intn(api.MaxOffset)
		near := long + r.Intn(1<<32-1) - (1<<31 - 1)
		if near >= 0 && near <= api.MaxOffset && Long(near, Short(long)) != long {
			t.Fatal(near, long)
		}
	}
}
