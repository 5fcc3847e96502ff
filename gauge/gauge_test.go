package gauge

import (
	"math"
	"math/rand"
	"slices"
	"testing"
)

var (
	nan   = math.NaN()
	inf   = math.Inf(1)
	minus = math.Copysign(0, -1)
)

// P27.1
func TestKindBitsSame(t *testing.T) {
	for i, x := range []struct {
		x    float64
		kind int
	}{
		{nan, Nan}, {math.Float64frombits(0xfff8000000000003), Nan}, {-inf, MinusInf}, {-math.MaxFloat64, Minus}, {-5e-324, Minus}, {minus, MinusZero}, {0, Zero}, {5e-324, Plus},
		{math.MaxFloat64, Plus}, {inf, Inf},
	} {
		if Kind(x.x) != x.kind {
			t.Error(i, Kind(x.x))
		}
	}
	if Bits(nan) != 0x7ff8000000000001 || Bits(math.Float64frombits(0xfff0000000000009)) != 0x7ff8000000000001 || Bits(1) != 0x3ff0000000000000 || Bits(minus) != 1<<63 {
		t.Error("Bits")
	}
	if !Same(nan, -nan) || Same(0, minus) || !Same(2, 2) || Same(2, 3) || Same(inf, -inf) {
		t.Error("Same")
	}
}

// P27.2
func TestRate(t *testing.T) {
	for _, x := range []struct {
		bytes, ticks int
		want         float64
	}{{0, 0, nan}, {5, 0, inf}, {-5, 0, -inf}, {0, -1, minus}, {0, 3, 0}, {1, 4, 0.25}, {math.MaxInt, 1, 1 << 63}, {1, 3, 1.0 / 3}} {
		if got := Rate(x.bytes, x.ticks); !Same(got, x.want) {
			t.Error(x, got)
		}
	}
}

// P27.3
func TestCompareBestOrder(t *testing.T) {
	rising := []float64{nan, -inf, -2, -1, 0, 1, 2, inf}
	for i, a := range rising {
		for j, b := range rising {
			want := 0
			if i < j {
				want = -1
			} else if i > j {
				want = 1
			}
			if Compare(a, b) != want {
				t.Error(a, b, Compare(a, b))
			}
		}
	}
	if Compare(0, minus) != 0 || Compare(minus, 0) != 0 {
		t.Error("zeros")
	}
	for _, x := range []struct {
		l     []float64
		best  int
		order []int
	}{
		{nil, -1, nil}, {[]float64{nan, nan}, -1, []int{0, 1}}, {[]float64{nan, minus, 0}, 1, []int{1, 2, 0}}, {[]float64{3, inf, nan, inf, -inf}, 1, []int{1, 3, 0, 4, 2}},
		{[]float64{nan, -inf}, 1, []int{1, 0}},
	} {
		if Best(x.l) != x.best || !slices.Equal(Order(x.l), x.order) {
			t.Error(x, Best(x.l), Order(x.l))
		}
	}
}

// P27.4
func TestSmoothFold(t *testing.T) {
	for i, x := range []struct{ old, sample, want float64 }{
		{8, nan, 8}, {nan, 3, 3}, {nan, nan, nan}, {inf, 3, 3}, {3, inf, inf}, {3, -inf, -inf}, {inf, nan, inf}, {8, 16, 9}, {16, 8, 15}, {-math.MaxFloat64, math.MaxFloat64, math.MaxFloat64},
		{minus, minus, minus + 0}, {1, 1, 1}, {nan, inf, inf},
	} {
		if got := Smooth(x.old, x.sample); !Same(got, x.want) {
			t.Error(i, got)
		}
	}
	if !Same(Fold(nil), nan) || Fold([]float64{nan, 8, 16, nan}) != 9 || Fold([]float64{8, inf, 3}) != 3 {
		t.Error("Fold")
	}
}

// P27.5
func TestOrderAndBetween(t *testing.T) {
	r := rand.New(rand.NewSource(27))
	for range 1000 {
		l := make([]float64, r.Intn(8))
		for i := range l {
			l[i] = []float64{nan, inf, -inf, minus, 0, 1, -1, r.NormFloat64()}[r.Intn(8)]
		}
		order := Order(l)
		for i := 1; i < len(order); i++ {
			if c := Compare(l[order[i-1]], l[order[i]]); c < 0 || c == 0 && order[i-1] > order[i] {
				t.Fatal(l, order)
			}
		}
		if b := Best(l); b >= 0 && b != order[0] || b < 0 && len(l) > 0 && !math.IsNaN(l[order[0]]) {
			t.Fatal(l, order, b)
		}
		old, sample := int(int32(r.Uint32())), int(int32(r.Uint32()))
		x := Smooth(float64(old), float64(sample))
		if x < float64(min(old, sample)) || x > float64(max(old, sample)) || (x-float64(old))*8 != float64(sample-old) {
			t.Fatal(old, sample, x)
		}
	}
}

// P27.1: the kinds are as the chapter lists them.
func TestNumbers(t *testing.T) {
	if Nan != 0 || MinusInf != 1 || Minus != 2 || MinusZero != 3 || Zero != 4 || Plus != 5 || Inf != 6 {
		t.Error("the numbers")
	}
}
