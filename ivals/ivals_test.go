package ivals

import (
	"math"
	"math/rand"
	"testing"

	"sennit/api"
)

// P6.1
func TestCheckCountSame(t *testing.T) {
	for _, x := range []struct {
		s    Set
		want api.Errno
		n    int
	}{
		{nil, api.OK, 0},
		{Set{{0, 1}, {2, 5}}, api.OK, 4},
		{Set{{0, api.MaxVar}}, api.OK, api.MaxVar},
		{Set{{0, api.MaxVar + 1}}, api.ErrRange, 0},
		{Set{{-1, 3}}, api.ErrRange, 0},
		{Set{{3, 2}, {0, -1}}, api.ErrRange, 0},
		{Set{{5, 7}, {1, 1}}, api.ErrForm, 0},
		{Set{{3, 2}}, api.ErrForm, 0},
		{Set{{0, 2}, {2, 3}}, api.ErrOrder, 0},
		{Set{{4, 6}, {0, 2}}, api.ErrOrder, 0},
		{Set{{0, 5}, {3, 9}}, api.ErrOrder, 0},
	} {
		if Check(x.s) != x.want || Count(x.s) != x.n {
			t.Error(x, Check(x.s), Count(x.s))
		}
	}
	if !Same(nil, Set{}) || Same(Set{{0, 1}}, nil) || Same(Set{{0, 1}}, Set{{0, 2}}) || !Same(Set{{3, 1}}, Set{{3, 1}}) {
		t.Error("Same")
	}
}

// P6.2
func TestAddCut(t *testing.T) {
	s := Set{{1, 3}, {5, 7}, {9, 11}}
	for _, x := range []struct {
		x        Ival
		add, cut Set
	}{
		{Ival{3, 5}, Set{{1, 7}, {9, 11}}, s},
		{Ival{2, 10}, Set{{1, 11}}, Set{{1, 2}, {10, 11}}},
		{Ival{6, 6}, s, s},
		{Ival{7, 6}, s, s},
		{Ival{0, 1}, Set{{0, 3}, {5, 7}, {9, 11}}, s},
		{Ival{11, 12}, Set{{1, 3}, {5, 7}, {9, 12}}, s},
		{Ival{13, 14}, Set{{1, 3}, {5, 7}, {9, 11}, {13, 14}}, s},
		{Ival{5, 6}, s, Set{{1, 3}, {6, 7}, {9, 11}}},
		{Ival{0, api.MaxVar}, Set{{0, api.MaxVar}}, nil},
		{Ival{-1, 20}, s, s},
		{Ival{0, api.MaxVar + 1}, s, s},
		{Ival{math.MinInt, math.MaxInt}, s, s},
	} {
		if a, c := Add(s, x.x), Cut(s, x.x); !Same(a, x.add) || !Same(c, x.cut) {
			t.Error(x, a, c)
		}
	}
	if x := Cut(Set{{1, 5}}, Ival{2, 4}); !Same(x, Set{{1, 2}, {4, 5}}) {
		t.Error(x)
	}
	bad := Set{{3, 4}, {1, 2}}
	if !Same(Add(bad, Ival{7, 8}), bad) || !Same(Cut(bad, Ival{1, 2}), bad) {
		t.Error("a set that may not be")
	}
	a := Add(s, Ival{1, 2})
	a[0].From = 0
	if s[0].From != 1 {
		t.Error("Add shares its argument")
	}
}

// P6.3
func TestHasHoldsFirst(t *testing.T) {
	s := Set{{1, 3}, {5, 7}}
	for n, want := range map[int]bool{-1: false, 0: false, 1: true, 2: true, 3: false, 4: false, 6: true, 7: false, math.MinInt: false, math.MaxInt: false} {
		if Has(s, n) != want {
			t.Error(n)
		}
	}
	for x, want := range map[Ival]bool{{1, 3}: true, {1, 4}: false, {2, 2}: true, {9, 3}: true, {1, 7}: false, {5, 6}: true, {0, 2}: false, {-3, -4}: true} {
		if Holds(s, x) != want {
			t.Error(x)
		}
	}
	for from, want := range map[int]int{-7: 0, 0: 0, 1: 3, 2: 3, 3: 3, 5: 7, 6: 7, 8: 8} {
		if First(s, from) != want {
			t.Error(from, First(s, from))
		}
	}
}

// P6.4
func TestGapsMeet(t *testing.T) {
	s := Set{{1, 3}, {5, 7}}
	for _, x := range []struct {
		x    Ival
		want Set
	}{
		{Ival{0, 9}, Set{{0, 1}, {3, 5}, {7, 9}}}, {Ival{1, 3}, nil}, {Ival{2, 6}, Set{{3, 5}}}, {Ival{4, 4}, nil}, {Ival{4, 2}, nil}, {Ival{-1, 9}, nil},
		{Ival{0, api.MaxVar + 1}, nil}, {Ival{8, 9}, Set{{8, 9}}},
	} {
		if g := Gaps(s, x.x); !Same(g, x.want) {
			t.Error(x, g)
		}
	}
	if g := Gaps(Set{{3, 3}}, Ival{0, 5}); len(g) != 0 {
		t.Error(g)
	}
	if m := Meet(s, Set{{0, 2}, {4, 6}, {8, 9}}); !Same(m, Set{{1, 2}, {5, 6}}) {
		t.Error(m)
	}
	if len(Meet(s, Set{{2, 2}})) != 0 || len(Meet(Set{{2, 2}}, s)) != 0 || len(Meet(s, nil)) != 0 {
		t.Error("Meet")
	}
}

// P6.5: sets are held against plain sets of the numbers below 24.
func TestPlainSet(t *testing.T) {
	r := rand.New(rand.NewSource(7))
	plain := func(s Set) (out [24]bool) {
		for i := range out {
			out[i] = Has(s, i)
		}
		return
	}
	var s, o Set
	for range 3000 {
		x := Ival{r.Intn(24), r.Intn(25)}
		was, in := plain(s), Ival{x.From, max(x.From, x.To)}
		cut := r.Intn(2) == 0
		if cut {
			s = Cut(s, x)
		} else {
			s = Add(s, x)
		}
		n, both := 0, Meet(s, o)
		gaps := Gaps(s, x)
		for i, has := range plain(s) {
			if within := in.From <= i && i < in.To; within && has == cut || !within && has != was[i] {
				t.Fatal(s, x, cut)
			} else if Has(gaps, i) != (within && !has) || Has(both, i) != (has && Has(o, i)) {
				t.Fatal(s, x, gaps, both)
			}
			if has {
				n++
			}
			if f := First(s, i); f < i || Has(s, f) || f > i && !Holds(s, Ival{i, f}) {
				t.Fatal(s, i, f)
			}
		}
		if Check(s) != api.OK || Check(both) != api.OK || Check(gaps) != api.OK || Count(s) != n {
			t.Fatal(s, both, gaps)
		}
		if r.Intn(5) == 0 {
			o = s
		}
		var again Set
		for i := 23; i >= 0; i-- {
			if Has(s, i) {
				again = Add(again, Ival{i, i + 1})
			}
		}
		if !Same(again, s) {
			t.Fatal("told in two ways", again, s)
		}
	}
}

// P6.1, P6.4: the edges of what Check refuses.
func TestRefusedEdges(t *testing.T) {
	for i, x := range []struct {
		s    Set
		want api.Errno
	}{
		{Set{{api.MaxVar + 1, 5}}, api.ErrRange}, {Set{{api.MaxVar, api.MaxVar}}, api.ErrForm}, {Set{{0, 0}}, api.ErrForm}, {Set{{3, 0}}, api.ErrForm}, {Set{{3, -1}}, api.ErrRange}, {Set{{0, 1}}, api.OK},
	} {
		if Check(x.s) != x.want {
			t.Error(i, Check(x.s))
		}
	}
	bad, fine := Set{{4, 6}, {1, 3}}, Set{{0, 9}}
	if len(Meet(bad, fine)) != 0 || len(Meet(fine, bad)) != 0 || len(Gaps(bad, Ival{0, 9})) != 0 {
		t.Error("a set that may not be")
	}
	if m := Meet(Set{{0, 3}, {5, 9}}, Set{{2, 6}, {8, 20}}); !Same(m, Set{{2, 3}, {5, 6}, {8, 9}}) {
		t.Error(m)
	}
}
