package timer

import (
	"math"
	"math/rand"
	"slices"
	"testing"

	"sennit/api"
)

// P9.1
func TestNewSetStop(t *testing.T) {
	var none *Queue
	if none.Set(-1, -1) != api.ErrNil || none.Stop(0) {
		t.Error("nil")
	}
	q := New()
	for _, x := range [][2]int{{-1, 0}, {0, -1}, {api.MaxVar + 1, 0}, {0, api.MaxTick + 1}, {math.MinInt, math.MaxInt}} {
		if q.Set(x[0], x[1]) != api.ErrRange {
			t.Error(x)
		}
	}
	if q.Set(api.MaxVar, api.MaxTick) != api.OK || q.Set(0, 0) != api.OK || q.Len() != 2 {
		t.Error("the edges")
	}
	if !q.Stop(0) || q.Stop(0) || !q.Stop(api.MaxVar) || q.Len() != 0 {
		t.Error("Stop")
	}
	for i := range 64 {
		if q.Set(i, 100-i) != api.OK {
			t.Error(i)
		}
	}
	if q.Set(64, 1) != api.ErrFull || q.Set(64, -1) != api.ErrRange || q.Len() != 64 {
		t.Error("full")
	}
	if q.Set(5, 7) != api.OK || q.Len() != 64 {
		t.Error("one that is there")
	}
	if at, ok := q.When(5); at != 7 || !ok {
		t.Error(at, ok)
	}
}

// P9.2
func TestNextWhenLenList(t *testing.T) {
	var none *Queue
	if x, ok := none.Next(); x != (Item{}) || ok || none.Len() != 0 || none.List() != nil || none.Due(9) != nil {
		t.Error("nil")
	}
	if at, ok := none.When(1); at != 0 || ok {
		t.Error("nil")
	}
	q := New()
	if x, ok := q.Next(); x != (Item{}) || ok {
		t.Error(x)
	}
	q.Set(7, 5)
	q.Set(3, 5)
	q.Set(1, 9)
	if x, ok := q.Next(); x != (Item{5, 3}) || !ok {
		t.Error(x)
	}
	l := q.List()
	if !slices.Equal(l, []Item{{5, 3}, {5, 7}, {9, 1}}) {
		t.Error(l)
	}
	l[0] = Item{}
	if x, _ := q.Next(); x != (Item{5, 3}) {
		t.Error("List shares")
	}
	if at, ok := q.When(1); at != 9 || !ok {
		t.Error(at)
	}
	if at, ok := q.When(2); at != 0 || ok {
		t.Error(at)
	}
}

// P9.3
func TestDue(t *testing.T) {
	q := New()
	q.Set(7, 5)
	q.Set(3, 5)
	q.Set(1, 9)
	if len(q.Due(4)) != 0 || len(q.Due(math.MinInt)) != 0 {
		t.Error("too soon")
	}
	if l := q.Due(5); !slices.Equal(l, []Item{{5, 3}, {5, 7}}) || q.Len() != 1 {
		t.Error(l)
	}
	if l := q.Due(math.MaxInt); !slices.Equal(l, []Item{{9, 1}}) || q.Len() != 0 {
		t.Error(l)
	}
}

// P9.4
func TestAgainstAMap(t *testing.T) {
	r := rand.New(rand.NewSource(10))
	q, plain := New(), map[int]int{}
	list := func(now int) (l []Item) {
		for id, at := range plain {
			if at <= now {
				l = append(l, Item{at, id})
			}
		}
		slices.SortFunc(l, func(a, b Item) int {
			if a.At != b.At {
				return a.At - b.At
			}
			return a.ID - b.ID
		})
		return l
	}
	for range 5000 {
		id, at := r.Intn(90), r.Intn(50)
		_, there := plain[id]
		switch r.Intn(5) {
		case 0, 1, 2:
			if e := q.Set(id, at); (e == api.OK) != (there || len(plain) < 64) {
				t.Fatal(e)
			} else if e == api.OK {
				plain[id] = at
			}
		case 3:
			if q.Stop(id) != there {
				t.Fatal("Stop")
			}
			delete(plain, id)
		case 4:
			now := r.Intn(8)
			want := list(now)
			if !slices.Equal(q.Due(now), want) {
				t.Fatal("Due")
			}
			for _, x := range want {
				delete(plain, x.ID)
			}
		}
		if !slices.Equal(q.List(), list(99)) || q.Len() != len(plain) {
			t.Fatal(q.List(), list(99))
		}
	}
}
