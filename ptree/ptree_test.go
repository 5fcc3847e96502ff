package ptree

import (
	"math"
	"math/rand"
	"slices"
	"testing"

	"sennit/api"
)

// tree makes a tree of that room, with nodes of numbers, parents and weights.
func tree(room, keep int, l ...int) *Tree {
	t, _ := New(room, keep)
	for i := 0; i < len(l); i += 3 {
		t.Insert(l[i], l[i+1], l[i+2], false)
	}
	return t
}

// is tells whether a tree has just nodes of numbers, parents and weights.
func is(t *Tree, l ...int) bool {
	var flat []int
	for _, n := range t.Nodes() {
		flat = append(flat, n.ID, n.Parent, n.Weight)
	}
	return slices.Equal(flat, l)
}

// P19.1
func TestNew(t *testing.T) {
	for _, x := range [][2]int{{0, 0}, {25, 0}, {-1, 0}, {5, -1}, {5, 6}, {math.MaxInt, math.MaxInt}, {math.MinInt, math.MinInt}} {
		if p, e := New(x[0], x[1]); p != nil || e != api.ErrRange {
			t.Error(x, e)
		}
	}
	for _, x := range [][2]int{{1, 0}, {24, 24}, {1, 1}} {
		if p, e := New(x[0], x[1]); p == nil || e != api.OK || p.Len() != 0 {
			t.Error(x, e)
		}
	}
	var p *Tree
	if p.Insert(0, 0, 0, true) != api.ErrNil || p.Move(1, 1, 1, true) != api.ErrNil || p.Close(1) != api.ErrNil || p.Remove(1) != api.ErrNil {
		t.Error("nil")
	}
	if len(p.Nodes())+len(p.Closed())+len(p.Path(1))+len(p.Kids(0))+len(p.Ready([]int{1}))+p.Len() != 0 {
		t.Error("nil")
	}
}

// P19.2
func TestInsert(t *testing.T) {
	p := tree(3, 2, 1, 0, 16)
	for _, x := range []struct {
		id, dep, weight int
		want            api.Errno
	}{
		{0, 0, 16, api.ErrRange}, {-1, 0, 16, api.ErrRange}, {api.MaxID + 1, 0, 16, api.ErrRange}, {3, -1, 16, api.ErrRange}, {3, api.MaxID + 1, 16, api.ErrRange},
		{3, 0, 0, api.ErrRange}, {3, 0, 257, api.ErrRange}, {1, 1, 0, api.ErrRange}, {1, 1, 16, api.ErrForm}, {3, 3, 16, api.ErrForm}, {1, 0, 16, api.ErrThere},
		{api.MaxID, 1, 256, api.OK}, {5, 99, 7, api.OK}, {7, 0, 1, api.ErrFull}, {1, 0, 1, api.ErrThere},
	} {
		if e := p.Insert(x.id, x.dep, x.weight, true); e != x.want {
			t.Error(x, e)
		}
	}
	if !is(p, 1, 0, 16, 5, 0, 16, api.MaxID, 1, 256) { // 99 is no node: only counts as false
		t.Error(p.Nodes())
	}
	p.Close(1)
	p.Close(5)
	if e := p.Insert(7, 1, 9, true); e != api.OK || !is(p, 5, 0, 16, 7, 0, 16, api.MaxID, 0, 16) || !slices.Equal(p.Closed(), []int{5}) {
		t.Error(e, p.Nodes(), p.Closed()) // the node it depends on was closed first
	}
	p = tree(9, 2, 1, 0, 16, 3, 1, 20, 5, 1, 30, 7, 3, 40)
	if e := p.Insert(9, 1, 50, true); e != api.OK || !is(p, 1, 0, 16, 3, 9, 20, 5, 9, 30, 7, 3, 40, 9, 1, 50) {
		t.Error(p.Nodes())
	}
	if e := p.Insert(11, 0, 2, true); e != api.OK || !slices.Equal(p.Kids(0), []int{11}) || !slices.Equal(p.Kids(11), []int{1}) {
		t.Error(p.Nodes())
	}
}

// P19.3
func TestMove(t *testing.T) {
	p := tree(9, 2, 1, 0, 16, 3, 1, 17, 5, 3, 18)
	if e := p.Move(1, 5, 19, true); e != api.OK || !is(p, 1, 5, 19, 3, 1, 17, 5, 0, 18) {
		t.Error(p.Nodes())
	}
	for _, x := range []struct {
		id, dep, weight int
		want            api.Errno
	}{{0, 0, 1, api.ErrRange}, {1, 0, 257, api.ErrRange}, {1, -1, 1, api.ErrRange}, {1, 1, 1, api.ErrForm}, {7, 3, 8, api.OK}} {
		if e := p.Move(x.id, x.dep, x.weight, false); e != x.want {
			t.Error(x, e)
		}
	}
	if !is(p, 1, 5, 19, 3, 1, 17, 5, 0, 18, 7, 3, 8) {
		t.Error(p.Nodes())
	}
	if p.Move(3, 99, 100, true); !is(p, 1, 5, 19, 3, 0, 16, 5, 0, 18, 7, 3, 8) {
		t.Error(p.Nodes())
	}
	if p.Move(5, 0, 33, true); !is(p, 1, 5, 19, 3, 5, 16, 5, 0, 33, 7, 3, 8) {
		t.Error(p.Nodes())
	}
	if p.Move(5, 7, 34, false); !is(p, 1, 5, 19, 3, 5, 16, 5, 7, 34, 7, 0, 8) {
		t.Error(p.Nodes())
	}
	full := tree(1, 0, 1, 0, 16)
	if e := full.Move(3, 0, 16, false); e != api.ErrFull {
		t.Error(e)
	}
}

// P19.4
func TestCloseRemove(t *testing.T) {
	p := tree(9, 1, 1, 0, 10, 3, 1, 1, 5, 1, 2, 7, 1, 30, 9, 7, 40)
	if p.Close(2) != api.ErrNone || p.Remove(0) != api.ErrNone || p.Close(0) != api.ErrNone || p.Close(-1) != api.ErrNone {
		t.Error("ErrNone")
	}
	if p.Close(3) != api.OK || p.Close(3) != api.ErrState || !slices.Equal(p.Closed(), []int{3}) || p.Len() != 5 {
		t.Error(p.Closed())
	}
	if p.Remove(1) != api.OK || !is(p, 3, 0, 1, 5, 0, 1, 7, 0, 9, 9, 7, 40) { // by 33: 10/33, 20/33, 300/33
		t.Error(p.Nodes())
	}
	if p.Close(7) != api.OK || !is(p, 5, 0, 1, 7, 0, 9, 9, 7, 40) || !slices.Equal(p.Closed(), []int{7}) {
		t.Error(p.Nodes(), p.Closed())
	}
	if p.Remove(7) != api.OK || !is(p, 5, 0, 1, 9, 0, 9) || len(p.Closed()) != 0 {
		t.Error(p.Nodes(), p.Closed())
	}
	p = tree(9, 0, 1, 0, 10)
	if p.Close(1) != api.OK || p.Len() != 0 || len(p.Closed()) != 0 {
		t.Error("none is kept")
	}
}

// P19.5
func TestTelling(t *testing.T) {
	p := tree(9, 3, 5, 0, 16, 3, 5, 17, 9, 5, 18, 1, 3, 19)
	p.Close(9)
	p.Close(3)
	want := []Node{{1, 3, 19, false}, {3, 5, 17, true}, {5, 0, 16, false}, {9, 5, 18, true}}
	if !slices.Equal(p.Nodes(), want) || !slices.Equal(p.Closed(), []int{9, 3}) || p.Len() != 4 {
		t.Error(p.Nodes(), p.Closed())
	}
	if !slices.Equal(p.Path(1), []int{3, 5}) || len(p.Path(5)) != 0 || len(p.Path(7)) != 0 || len(p.Path(0)) != 0 || len(p.Path(math.MinInt)) != 0 {
		t.Error("Path")
	}
	if !slices.Equal(p.Kids(5), []int{3, 9}) || !slices.Equal(p.Kids(0), []int{5}) || len(p.Kids(1)) != 0 || len(p.Kids(-1)) != 0 || len(p.Kids(77)) != 0 {
		t.Error("Kids")
	}
	p.Closed()[0] = 77
	p.Nodes()[0].ID = 77
	if !slices.Equal(p.Closed(), []int{9, 3}) || p.Nodes()[0].ID != 1 {
		t.Error("the answers share")
	}
}

// P19.6
func TestReady(t *testing.T) {
	p := tree(9, 3, 5, 0, 16, 3, 5, 17, 9, 5, 18, 1, 3, 19)
	for _, x := range []struct{ l, want []int }{
		{nil, nil}, {[]int{9, 1, 9, 77, 0, -1}, []int{1, 9}}, {[]int{1, 3}, []int{3}}, {[]int{1, 5}, []int{5}}, {[]int{1, 77}, []int{1}},
	} {
		if got := p.Ready(x.l); !slices.Equal(got, x.want) {
			t.Error(x, got)
		}
	}
	p.Close(3)
	if got := p.Ready([]int{3, 1}); !slices.Equal(got, []int{1}) { // a closed one hinders none
		t.Error(got)
	}
}

// P19.7
func TestATreeAllAlong(t *testing.T) {
	r := rand.New(rand.NewSource(19))
	for range 40 {
		room := 1 + r.Intn(24)
		keep := r.Intn(room + 1)
		p, _ := New(room, keep)
		for range 200 {
			id, dep, weight, only := r.Intn(30), r.Intn(30), r.Intn(258), r.Intn(3) == 0
			was, closed := p.Nodes(), p.Closed()
			var e api.Errno
			switch r.Intn(6) {
			case 0, 1:
				e = p.Insert(id, dep, weight, only)
			case 2, 3:
				e = p.Move(id, dep, weight, only)
			case 4:
				e = p.Close(id)
			case 5:
				e = p.Remove(id)
			}
			if e != api.OK && (!slices.Equal(was, p.Nodes()) || !slices.Equal(closed, p.Closed())) {
				t.Fatal("an error changed something")
			}
			if p.Len() > room || len(p.Closed()) > keep || len(p.Nodes()) != p.Len() {
				t.Fatal(p.Nodes())
			}
			l := r.Perm(30)[:r.Intn(10)]
			ready := p.Ready(l)
			for _, n := range p.Nodes() {
				path := p.Path(n.ID)
				if n.Closed != slices.Contains(p.Closed(), n.ID) || n.Weight < 1 || n.Weight > 256 || len(path) > p.Len() {
					t.Fatal(n, path)
				}
				top := n.ID
				if len(path) > 0 {
					top = path[len(path)-1]
				}
				if !slices.Contains(p.Kids(0), top) || slices.Contains(path, n.ID) || !slices.Contains(p.Kids(n.Parent), n.ID) {
					t.Fatal("not a tree", p.Nodes())
				}
				above := slices.ContainsFunc(path, func(id int) bool { return slices.Contains(ready, id) })
				if !n.Closed && slices.Contains(l, n.ID) && slices.Contains(ready, n.ID) == above {
					t.Fatal(l, ready, p.Nodes())
				}
			}
		}
	}
}

// P19.2, P19.5: edges.
func TestEdges(t *testing.T) {
	p := tree(9, 2)
	if e := p.Insert(1, api.MaxID, 256, false); e != api.OK || !is(p, 1, 0, 16) {
		t.Error(e)
	}
	for _, id := range []int{9, 5, 7, 3} {
		p.Insert(id, 1, 16, false)
	}
	p.Remove(5)
	p.Insert(11, 1, 16, false) // in a place that was given back
	if !slices.Equal(p.Kids(1), []int{3, 7, 9, 11}) {
		t.Error(p.Kids(1))
	}
}
