package fold

import (
	"math"
	"math/rand"
	"slices"
	"testing"

	"sennit/api"
	"sennit/ptree"
)

// node makes a node.
func node(id, parent, weight int, closed bool) ptree.Node {
	return ptree.Node{ID: id, Parent: parent, Weight: weight, Closed: closed}
}

// good is 1 on 7, 3 and 7 on the root, 5 on 3, 9 on 5; 5 and 3 are closed.
func good() State {
	return State{6, 2, []ptree.Node{node(1, 7, 16, false), node(3, 0, 17, true), node(5, 3, 18, true), node(7, 0, 19, false), node(9, 5, 20, false)}, []int{5, 3}}
}

// bad may not be.
func bad() State {
	st := good()
	st.Ended = nil
	return st
}

// P34.1
func TestCheckSame(t *testing.T) {
	for i, x := range []struct {
		f    func(*State)
		want api.Errno
	}{
		{func(s *State) {}, api.OK},
		{func(s *State) { s.Room, s.Keep = 24, 24 }, api.OK},
		{func(s *State) { s.Room = 0; s.Keep = 0 }, api.ErrRange},
		{func(s *State) { s.Room = 25 }, api.ErrRange},
		{func(s *State) { s.Keep = -1 }, api.ErrRange},
		{func(s *State) { s.Keep = 7 }, api.ErrRange},
		{func(s *State) { s.Nodes[0].ID = 0; s.Room = 3 }, api.ErrRange},
		{func(s *State) { s.Nodes[4].ID = api.MaxID + 1 }, api.ErrRange},
		{func(s *State) { s.Nodes[0].Weight = 0 }, api.ErrRange},
		{func(s *State) { s.Nodes[0].Weight = 257 }, api.ErrRange},
		{func(s *State) { s.Room = 4; s.Nodes[0].ID = 3 }, api.ErrFull},
		{func(s *State) { s.Keep = 1 }, api.ErrFull},
		{func(s *State) { s.Nodes[0].ID = 3; s.Nodes[1].Parent = 99 }, api.ErrOrder},
		{func(s *State) { s.Nodes[0].ID = 4 }, api.ErrOrder},
		{func(s *State) { s.Nodes[0].Parent = 99; s.Nodes[1].Parent = 9 }, api.ErrNone},
		{func(s *State) { s.Nodes[0].Parent = -1 }, api.ErrNone},
		{func(s *State) { s.Nodes[0].Parent = 1; s.Ended = nil }, api.ErrForm},
		{func(s *State) { s.Nodes[1].Parent = 9 }, api.ErrForm},
		{func(s *State) { s.Ended = []int{5} }, api.ErrState},
		{func(s *State) { s.Ended = []int{5, 5} }, api.ErrState},
		{func(s *State) { s.Ended = []int{5, 7} }, api.ErrState},
		{func(s *State) { s.Ended = []int{5, 99} }, api.ErrState},
		{func(s *State) { s.Nodes[0].Closed = true }, api.ErrState},
	} {
		st := good()
		if x.f(&st); Check(st) != x.want || i > 0 && Same(st, good()) {
			t.Error(i, Check(st))
		}
	}
	if Check(State{}) != api.ErrRange || Check(State{Room: 1}) != api.OK || !Same(good(), good()) {
		t.Error("Check")
	}
}

// P34.2
func TestDoRun(t *testing.T) {
	for i, x := range []struct {
		op   Op
		want api.Errno
	}{
		{Op{Kind: 4}, api.ErrKind}, {Op{Kind: 255, ID: -1}, api.ErrKind}, {Op{Insert, 0, 0, 16, false}, api.ErrRange}, {Op{Insert, 1, 1, 16, false}, api.ErrForm}, {Op{Insert, 1, 0, 16, false}, api.ErrThere},
		{Op{Move, 1, 0, 257, false}, api.ErrRange}, {Op{Kind: Close, ID: 2}, api.ErrNone}, {Op{Kind: Close, ID: 5}, api.ErrState}, {Op{Kind: Remove, ID: 2}, api.ErrNone},
	} {
		if st, e := Do(good(), x.op); e != x.want || !Same(st, good()) {
			t.Error(i, e)
		}
	}
	was := good()
	st, e := Do(was, Op{Move, 3, 9, 30, true})
	want := State{6, 2, []ptree.Node{node(1, 7, 16, false), node(3, 9, 30, true), node(5, 3, 18, true), node(7, 0, 19, false), node(9, 0, 20, false)}, []int{5, 3}}
	if e != api.OK || !Same(st, want) || !Same(was, good()) {
		t.Error(e, st)
	}
	st, e = Do(good(), Op{Kind: Close, ID: 1})
	want = State{6, 2, []ptree.Node{node(1, 7, 16, true), node(3, 0, 17, true), node(7, 0, 19, false), node(9, 3, 18, false)}, []int{3, 1}}
	if e != api.OK || !Same(st, want) {
		t.Error(e, st)
	}
	if st, e := Do(bad(), Op{Kind: 9}); e != api.ErrState || !Same(st, bad()) {
		t.Error(e)
	}
	st, told := Run(State{Room: 8}, []Op{{Insert, 1, 0, 16, false}, {Insert, 3, 1, 16, false}, {Kind: 9}, {Kind: Close, ID: 1}})
	if !slices.Equal(told, []api.Errno{0, 0, api.ErrKind, 0}) || !Same(st, State{8, 0, []ptree.Node{node(3, 0, 16, false)}, nil}) {
		t.Error(st, told)
	}
	if st, told := Run(bad(), []Op{{Kind: 9}, {}}); !slices.Equal(told, []api.Errno{api.ErrState, api.ErrState}) || !Same(st, bad()) {
		t.Error(told)
	}
}

// P34.3
func TestTelling(t *testing.T) {
	st := good()
	for id, want := range map[int]int{1: 2, 3: 1, 5: 2, 7: 1, 9: 3, 0: 0, 2: 0, -1: 0, math.MinInt: 0} {
		if Depth(st, id) != want || Depth(bad(), id) != 0 {
			t.Error(id, Depth(st, id))
		}
	}
	for _, x := range [][3]int{{9, 5, 5}, {5, 9, 5}, {9, 9, 9}, {9, 3, 3}, {9, 1, 0}, {1, 7, 7}, {9, 2, 0}, {2, 2, 0}, {0, 9, 0}, {0, 0, 0}} {
		if Meet(st, x[0], x[1]) != x[2] || Meet(bad(), x[0], x[1]) != 0 {
			t.Error(x, Meet(st, x[0], x[1]))
		}
	}
	for id, want := range map[int][]int{0: {1, 3, 5, 7, 9}, 3: {5, 9}, 5: {9}, 7: {1}, 9: nil, 2: nil, -1: nil} {
		if !slices.Equal(Below(st, id), want) || len(Below(bad(), id)) != 0 {
			t.Error(id, Below(st, id))
		}
	}
	for id, want := range map[int]int{0: 36, 3: 18, 5: 20, 7: 16, 9: 0, 2: 0, -1: 0} {
		if Sum(st, id) != want || Sum(bad(), id) != 0 {
			t.Error(id, Sum(st, id))
		}
	}
}

// P34.4
func TestTheFold(t *testing.T) {
	r := rand.New(rand.NewSource(34))
	for range 60 {
		st := State{Room: 1 + r.Intn(24)}
		st.Keep = r.Intn(st.Room + 1)
		p, _ := ptree.New(st.Room, st.Keep)
		for range 150 {
			op := Op{uint8(r.Intn(4)), r.Intn(28), r.Intn(28), r.Intn(258), r.Intn(3) == 0}
			if op.Kind > Move && r.Intn(2) == 0 {
				op.Kind = Insert
			}
			var e, want api.Errno
			st, e = Do(st, op)
			switch op.Kind {
			case Insert:
				want = p.Insert(op.ID, op.Dep, op.Weight, op.Only)
			case Move:
				want = p.Move(op.ID, op.Dep, op.Weight, op.Only)
			case Close:
				want = p.Close(op.ID)
			case Remove:
				want = p.Remove(op.ID)
			}
			if e != want || !slices.Equal(st.Nodes, p.Nodes()) || !slices.Equal(st.Ended, p.Closed()) || Check(st) != api.OK {
				t.Fatal(op, e, want, st)
			}
		}
		for _, n := range st.Nodes {
			if Depth(st, n.ID) != len(p.Path(n.ID))+1 {
				t.Fatal(n)
			}
			for _, id := range Below(st, n.ID) {
				if Depth(st, id) <= Depth(st, n.ID) || Meet(st, id, n.ID) != n.ID {
					t.Fatal(id, n)
				}
			}
		}
	}
}

// P34.1, P34.2: the greatest numbers; no call changes what it is given.
func TestNothingIsChanged(t *testing.T) {
	if e := Check(State{Room: 1, Nodes: []ptree.Node{node(api.MaxID, 0, 256, false)}}); e != api.OK {
		t.Error(e)
	}
	st := good()
	for i, op := range []Op{{Kind: Close, ID: 1}, {Kind: Remove, ID: 1}, {Insert, 2, 0, 1, true}, {Move, 9, 0, 1, true}, {Kind: 9}} {
		x, _ := Do(st, op)
		y, _ := Run(st, []Op{op})
		z, _ := Run(st, nil)
		for _, x := range []State{x, y, z} {
			for j := range x.Nodes {
				x.Nodes[j].Weight = 77
			}
			for j := range x.Ended {
				x.Ended[j] = 77
			}
		}
		if !Same(st, good()) {
			t.Error(i, st)
		}
	}
}
