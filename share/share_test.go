package share

import (
	"math"
	"math/rand"
	"slices"
	"testing"

	"sennit/api"
	"sennit/ptree"
)

// tree makes a tree with nodes of numbers, parents and weights.
func tree(l ...int) *ptree.Tree {
	t, _ := ptree.New(24, 8)
	for i := 0; i < len(l); i += 3 {
		t.Insert(l[i], l[i+1], l[i+2], false)
	}
	return t
}

// P20.1
func TestCheckSame(t *testing.T) {
	many := make(State, 26)
	for i := range many {
		many[i].Parent = i
	}
	wide := make([]Member, 25)
	for i := range wide {
		wide[i] = Member{i + 1, 1, 0}
	}
	for i, x := range []struct {
		st   State
		want api.Errno
	}{
		{nil, api.OK}, {many[:25], api.OK}, {State{{0, wide[:24]}}, api.OK}, {State{{api.MaxID, []Member{{api.MaxID, 256, 1 << 40}}}}, api.OK},
		{append(slices.Clone(many[:25]), Group{-1, nil}), api.ErrLong}, {State{{-1, nil}, {0, wide}}, api.ErrLong},
		{State{{-1, nil}}, api.ErrRange}, {State{{api.MaxID + 1, nil}}, api.ErrRange}, {State{{0, []Member{{0, 1, 0}}}}, api.ErrRange},
		{State{{0, []Member{{api.MaxID + 1, 1, 0}}}}, api.ErrRange}, {State{{0, []Member{{1, 0, 0}}}}, api.ErrRange}, {State{{0, []Member{{1, 257, 0}}}}, api.ErrRange},
		{State{{0, []Member{{1, 1, -1}}}}, api.ErrRange}, {State{{1, nil}, {0, []Member{{1, 1, 1<<40 + 1}}}}, api.ErrRange},
		{State{{1, nil}, {1, nil}}, api.ErrOrder}, {State{{1, nil}, {0, nil}}, api.ErrOrder}, {State{{0, []Member{{2, 1, 0}, {2, 1, 0}}}}, api.ErrOrder},
		{State{{0, []Member{{2, 1, 0}, {1, 1, 0}}}}, api.ErrOrder},
	} {
		if Check(x.st) != x.want {
			t.Error(i, Check(x.st))
		}
	}
	a := State{{0, []Member{{1, 2, 3}}}}
	for _, b := range []State{nil, {{1, a[0].Members}}, {{0, nil}}, {{0, []Member{{1, 2, 4}}}}, {{0, []Member{{1, 3, 3}}}}} {
		if Same(a, b) || !Same(a, kept(a)) {
			t.Error(b)
		}
	}
}

// P20.2
func TestPick(t *testing.T) {
	p := tree(1, 0, 16, 3, 0, 32, 5, 3, 8, 7, 3, 8, 9, 5, 4)
	st, id := Pick(nil, p, []int{9, 7, 7, 99})
	want := State{{0, []Member{{3, 32, 0}}}, {3, []Member{{5, 8, 0}, {7, 8, 0}}}, {5, []Member{{9, 4, 0}}}}
	if id != 9 || !Same(st, want) {
		t.Error(id, st)
	}
	for i, l := range [][]int{nil, {99}, {0, -1}} {
		if x, id := Pick(want, p, l); id != 0 || !Same(x, want) {
			t.Error(i, id, x)
		}
	}
	if x, id := Pick(want, nil, []int{1}); id != 0 || !Same(x, want) {
		t.Error(id, x)
	}
	bad := State{{0, []Member{{1, 0, 0}}}}
	if x, id := Pick(bad, p, []int{1}); id != 0 || !Same(x, bad) {
		t.Error(id, x)
	}
	// Sents stay with the same members and weights; groups without a node are gone, those not looked at stay.
	st = State{{0, []Member{{1, 16, 10}, {3, 32, 19}}}, {3, []Member{{5, 8, 7}}}, {5, []Member{{9, 4, 1}}}, {77, []Member{{1, 1, 1}}}}
	x, id := Pick(st, p, []int{1, 7})
	if id != 7 || !Same(x, State{st[0], {3, []Member{{7, 8, 0}}}, st[2]}) {
		t.Error(id, x)
	}
	if x, id := Pick(st, p, []int{1, 3}); id != 3 || !Same(x, st[:3]) {
		t.Error(id, x)
	}
	p.Move(3, 0, 31, false)
	if x, id := Pick(st, p, []int{1, 3}); id != 1 || !Same(x[:1], State{{0, []Member{{1, 16, 0}, {3, 31, 0}}}}) {
		t.Error(id, x)
	}
	p.Close(3)
	if _, id := Pick(nil, p, []int{3, 7}); id != 7 {
		t.Error(id)
	}
	if st[0].Members[0].Sent != 10 {
		t.Error("Pick changes its argument")
	}
}

// P20.3
func TestCharge(t *testing.T) {
	p := tree(1, 0, 16, 3, 0, 32, 5, 3, 8)
	st := State{{0, []Member{{1, 16, 4}, {3, 32, 5}}}, {3, []Member{{5, 8, 6}}}}
	if x := Charge(st, p, 5, 10); !Same(x, State{{0, []Member{{1, 16, 4}, {3, 32, 15}}}, {3, []Member{{5, 8, 16}}}}) || st[1].Members[0].Sent != 6 {
		t.Error(x)
	}
	if x := Charge(st, p, 3, 1<<20); x[0].Members[1].Sent != 5+1<<20 || x[1].Members[0].Sent != 6 {
		t.Error(x)
	}
	if x := Charge(st[1:], p, 5, 1); x[0].Members[0].Sent != 7 {
		t.Error(x)
	}
	for _, x := range [][2]int{{5, -1}, {5, 1<<20 + 1}, {5, math.MaxInt}, {7, 1}, {0, 1}} {
		if !Same(Charge(st, p, x[0], x[1]), st) {
			t.Error(x)
		}
	}
	if !Same(Charge(st, nil, 5, 1), st) {
		t.Error("no tree")
	}
	bad := State{{0, []Member{{1, 16, -1}}}}
	if !Same(Charge(bad, p, 1, 1), bad) {
		t.Error("groups that may not be")
	}
	top := State{{0, []Member{{1, 16, 1<<40 - 3}, {3, 32, 5}}}}
	if x := Charge(top, p, 1, 3); !Same(x, State{{0, []Member{{1, 16, 1 << 40}, {3, 32, 5}}}}) {
		t.Error(x)
	}
	if x := Charge(top, p, 1, 4); !Same(x, State{{0, []Member{{1, 16, 4}, {3, 32, 0}}}}) {
		t.Error(x)
	}
}

// P20.4
func TestNext(t *testing.T) {
	p := tree(1, 0, 16, 3, 0, 32)
	var st State
	var got []int
	for range 6 {
		var id int
		st, id = Next(st, p, []int{1, 3}, 10)
		got = append(got, id)
	}
	if !slices.Equal(got, []int{1, 3, 3, 1, 3, 3}) {
		t.Error(got)
	}
	if x, id := Next(st, p, nil, 10); id != 0 || !Same(x, st) {
		t.Error(id)
	}
	if x, id := Next(st, p, []int{3, 1}, -1); id != 1 || !Same(x, st) {
		t.Error(id)
	}
}

// P20.5
func TestNear(t *testing.T) {
	a, b := Member{1, 16, 110}, Member{3, 32, 220}
	for i, x := range []struct {
		a, b Member
		from [2]int
		most int
		want bool
	}{
		{a, b, [2]int{10, 20}, 0, true}, {a, b, [2]int{11, 20}, 0, false}, {a, b, [2]int{11, 20}, 1, true}, {a, b, [2]int{110, 20}, 66, false}, {a, b, [2]int{110, 20}, 67, true},
		{a, b, [2]int{10, 220}, 66, false}, {a, b, [2]int{10, 220}, 67, true},
		{a, b, [2]int{111, 220}, 1 << 40, false}, {a, b, [2]int{110, 221}, 1 << 40, false}, {a, b, [2]int{-1, 20}, 1 << 40, false}, {a, b, [2]int{10, 20}, 1<<40 + 1, false},
		{a, b, [2]int{10, 20}, -1, false}, {Member{1, 0, 110}, b, [2]int{10, 20}, 99999, false}, {a, Member{3, 257, 220}, [2]int{10, 20}, 99999, false},
		{Member{1, 16, 1<<40 + 1}, b, [2]int{1 << 40, 220}, 99999, false}, {Member{1, 256, 1 << 40}, Member{1, 256, 1 << 40}, [2]int{0, 0}, 0, true},
		{Member{1, 16, math.MaxInt}, b, [2]int{0, 0}, math.MaxInt, false}, {Member{1, 16, -5}, b, [2]int{-5, 220}, 1, false},
	} {
		if Near(x.a, x.b, x.from, x.most) != x.want {
			t.Error(i)
		}
	}
}

// P20.6
func TestFairness(t *testing.T) {
	r := rand.New(rand.NewSource(20))
	for range 60 {
		p, _ := ptree.New(24, 8)
		for i := 1; i <= 12; i++ {
			p.Insert(i, r.Intn(13), 1+r.Intn(256), r.Intn(4) == 0)
		}
		l := r.Perm(14)[:1+r.Intn(13)]
		var st State
		var from State
		most := 1 + r.Intn(60)
		for i := range 400 {
			var id int
			st, id = Next(st, p, l, r.Intn(most+1))
			if ready := p.Ready(l); len(ready) > 0 && !slices.Contains(ready, id) {
				t.Fatal(id, ready)
			}
			if i == 50 {
				from = kept(st)
			}
		}
		for i, g := range from {
			for j, a := range g.Members {
				for k, b := range g.Members {
					if !Near(st[i].Members[j], st[i].Members[k], [2]int{a.Sent, b.Sent}, most) {
						t.Fatal(g, st[i])
					}
				}
			}
		}
	}
}

// P20.5: the least weights.
func TestNearLeast(t *testing.T) {
	if !Near(Member{1, 1, 5}, Member{3, 1, 6}, [2]int{0, 0}, 1) || Near(Member{1, 1, 5}, Member{3, 1, 8}, [2]int{0, 0}, 1) {
		t.Error("weights of one")
	}
}
