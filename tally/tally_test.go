package tally

import (
	"math"
	"math/rand"
	"slices"
	"strings"
	"sync"
	"testing"

	"sennit/api"
	"sennit/session"
	"sennit/world"
)

const all = "steps faults wrote read sent opened refused cut pong away lost died settled"

// is tells whether a tally has just these counts.
func is(t *Tally, want ...int) bool {
	var l []int
	for _, c := range t.List() {
		l = append(l, c.N)
	}
	return slices.Equal(l, append(want, make([]int, 13-len(want))...))
}

// P36.1
func TestNames(t *testing.T) {
	l := Names()
	if strings.Join(l, " ") != all {
		t.Error(l)
	}
	l[0] = "x"
	if Names()[0] != "steps" || New().List()[0].Name != "steps" {
		t.Error("the lists share")
	}
}

// P36.1: what one does with the names that were told changes nothing, neither to others nor at the same time.
func TestNamesAreMadeAnew(t *testing.T) {
	var w sync.WaitGroup
	for range 8 {
		w.Go(func() {
			l := Names()
			l[0] = "x"
			_ = append(l, "y")
			x := New()
			if !Known("steps") || !x.Add("steps", 1) || x.Get("steps") != 1 || x.List()[0].Name != "steps" || !New().Join(x) {
				t.Error("the lists share")
			}
		})
	}
	w.Wait()
	if len(Names()) != count || strings.Join(Names(), " ") != all {
		t.Error(Names())
	}
}

// P36.1, P36.3: those are known that are told, and no others.
func TestKnown(t *testing.T) {
	for _, name := range Names() {
		if !Known(name) || !New().Add(name, 1) {
			t.Error(name)
		}
	}
	for _, name := range []string{"", "Steps", "step", "steps ", "x", all} {
		if Known(name) || New().Add(name, 1) {
			t.Error(name)
		}
	}
}

// P36.2
func TestNote(t *testing.T) {
	x := New()
	x.Note(world.Step{Kind: world.Write, Text: "hi"}, world.Answer{N: 2})
	if !is(x, 1, 0, 2) {
		t.Error(x.List())
	}
	x.Note(world.Step{Kind: world.Write}, world.Answer{N: 9, E: api.ErrDead})
	x.Note(world.Step{Kind: world.Write}, world.Answer{N: -9})
	x.Note(world.Step{Kind: world.Read, N: 99}, world.Answer{N: 7, Text: "abc"})
	x.Note(world.Step{Kind: world.Read}, world.Answer{Text: "abc", E: -1})
	x.Note(world.Step{Kind: world.Send}, world.Answer{N: 5, Text: "abc"})
	x.Note(world.Step{Kind: world.Send}, world.Answer{N: math.MinInt})
	x.Note(world.Step{Kind: 99}, world.Answer{N: 5, Text: "abc"})
	if !is(x, 8, 2, 2, 3, 5) {
		t.Error(x.List())
	}
	var events []session.Event
	for kind := -1; kind < 12; kind++ {
		for range kind {
			events = append(events, session.Event{Kind: kind})
		}
	}
	x = New()
	x.Note(world.Step{Kind: world.Tell}, world.Answer{Events: append(events, session.Event{}, session.Event{Kind: -1}), E: api.ErrNil})
	if !is(x, 1, 1, 0, 0, 0, 1, 2, 3, 4, 5, 6, 7, 8) {
		t.Error(x.List())
	}
	x.Note(world.Step{Kind: world.Write}, world.Answer{N: math.MaxInt})
	x.Note(world.Step{Kind: world.Write}, world.Answer{N: 1})
	if x.Get("wrote") != 1<<62 {
		t.Error(x.Get("wrote"))
	}
}

// P36.3
func TestAddGetList(t *testing.T) {
	x := New()
	for i, name := range strings.Fields(all) {
		if !x.Add(name, i) || x.Get(name) != i {
			t.Error(name)
		}
	}
	if !is(x, 0, 1, 2, 3, 4, 5, 6, 7, 8, 9, 10, 11, 12) {
		t.Error(x.List())
	}
	for _, name := range []string{"", "Steps", "step", "steps "} {
		if x.Add(name, 1) || x.Get(name) != 0 {
			t.Error(name)
		}
	}
	if x.Add("steps", -1) || x.Add("steps", math.MinInt) || x.Get("steps") != 0 {
		t.Error("below 0")
	}
	if !x.Add("sent", 1<<62-4) || x.Get("sent") != 1<<62 || !x.Add("sent", 1) || x.Get("sent") != 1<<62 || !x.Add("sent", math.MaxInt) || x.Get("sent") != 1<<62 {
		t.Error(x.Get("sent"))
	}
	var none *Tally
	none.Note(world.Step{}, world.Answer{})
	if none.Add("steps", 1) || none.Get("steps") != 0 || none.List() != nil {
		t.Error("nil")
	}
}

// P36.4
func TestJoin(t *testing.T) {
	a, b := New(), New()
	a.Add("steps", 1)
	b.Add("steps", 2)
	b.Add("settled", 1<<62)
	a.Add("settled", 5)
	var none *Tally
	if a.Join(a) || a.Join(nil) || none.Join(a) || none.Join(nil) || !is(a, 1, 0, 0, 0, 0, 0, 0, 0, 0, 0, 0, 0, 5) {
		t.Error(a.List())
	}
	if !a.Join(b) || !is(a, 3, 0, 0, 0, 0, 0, 0, 0, 0, 0, 0, 0, 1<<62) || b.Get("steps") != 2 {
		t.Error(a.List(), b.List())
	}
}

// P36.5
func TestOrderIsNothing(t *testing.T) {
	r := rand.New(rand.NewSource(36))
	var l []int
	for range 400 {
		l = append(l, r.Intn(1000))
	}
	note := func(t *Tally, n int) {
		t.Note(world.Step{Kind: uint8(n % 16)}, world.Answer{N: n, E: api.Errno(n % 3), Text: all[:n%70], Events: []session.Event{{Kind: n % 10}}})
	}
	a, b, c, d := New(), New(), New(), New()
	for i, n := range l {
		note(a, n)
		note(b, l[len(l)-1-i])
		if i%2 == 0 {
			note(c, n)
		}
	}
	var w sync.WaitGroup
	for i, n := range l {
		if i%2 == 1 {
			w.Go(func() { note(d, n) })
		}
	}
	w.Wait()
	c.Join(d)
	if !slices.Equal(a.List(), b.List()) || !slices.Equal(a.List(), c.List()) {
		t.Error(a.List(), b.List(), c.List())
	}
}

// P36.3: the most there is stays so, however often more is added.
func TestMostStays(t *testing.T) {
	x := New()
	for range 9 {
		x.Add("read", math.MaxInt)
	}
	if x.Get("read") != 1<<62 {
		t.Error(x.Get("read"))
	}
}
