package world

import (
	"math"
	"math/rand"
	"slices"
	"strings"
	"testing"

	"sennit/api"
	"sennit/lossy"
	"sennit/session"
	"sennit/tune"
)

// first is a world's usual making.
func first(count int) Config {
	return Config{count, [2]tune.Values{tune.First(), tune.First()}, [2]uint32{1, 2}}
}

// made makes a usual world with two paths.
func made() *World {
	w, _ := New(first(2))
	return w
}

// text tells n bytes.
func text(n int) string { return strings.Repeat("abcdefg", n/7+1)[:n] }

// P32.1
func TestNew(t *testing.T) {
	for i, f := range []func(*Config){
		func(c *Config) { c.Paths = 0 }, func(c *Config) { c.Paths = 5 }, func(c *Config) { c.Values[0].Chunk = 0 }, func(c *Config) { c.Values[1].Chunk = 33 },
	} {
		c := first(2)
		f(&c)
		if w, e := New(c); w != nil || e != api.ErrRange {
			t.Error(i, e)
		}
	}
	w, e := New(first(4))
	if e != api.OK || w.Now() != 0 || !w.Look(0).IDs.Odd || w.Look(1).IDs.Odd || w.Look(1).Pipes[3].Shake.Mine != 5 || len(w.Accounts()) != 0 || w.Drained() {
		t.Error(e, w)
	}
	var none *World
	a := none.Run([]Step{{}, {Kind: 99, Side: 7}})
	if len(a) != 2 || a[0].E != api.ErrNil || a[1].E != api.ErrNil || none.Fair(5, nil) != 0 || none.Look(0).Dead || len(none.Net().L) != 0 || none.Accounts() != nil || none.Drained() || none.Now() != 0 {
		t.Error("nil")
	}
}

// P32.2
func TestDoCalls(t *testing.T) {
	w := made()
	for i, x := range []struct {
		s Step
		n int
		e api.Errno
	}{
		{Step{Kind: 16, Side: 5}, 0, api.ErrKind}, {Step{Kind: 255}, 0, api.ErrKind}, {Step{Kind: Tick, Side: 2, N: 1}, 0, api.ErrArg}, {Step{Kind: Come, Side: -1}, 0, api.ErrArg},
		{Step{Kind: Open, ID: 1, N: 16}, 0, api.ErrForm}, {Step{Kind: Open, ID: 77, N: 16, Flag: true}, 1, api.OK}, {Step{Kind: Open, Side: 1, N: 0}, 0, api.ErrRange},
		{Step{Kind: Write, ID: 1, Text: "hello"}, 5, api.OK}, {Step{Kind: Write, Side: 1, ID: 1, Text: "hello"}, 0, api.ErrNone},
		{Step{Kind: Close, ID: 1}, 0, api.OK}, {Step{Kind: Close, ID: 1}, 0, api.ErrState}, {Step{Kind: Write, ID: 1, Text: "x"}, 0, api.ErrState},
		{Step{Kind: Read, ID: 1, N: 5}, 0, api.OK}, {Step{Kind: Read, ID: 3, N: 5}, 0, api.ErrNone}, {Step{Kind: Move, ID: 1, M: 1, N: 5}, 0, api.ErrForm}, {Step{Kind: Move, ID: 1, M: 9, N: 5}, 0, api.OK},
		{Step{Kind: Reset, ID: 1, N: 256}, 0, api.ErrRange}, {Step{Kind: Reset, ID: 1, N: 255}, 0, api.OK}, {Step{Kind: Ping, N: -1}, 0, api.ErrRange}, {Step{Kind: Ping, N: 5}, 0, api.OK},
		{Step{Kind: Tick, N: 0}, 0, api.ErrArg}, {Step{Kind: Tick, N: 1001}, 0, api.ErrArg}, {Step{Kind: Tick, N: math.MinInt}, 0, api.ErrArg}, {Step{Kind: Tick, N: 100}, 100, api.OK}, {Step{Kind: Tick, Side: 1, N: 3}, 103, api.OK},
		{Step{Kind: Away}, 0, api.OK}, {Step{Kind: Open, N: 16}, 0, api.ErrDrain}, {Step{Kind: Kill, Path: 2}, 0, api.OK}, {Step{Kind: Kill, Path: 1}, 1, api.OK}, {Step{Kind: Kill, Path: 1}, 0, api.OK},
		{Step{Kind: Forge, Text: "nothing"}, 0, api.OK}, {Step{Kind: Send, Path: 9}, 0, api.OK},
	} {
		if a := w.Do(x.s); a.N != x.n || a.E != x.e || a.Text != "" || a.End || a.Events != nil {
			t.Error(i, a)
		}
	}
	want := []session.Event{{Kind: session.Cut, ID: 1, Code: 255}, {Kind: session.Lost, ID: 1}}
	if a := w.Do(Step{Kind: Tell}); !slices.Equal(a.Events, want) || a.E != api.OK {
		t.Error(a)
	}
	if l := w.Accounts(); !slices.Equal(l, []Account{{0, 1, "hello", "", false}}) || w.Now() != 103 || w.Look(0).Now != 103 {
		t.Error(l)
	}
	if v := w.Look(0); v.Nodes[0].Weight != 5 && len(v.Closed) != 1 {
		t.Error(v.Nodes)
	}
}

// P32.2
func TestDoNetwork(t *testing.T) {
	w := made()
	if a := w.Do(Step{Kind: Send, Path: 1}); a.N != 1 || len(w.Net().L) != 1 || w.Net().L[0].To != 1 || w.Net().L[0].Path != 1 {
		t.Error(a)
	}
	data := w.Net().L[0].Data
	for _, kind := range []uint8{Come, Drop, Flip} {
		if a := w.Do(Step{Kind: kind, N: 1}); a.E != api.ErrNone {
			t.Error(kind, a)
		}
	}
	if a := w.Do(Step{Kind: Flip, M: -1}); a.E != api.ErrNone {
		t.Error(a)
	}
	if a := w.Do(Step{Kind: Flip, M: 2, ID: 1}); a.E != api.OK || w.Net().L[0].Data == data || w.Net().L[0].Data[2] != data[2]^1 {
		t.Error(a)
	}
	w.Do(Step{Kind: Come, Flag: true})
	if len(w.Net().L) != 1 || w.Look(1).Pipes[1].Shake.Stage != 0 {
		t.Error("a broken packet is nothing")
	}
	w.Do(Step{Kind: Flip, M: 2, ID: 1})
	w.Do(Step{Kind: Come})
	if len(w.Net().L) != 0 || w.Look(1).Pipes[1].Shake.Stage != 2 {
		t.Error("it came")
	}
	if a := w.Do(Step{Kind: Send, Side: 1, Path: 1}); a.N != 1 || w.Do(Step{Kind: Drop}).E != api.OK || len(w.Net().L) != 0 {
		t.Error(a)
	}
	w.net = lossy.State{L: make([]lossy.Packet, 200)}
	if a := w.Do(Step{Kind: Send}); a.N != 0 || a.E != api.OK {
		t.Error(a)
	}
	w.Do(Step{Kind: Forge, Side: 1, Path: 0, Text: "\x01\x00\x00\x00\x00\x00\x00\x01\x00\x00\x00\x00\xff\xff\x00\x00"})
	if w.Look(1).Pipes[0].Shake.Stage != 0 {
		t.Error("without a sum")
	}
	x := made()
	x.Do(Step{Kind: Send})
	w.Do(Step{Kind: Forge, Side: 1, Path: 0, Text: x.Net().L[0].Data})
	if w.Look(1).Pipes[0].Shake.Stage != 2 {
		t.Error("Forge")
	}
}

// P32.3, P32.4
func TestRunFair(t *testing.T) {
	w := made()
	a := w.Run([]Step{{Kind: Open, N: 16}, {Kind: Write, ID: 1, Text: "hello"}, {Kind: Open, N: 16}, {Kind: Write, ID: 3, Text: "quiet"}})
	if len(a) != 4 || a[0].N != 1 || a[1].N != 5 || a[2].N != 3 {
		t.Error(a)
	}
	w.net = lossy.State{L: []lossy.Packet{{Data: "stays"}}}
	if n := w.Fair(12, []int{3}); n != 12 || w.Now() != 12 || len(w.Net().L) != 1 {
		t.Error(n)
	}
	want := []Account{{0, 1, "hello", "", false}, {0, 3, "quiet", "", false}, {1, 1, "", "hello", false}}
	if l := w.Accounts(); !slices.Equal(l, want) {
		t.Error(l)
	}
	w.Run([]Step{{Kind: Close, ID: 1}, {Kind: Open, Side: 1, N: 16}})
	w.Fair(5, []int{3, 2})
	want = []Account{{0, 1, "hello", "", false}, {0, 3, "quiet", "", false}, {1, 1, "", "hello", true}}
	if l := w.Accounts(); !slices.Equal(l, want) {
		t.Error(l)
	}
	if a := made().Do(Step{Kind: Tick, N: 1000}); a.N != 1000 || a.E != api.OK {
		t.Error(a)
	}
	if w.Fair(0, nil) != 0 || w.Fair(-5, nil) != 0 || w.Now() != 17 || w.Fair(5000, nil) != 2000 || w.Now() != 2017 {
		t.Error("rounds")
	}
}

// P32.5
func TestLookDrained(t *testing.T) {
	w := made()
	w.Do(Step{Kind: Away, Side: 1})
	if w.Look(2).IDs.Next != 0 || w.Look(-1).IDs.Next != 0 || w.Look(0).IDs.Next != 1 || w.Look(1).IDs.Next != 2 || w.Drained() {
		t.Error("Look")
	}
	if w.Fair(5, nil); !w.Drained() {
		t.Error(w.Look(0))
	}
	w.Do(Step{Kind: Open, Side: 1, N: 16})
	x := made()
	x.Do(Step{Kind: Send})
	x.Net().L[0].To = 7
	if x.Net().L[0].To != 1 {
		t.Error("Net shares")
	}
	one := made()
	one.ends[0].GoAway()
	one.Fair(5, nil)
	one.ends[1].Ping(1)
	if one.Drained() || !one.ends[0].Drained() {
		t.Error("one side alone is drained")
	}
	one = made()
	one.ends[1].GoAway()
	one.Fair(1, nil)
	one.ends[0].Ping(1)
	if one.Drained() || !one.ends[1].Drained() {
		t.Error("one side alone is drained")
	}
}

// random tells a step that a script may have; forged ones are packets that were sent.
func random(r *rand.Rand, w *World) Step {
	s := Step{Kind: uint8(r.Intn(15)), Side: r.Intn(2), Path: r.Intn(4), Flag: r.Intn(4) == 0, ID: 1 + r.Intn(20)}
	switch s.Kind {
	case Open:
		s.ID, s.N = r.Intn(20), 1+r.Intn(256)
	case Write:
		s.Text = text(r.Intn(600))
	case Read:
		s.N = r.Intn(300)
	case Reset, Kill, Away, Close:
		if r.Intn(6) > 0 {
			s.Kind = Send
		}
		s.N = r.Intn(256)
	case Move:
		s.M, s.N = r.Intn(20), 1+r.Intn(256)
	case Tick:
		s.N = 1 + r.Intn(6)
	case Come, Drop:
		s.N = r.Intn(8)
		if r.Intn(3) > 0 {
			s.Kind = Come
		}
	case Flip:
		s.N, s.M, s.ID = r.Intn(8), r.Intn(90), 1+r.Intn(255)
	case Forge:
		if l := w.net.L; len(l) > 0 {
			p := l[r.Intn(len(l))]
			s.Text, s.Path, s.Side = p.Data, p.Path, p.To
		}
	}
	return s
}

// values tells values that may be, and have room enough.
func values(r *rand.Rand) tune.Values {
	for {
		v := tune.Values{Streams: 1 + r.Intn(8), Window: 1 + r.Intn(600), Whole: 1 + r.Intn(20000), Chunk: 1 + r.Intn(32)}
		if tune.Enough(v) {
			return v
		}
	}
}

// account tells what a side did with a stream.
func account(w *World, side, id int) Account {
	for _, a := range w.Accounts() {
		if a.Side == side && a.ID == id {
			return a
		}
	}
	return Account{}
}

// check asks for Theorems 1 and 3.
func check(t *testing.T, w *World) {
	t.Helper()
	for _, a := range w.Accounts() {
		if wrote := account(w, 1-a.Side, a.ID).Wrote; !strings.HasPrefix(wrote, a.Read) || a.Ended && wrote != a.Read {
			t.Fatal("not a beginning", a.Side, a.ID)
		}
	}
	for i := range 2 {
		v := w.Look(i)
		if v.In.Used-v.In.Read > v.In.Window || len(v.Streams) > 16 || len(v.Nodes) > 24 {
			t.Fatal("beyond its bounds", v.In, len(v.Streams))
		}
		for _, st := range v.Streams {
			if st.In.Used-st.In.Read > st.In.Window {
				t.Fatal("beyond its window", st.In)
			}
		}
	}
}

// P32.6
func TestScripts(t *testing.T) {
	for seed := range int64(150) {
		r := rand.New(rand.NewSource(seed))
		w, e := New(Config{1 + r.Intn(4), [2]tune.Values{values(r), values(r)}, [2]uint32{r.Uint32(), r.Uint32()}})
		if e != api.OK {
			t.Fatal(int(e))
		}
		cut := map[int]bool{}
		died := false
		note := func(side int) {
			for _, e := range w.Do(Step{Kind: Tell, Side: side}).Events {
				if e.Kind == session.Cut || e.Kind == session.Refused {
					cut[e.ID] = true
				}
				if e.Kind == session.Died {
					died = true
					for i, p := range w.Look(side).Pipes {
						if i < w.paths && p.Shake.Stage != 4 {
							t.Fatal("an end failed that did as it should", seed, side, i, e)
						}
					}
				}
			}
		}
		for range 400 {
			w.Do(random(r, w))
			note(0)
			note(1)
		}
		check(t, w)
		w.Fair(600, nil)
		note(0)
		note(1)
		check(t, w)
		if died {
			continue
		}
		for _, a := range w.Accounts() {
			if got := account(w, 1-a.Side, a.ID).Read; !cut[a.ID] && got != a.Wrote {
				t.Fatal("not all came", seed, a.Side, a.ID, len(got), len(a.Wrote))
			}
		}
	}
}
