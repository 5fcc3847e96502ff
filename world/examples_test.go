package world

import (
	"slices"
	"testing"

	"sennit/api"
	"sennit/session"
	"sennit/tune"
)

// lossyRounds lets ticks go by, in each of which all goes through the network, but the packets that a function drops.
func lossyRounds(w *World, rounds int, drop func(n int) bool) {
	n := 0
	for range rounds {
		w.Do(Step{Kind: Tick, N: 1})
		for path := range w.paths {
			for side := range 2 {
				w.Do(Step{Kind: Send, Side: side, Path: path})
			}
		}
		for len(w.net.L) > 0 {
			n++
			if drop(n) {
				w.Do(Step{Kind: Drop})
			} else {
				w.Do(Step{Kind: Come})
			}
		}
		w.readAll(nil)
	}
}

// begun makes a world in which side 0 wrote into stream 1.
func begun(s string) *World {
	w := made()
	w.Run([]Step{{Kind: Open, N: 16}, {Kind: Write, ID: 1, Text: s}})
	return w
}

// events tells what happened at a side.
func events(w *World, side int) []session.Event { return w.Do(Step{Kind: Tell, Side: side}).Events }

// Examples 1 to 3 of the whole: nothing is lost, every second packet, all are broken.
func TestHello(t *testing.T) {
	w := begun("hello")
	w.Fair(12, nil)
	if account(w, 1, 1).Read != "hello" {
		t.Error(w.Accounts())
	}
	w = begun("hello")
	lossyRounds(w, 2000, func(n int) bool { return n%2 == 0 })
	if account(w, 1, 1).Read != "hello" {
		t.Error(w.Accounts())
	}
	w = begun("hello")
	for range 50 {
		w.Do(Step{Kind: Tick, N: 1})
		w.Do(Step{Kind: Send})
		for len(w.net.L) > 0 {
			w.Do(Step{Kind: Flip, M: w.now, ID: 1 + w.now})
			w.Do(Step{Kind: Come})
		}
	}
	if v := w.Look(1); v.Pipes[0].Shake.Stage != 0 || len(v.Streams) != 0 {
		t.Error(v)
	}
}

// Examples 4 and 5: one path dies, then all.
func TestPathsDie(t *testing.T) {
	w := begun(text(3000))
	w.Fair(3, []int{1})
	pinned := w.Look(0).Paths.Binds[0].Path
	w.Do(Step{Kind: Send, Path: pinned})
	w.Do(Step{Kind: Kill, Path: pinned})
	w.Fair(200, nil)
	if account(w, 1, 1).Read != text(3000) || w.Look(0).Dead || w.Look(1).Dead {
		t.Error(len(account(w, 1, 1).Read))
	}
	events(w, 0)
	w.Do(Step{Kind: Kill, Path: 1 - pinned})
	want := []session.Event{{Kind: session.Lost, ID: 1 - pinned}, {Kind: session.Died, Code: int(api.Internal)}}
	if l := events(w, 0); !slices.Equal(l, want) || !w.Look(0).Dead {
		t.Error(l)
	}
}

// Example 6: who reads nothing of one stream hinders no others.
func TestUnread(t *testing.T) {
	w := begun(text(2000))
	w.Run([]Step{{Kind: Open, N: 16}, {Kind: Write, ID: 3, Text: text(2000)}})
	w.Fair(300, []int{1})
	v := w.Look(1)
	if account(w, 1, 3).Read != text(2000) || v.Streams[0].In.Used != 256 || account(w, 1, 1).Read != "" {
		t.Error(w.Accounts(), v.Streams)
	}
}

// Example 7: weights 16 and 32.
func TestWeights(t *testing.T) {
	wide := tune.Values{Streams: 8, Window: 4096, Whole: 1 << 20, Chunk: 32}
	w, _ := New(Config{1, [2]tune.Values{wide, wide}, [2]uint32{1, 2}})
	w.Fair(3, nil)
	w.Run([]Step{{Kind: Open, N: 16}, {Kind: Open, N: 32}, {Kind: Write, ID: 1, Text: text(4096)}, {Kind: Write, ID: 3, Text: text(4096)}})
	for w.Look(0).Streams[1].Send.Next < 3000 {
		lossyRounds(w, 1, func(int) bool { return false })
	}
	v := w.Look(0)
	if d := 2*v.Streams[0].Send.Next - v.Streams[1].Send.Next; d > 96 || d < -96 {
		t.Error(v.Streams[0].Send.Next, v.Streams[1].Send.Next)
	}
}

// Examples 9 and 10: a stream is cut off; one is refused, since the other side goes away.
func TestCutAndAway(t *testing.T) {
	w := begun(text(700))
	w.Fair(20, []int{1})
	w.Do(Step{Kind: Reset, Side: 1, ID: 1, N: 42})
	w.Fair(10, nil)
	a, b := events(w, 0), events(w, 1)
	if !slices.Contains(a, session.Event{Kind: session.Cut, ID: 1, Code: 42}) || !slices.Contains(b, session.Event{Kind: session.Cut, ID: 1, Code: 42}) {
		t.Error(a, b)
	}
	if out, in := w.Look(0).Out, w.Look(1).In; out.Used != in.Used || in.Read != in.Used || len(w.Look(1).Ghosts) != 0 {
		t.Error(out, in)
	}
	w.Run([]Step{{Kind: Away, Side: 1}, {Kind: Open, N: 16}, {Kind: Write, ID: 3, Text: "no"}})
	w.Fair(10, nil)
	a = events(w, 0)
	if !slices.Equal(a, []session.Event{{Kind: session.Refused, ID: 3}, {Kind: session.Away, ID: 1}}) || len(events(w, 1)) != 0 || account(w, 1, 3).Read != "" || !w.Drained() {
		t.Error(a, w.Accounts())
	}
	if e := w.Do(Step{Kind: Open, N: 16}).E; e != api.ErrDrain {
		t.Error(int(e))
	}
}
