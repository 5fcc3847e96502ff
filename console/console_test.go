package console

import (
	"math"
	"math/rand"
	"slices"
	"strings"
	"testing"

	"sennit/api"
	"sennit/session"
	"sennit/world"
)

// rows are lines, and their steps.
var rows = []struct {
	line string
	s    world.Step
}{
	{"open 0 5 16 +", world.Step{Kind: world.Open, ID: 5, N: 16, Flag: true}},
	{"write 0 1 6869", world.Step{Kind: world.Write, ID: 1, Text: "hi"}},
	{"write 1 1 -", world.Step{Kind: world.Write, Side: 1, ID: 1}},
	{"close 1 3", world.Step{Kind: world.Close, Side: 1, ID: 3}},
	{"read 0 3 999999999", world.Step{Kind: world.Read, ID: 3, N: 999999999}},
	{"reset 0 3 8", world.Step{Kind: world.Reset, ID: 3, N: 8}},
	{"move 1 3 4 5 -", world.Step{Kind: world.Move, Side: 1, ID: 3, M: 4, N: 5}},
	{"ping 0 7", world.Step{Kind: world.Ping, N: 7}},
	{"away 1", world.Step{Kind: world.Away, Side: 1}},
	{"tick 5", world.Step{Kind: world.Tick, N: 5}},
	{"kill 0 2", world.Step{Kind: world.Kill, Path: 2}},
	{"send 1 2", world.Step{Kind: world.Send, Side: 1, Path: 2}},
	{"come 4 +", world.Step{Kind: world.Come, N: 4, Flag: true}},
	{"drop 0", world.Step{Kind: world.Drop}},
	{"flip 1 2 3", world.Step{Kind: world.Flip, N: 1, M: 2, ID: 3}},
	{"forge 1 2 00ff0a", world.Step{Kind: world.Forge, Side: 1, Path: 2, Text: "\x00\xff\n"}},
	{"tell 1", world.Step{Kind: world.Tell, Side: 1}},
}

// P33.1
func TestParse(t *testing.T) {
	for _, x := range rows {
		if s, e := Parse(x.line); s != x.s || e != api.OK {
			t.Error(x, s, e)
		}
	}
	long := "write 0 1 " + strings.Repeat("61", 300)
	if s, e := Parse(long); len(s.Text) != 300 || e != api.OK {
		t.Error(e)
	}
	for line, want := range map[string]api.Errno{
		"": api.ErrNone, "#": api.ErrNone, "# open": api.ErrNone, " #": api.ErrKind, "opens 0": api.ErrKind, "Open 0 5 16 +": api.ErrKind, " ": api.ErrKind, "nothing": api.ErrKind,
		"open": api.ErrLine, "open 0 5 16": api.ErrLine, "open 0 5 16 + ": api.ErrLine, "open  0 5 16 +": api.ErrLine, "open 2 5 16 +": api.ErrLine, "open 0 5 16 x": api.ErrLine, "open 0 5 16 ++": api.ErrLine,
		"open 0 05 16 +": api.ErrLine, "open 0 5 1234567890 +": api.ErrLine, "open 0 -5 16 +": api.ErrLine, "open 00 5 16 +": api.ErrLine, "open 0 5 +16 +": api.ErrLine, "open 0 5a 16 +": api.ErrLine,
		"write 0 1 ": api.ErrLine, "write 0 1 6": api.ErrLine, "write 0 1 6A": api.ErrLine, "write 0 1 6g": api.ErrLine, "write 0 1 --": api.ErrLine, "tick 0 5": api.ErrLine, "away 0 0": api.ErrLine, "tell 0\r": api.ErrLine,
		long + "61": api.ErrLong, long + "6g": api.ErrLine, long + "61 ": api.ErrLine,
	} {
		if s, e := Parse(line); s != (world.Step{}) || e != want {
			t.Errorf("%q %v %d", line, s, int(e))
		}
	}
}

// P33.2
func TestPrint(t *testing.T) {
	for _, x := range rows {
		if line, e := Print(x.s); line != x.line || e != api.OK {
			t.Error(x, line, e)
		}
	}
	long := strings.Repeat("x", 301)
	for i, x := range []struct {
		s    world.Step
		want api.Errno
	}{
		{world.Step{Kind: 16, Side: 7}, api.ErrKind}, {world.Step{Kind: 255}, api.ErrKind},
		{world.Step{Kind: world.Open, M: 1}, api.ErrArg}, {world.Step{Kind: world.Open, Text: "a"}, api.ErrArg}, {world.Step{Kind: world.Open, Path: 1}, api.ErrArg},
		{world.Step{Kind: world.Close, N: 1}, api.ErrArg}, {world.Step{Kind: world.Close, Flag: true}, api.ErrArg}, {world.Step{Kind: world.Ping, ID: 1}, api.ErrArg}, {world.Step{Kind: world.Tick, Side: 1}, api.ErrArg},
		{world.Step{Kind: world.Open, Side: 2}, api.ErrArg}, {world.Step{Kind: world.Open, Side: -1}, api.ErrArg}, {world.Step{Kind: world.Open, ID: -1}, api.ErrArg}, {world.Step{Kind: world.Open, N: 1000000000}, api.ErrArg},
		{world.Step{Kind: world.Move, M: math.MinInt}, api.ErrArg}, {world.Step{Kind: world.Kill, Path: math.MaxInt}, api.ErrArg}, {world.Step{Kind: world.Close, Text: long}, api.ErrArg},
		{world.Step{Kind: world.Write, Text: long}, api.ErrLong}, {world.Step{Kind: world.Write, Text: long, ID: -1}, api.ErrArg}, {world.Step{Kind: world.Write, Text: long[1:]}, api.OK},
	} {
		if line, e := Print(x.s); e != x.want || (line == "") != (e != api.OK) {
			t.Error(i, line, e)
		}
	}
}

// P33.3
func TestScriptLines(t *testing.T) {
	var steps []world.Step
	text := ""
	for _, x := range rows {
		steps, text = append(steps, x.s), text+x.line+"\n"
	}
	if s, e := Lines(steps); s != text || e != api.OK {
		t.Error(s, e)
	}
	if s, e := Lines(nil); s != "" || e != api.OK {
		t.Error(s, e)
	}
	if s, e := Lines(append(steps[:2:2], world.Step{Kind: 99}, world.Step{Side: 9})); s != "" || e != api.ErrKind {
		t.Error(s, e)
	}
	if l, n, e := Script(text); !slices.Equal(l, steps) || n != 0 || e != api.OK {
		t.Error(l, n, e)
	}
	for _, x := range []struct {
		text string
		n    int
		at   int
		want api.Errno
	}{
		{"", 0, 0, api.OK}, {"\n\n# a\n", 0, 0, api.OK}, {"tick 1", 1, 0, api.OK}, {"tick 1\n\ntick 2\n#\ntick 3", 3, 0, api.OK}, {"tick 1\n\n#\ntack\ntick x\n", 0, 4, api.ErrKind},
		{"tick 1\ntick x", 0, 2, api.ErrLine}, {" ", 0, 1, api.ErrKind},
	} {
		if l, n, e := Script(x.text); len(l) != x.n || n != x.at || e != x.want {
			t.Errorf("%q %v %d %d", x.text, l, n, int(e))
		}
	}
}

// P33.4
func TestTell(t *testing.T) {
	for want, a := range map[string]world.Answer{
		"0 0 - -":               {},
		"5 6 6869 +":            {N: 5, E: api.ErrNone, Text: "hi", End: true},
		"-3 -1 00ff -":          {N: -3, E: -1, Text: "\x00\xff"},
		"0 0 - - 3:1:255":       {Events: []session.Event{{Kind: session.Cut, ID: 1, Code: 255}}},
		"0 0 - - 6:0:0 -7:-8:2": {Events: []session.Event{{Kind: session.Lost}, {Kind: -7, ID: -8, Code: 2}}},
	} {
		if got := Tell(a); got != want {
			t.Error(got, want)
		}
	}
}

// P33.5
func TestNames(t *testing.T) {
	l := Names()
	if strings.Join(l, " ") != "open write close read reset move ping away tick kill send come drop flip forge tell" {
		t.Error(l)
	}
	l[0] = "x"
	if Names()[0] != "open" {
		t.Error("the lists share")
	}
}

// P33.6
func TestThereAndBack(t *testing.T) {
	r := rand.New(rand.NewSource(33))
	for range 3000 {
		s := world.Step{Kind: uint8(r.Intn(17)), Side: r.Intn(2), ID: r.Intn(3), N: r.Intn(1000000000), M: r.Intn(2), Path: r.Intn(2), Flag: r.Intn(2) == 0, Text: "abc"[:r.Intn(2)]}
		if line, e := Print(s); e == api.OK {
			if got, e := Parse(line); got != s || e != api.OK {
				t.Fatal(line, got)
			}
		}
		b := []byte(rows[r.Intn(len(rows))].line)
		b[r.Intn(len(b))] = " 0123456789abcdef+-#"[r.Intn(20)]
		if s, e := Parse(string(b)); e == api.OK {
			if line, e := Print(s); line != string(b) || e != api.OK {
				t.Fatal(string(b), line)
			}
		}
	}
}
