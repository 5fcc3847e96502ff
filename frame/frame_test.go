package frame

import (
	"encoding/hex"
	"math"
	"math/rand"
	"strings"
	"testing"

	"sennit/api"
)

// pair makes settings of numbers and values.
func pair(l ...int) (out []api.Pair) {
	for i := 0; i < len(l); i += 2 {
		out = append(out, api.Pair{ID: l[i], Value: l[i+1]})
	}
	return out
}

const big = 1 << 40

// P15.1
func TestCheck(t *testing.T) {
	long := strings.Repeat("x", 33)
	for i, x := range []struct {
		f    Frame
		want api.Errno
	}{
		{Frame{Kind: Data, Flag: true, Stream: api.MaxID, Offset: api.MaxOffset, Data: long[1:]}, api.OK},
		{Frame{}, api.OK},
		{Frame{Kind: Headers, Flag: true, Stream: 1, Dep: api.MaxID, Weight: 256}, api.OK},
		{Frame{Kind: Priority, Flag: true, Weight: 1}, api.OK},
		{Frame{Kind: Reset, Stream: 1, N: big, Code: 255}, api.OK},
		{Frame{Kind: Settings, Pairs: pair(0, 0, big, big, 3, 3, 4, 4)}, api.OK},
		{Frame{Kind: Settings, Flag: true}, api.OK},
		{Frame{Kind: Ping, Flag: true, N: big}, api.OK},
		{Frame{Kind: GoAway, Stream: 3, Code: 2}, api.OK},
		{Frame{Kind: Window, Stream: 3, N: 1}, api.OK},
		{Frame{Kind: Came, Flag: true, Stream: 3, Offset: 1}, api.OK},
		{Frame{Kind: Path, N: 3, Code: 1}, api.OK},
		{Frame{Kind: 5, Stream: -1}, api.ErrKind},
		{Frame{Kind: 11}, api.ErrKind},
		{Frame{Kind: 255}, api.ErrKind},
		{Frame{Kind: Ping, Stream: -1}, api.ErrRange},
		{Frame{Stream: api.MaxID + 1, Data: long}, api.ErrRange},
		{Frame{Offset: api.MaxOffset + 1}, api.ErrRange},
		{Frame{Kind: Reset, Offset: -1}, api.ErrRange},
		{Frame{Dep: api.MaxID + 1}, api.ErrRange},
		{Frame{Dep: math.MinInt}, api.ErrRange},
		{Frame{Kind: Headers}, api.ErrRange},
		{Frame{Kind: Priority, Weight: 257}, api.ErrRange},
		{Frame{Kind: Priority, Weight: -1}, api.ErrRange},
		{Frame{Kind: Ping, N: big + 1}, api.ErrRange},
		{Frame{Kind: Ping, N: -1}, api.ErrRange},
		{Frame{Kind: Window}, api.ErrRange},
		{Frame{Kind: Path, N: 4}, api.ErrRange},
		{Frame{Kind: Path, Code: 2}, api.ErrRange},
		{Frame{Kind: GoAway, Code: 256}, api.ErrRange},
		{Frame{Kind: GoAway, Code: -1}, api.ErrRange},
		{Frame{Kind: Settings, Pairs: pair(1, big+1)}, api.ErrRange},
		{Frame{Kind: Settings, Pairs: pair(-1, 1)}, api.ErrRange},
		{Frame{Kind: Ping, Pairs: pair(-1, 1)}, api.ErrRange},
		{Frame{Data: long}, api.ErrLong},
		{Frame{Kind: Ping, Data: long}, api.ErrLong},
		{Frame{Kind: Settings, Flag: true, Pairs: make([]api.Pair, 5)}, api.ErrLong},
		{Frame{Kind: Ping, Data: "x"}, api.ErrForm},
		{Frame{Kind: Data, Pairs: pair(1, 1)}, api.ErrForm},
		{Frame{Kind: Data, Dep: 1}, api.ErrForm},
		{Frame{Kind: Data, Weight: 1000}, api.ErrForm},
		{Frame{Kind: Data, N: 1}, api.ErrForm},
		{Frame{Kind: Data, Code: 1}, api.ErrForm},
		{Frame{Kind: Headers, Weight: 1, Offset: 1}, api.ErrForm},
		{Frame{Kind: Settings, Stream: 1}, api.ErrForm},
		{Frame{Kind: Ping, Stream: 1}, api.ErrForm},
		{Frame{Kind: Path, Stream: 1}, api.ErrForm},
		{Frame{Kind: GoAway, N: 1}, api.ErrForm},
		{Frame{Kind: Window, N: 1, Code: 1}, api.ErrForm},
		{Frame{Kind: Reset, Flag: true}, api.ErrForm},
		{Frame{Kind: GoAway, Flag: true}, api.ErrForm},
		{Frame{Kind: Window, N: 1, Flag: true}, api.ErrForm},
		{Frame{Kind: Path, Flag: true}, api.ErrForm},
		{Frame{Kind: Settings, Flag: true, Pairs: pair(1, 1)}, api.ErrForm},
	} {
		s, e := Put(x.f)
		if Check(x.f) != x.want || e != x.want || (s == "") != (e != api.OK) || Size(x.f) != len(s) {
			t.Error(i, Check(x.f), e, s)
		}
	}
}

// P15.2
func TestPutSize(t *testing.T) {
	for _, x := range []struct {
		f    Frame
		want string
	}{
		{Frame{Kind: Reset, Stream: 3, N: 5, Code: 8}, "030003030508"},
		{Frame{Kind: Data, Flag: true, Stream: 64, Offset: 1, Data: "hi"}, "000105404001" + "6869"},
		{Frame{Kind: Headers, Flag: true, Stream: 1, Dep: 3, Weight: 256}, "01010401034100"},
		{Frame{Kind: Priority, Stream: 1, Dep: 3, Weight: 16}, "020003010310"},
		{Frame{Kind: Settings, Pairs: pair(1, 8, 2, 256)}, "04000501080241" + "00"},
		{Frame{Kind: Settings, Flag: true}, "040100"},
		{Frame{Kind: Ping, N: 7}, "06000107"},
		{Frame{Kind: GoAway, Stream: 2, Code: 1}, "0700020201"},
		{Frame{Kind: Window, Stream: 2, N: 9}, "0800020209"},
		{Frame{Kind: Came, Flag: true, Stream: 2, Offset: 9}, "0901020209"},
		{Frame{Kind: Path, N: 2, Code: 1}, "0a00020201"},
	} {
		if s, e := Put(x.f); hex.EncodeToString([]byte(s)) != x.want || e != api.OK || Size(x.f) != len(s) {
			t.Errorf("%v %x", x, s)
		}
	}
	if n := Size(Frame{Kind: Settings, Pairs: pair(big, big, big, big, big, big, big, big)}); n != 68 {
		t.Error(n)
	}
}

// P15.3
func TestGet(t *testing.T) {
	for _, x := range []struct {
		s    string
		want api.Errno
	}{
		{"", api.ErrCut}, {"05", api.ErrKind}, {"0b", api.ErrKind}, {"06", api.ErrCut}, {"0602", api.ErrForm}, {"0600", api.ErrCut},
		{"060040", api.ErrCut}, {"06004001", api.ErrForm}, {"06004041", api.ErrLong}, {"0600ffffffffffffffff", api.ErrLong}, {"060001", api.ErrCut},
		{"06000107", api.OK}, {"0600010707", api.OK}, {"060000", api.ErrForm}, {"06000140", api.ErrForm}, {"0600024007", api.ErrForm},
		{"0600020707", api.ErrForm}, {"030003030508", api.OK}, {"0300020305", api.ErrForm}, {"030103030508", api.ErrForm},
		{"04000101", api.ErrForm}, {"0400020101", api.OK}, {"0400024001", api.ErrForm}, {"0401020101", api.ErrForm}, {"04000a" + strings.Repeat("01", 10), api.ErrLong},
		{"0000230101" + strings.Repeat("61", 33), api.ErrLong}, {"000002" + "0101", api.OK}, {"00000101", api.ErrForm},
		{"0800020300", api.ErrRange}, {"0a00020400", api.ErrRange}, {"0a01020000", api.ErrForm}, {"01000401034101", api.ErrRange},
	} {
		b, _ := hex.DecodeString(x.s)
		f, n, e := Get(string(b))
		if e != x.want || e != api.OK && (n != 0 || !Same(f, Frame{})) {
			t.Error(x, f, n, e)
		}
	}
	if f, n, e := Get("\x06\x01\x01\x07tail"); n != 4 || e != api.OK || !Same(f, Frame{Kind: Ping, Flag: true, N: 7}) {
		t.Error(f, n, e)
	}
}

// random makes a frame that may be.
func random(r *rand.Rand) Frame {
	some := func(top int) int { return r.Intn(top+1) >> r.Intn(41) }
	for {
		f := Frame{Kind: uint8(r.Intn(11)), Flag: r.Intn(3) == 0}
		if f.Kind == Data {
			f.Data = strings.Repeat("z", r.Intn(33))
		}
		if f.Kind == Settings {
			for range r.Intn(5) {
				f.Pairs = append(f.Pairs, api.Pair{ID: some(big), Value: some(big)})
			}
		}
		for _, n := range numbers(&f) {
			*n = some(big) >> r.Intn(41)
		}
		if Check(f) == api.OK {
			return f
		}
	}
}

// P15.4
func TestPutIsGot(t *testing.T) {
	r := rand.New(rand.NewSource(16))
	for range 3000 {
		f := random(r)
		s, e := Put(f)
		if g, n, e2 := Get(s + "xyz"[:r.Intn(4)]); e != api.OK || e2 != api.OK || n != len(s) || !Same(f, g) {
			t.Fatal(f, g, e, e2)
		}
		for i := range s {
			if _, _, e := Get(s[:i]); e != api.ErrCut {
				t.Fatal(f, i, e)
			}
		}
		b := []byte(s)
		b[r.Intn(len(b))] = byte(r.Intn(256))
		if g, n, e := Get(string(b)); e == api.OK {
			if again, e := Put(g); e != api.OK || again != string(b[:n]) {
				t.Fatalf("%x %x", b, again)
			}
		}
	}
	a := Frame{Kind: 1, Stream: 1, Offset: 1, Dep: 1, Weight: 1, N: 1, Code: 1, Pairs: pair(1, 1), Data: "a"}
	for i, f := range []func(*Frame){
		func(f *Frame) { f.Kind = 2 }, func(f *Frame) { f.Flag = true }, func(f *Frame) { f.Stream = 2 }, func(f *Frame) { f.Offset = 2 }, func(f *Frame) { f.Dep = 2 },
		func(f *Frame) { f.Weight = 2 }, func(f *Frame) { f.N = 2 }, func(f *Frame) { f.Code = 2 }, func(f *Frame) { f.Pairs = pair(1, 2) }, func(f *Frame) { f.Data = "b" },
	} {
		b := a
		if f(&b); Same(a, b) || !Same(b, b) {
			t.Error(i)
		}
	}
}

// P15.3: a payload may be just as long as it may be.
func TestGetLongest(t *testing.T) {
	f := Frame{Kind: Settings, Pairs: pair(big, big, big, big, big, big, big, big)}
	s, _ := Put(f)
	if g, n, e := Get(s); n != 68 || e != api.OK || !Same(f, g) {
		t.Error(n, e)
	}
}
