package segment

import (
	"math"
	"math/rand"
	"strings"
	"testing"

	"sennit/api"
	"sennit/crc"
)

// P7.1
func TestCheckPut(t *testing.T) {
	s, e := Put(Segment{Flags: Syn, Seq: 1})
	if want := crc.Seal("\x01\x00\x00\x00\x00\x00\x00\x01\x00\x00\x00\x00\x00\x00\x00\x00"); s != want || e != api.OK {
		t.Errorf("%x %v", s, e)
	}
	s, e = Put(Segment{Ack | Fin, 3, 258, 0xffffffff, 0x01020304, 65535, []Block{{5, 6}}, "hi"})
	if want := crc.Seal("\x06\x03\x01\x02\xff\xff\xff\xff\x01\x02\x03\x04\xff\xff\x01\x00\x00\x00\x05\x00\x00\x00\x06\x02hi"); s != want || e != api.OK {
		t.Errorf("%x %v", s, e)
	}
	long := strings.Repeat("x", api.MaxPayload+1)
	for _, x := range []struct {
		x    Segment
		want api.Errno
	}{
		{Segment{}, api.OK},
		{Segment{Flags: 31, Path: 3, Epoch: 65535, Window: 65535, Ack: 9, Sacks: make([]Block, 3)}, api.OK},
		{Segment{Data: long[1:]}, api.OK},
		{Segment{Flags: 32, Path: 9, Data: long}, api.ErrKind},
		{Segment{Flags: 255}, api.ErrKind},
		{Segment{Path: 4, Data: long}, api.ErrRange},
		{Segment{Path: -1}, api.ErrRange},
		{Segment{Epoch: 65536}, api.ErrRange},
		{Segment{Epoch: -1}, api.ErrRange},
		{Segment{Window: 65536}, api.ErrRange},
		{Segment{Window: math.MinInt}, api.ErrRange},
		{Segment{Data: long, Ack: 1}, api.ErrLong},
		{Segment{Flags: Ack, Sacks: make([]Block, 4)}, api.ErrLong},
		{Segment{Sacks: make([]Block, 1)}, api.ErrForm},
		{Segment{Ack: 1}, api.ErrForm},
		{Segment{Flags: Syn, Data: "a"}, api.ErrForm},
		{Segment{Flags: Reset, Data: "a"}, api.ErrForm},
	} {
		s, e := Put(x.x)
		if Check(x.x) != x.want || e != x.want || (s == "") != (e != api.OK) {
			t.Error(x, Check(x.x), e)
		}
	}
}

// P7.2
func TestGet(t *testing.T) {
	head := "\x02\x00\x00\x00\x00\x00\x00\x01\x00\x00\x00\x00\x00\x00"
	for _, x := range []struct {
		s    string
		want api.Errno
	}{
		{"abc", api.ErrCut},
		{"abcd", api.ErrSum},
		{crc.Seal(""), api.ErrCut},
		{crc.Seal(head), api.ErrCut},
		{crc.Seal(head + "\x00"), api.ErrCut},
		{crc.Seal(head + "\x01\x00\x00\x00\x00\x00\x00\x00\x00"), api.ErrCut},
		{crc.Seal(head + "\x00\x02a"), api.ErrCut},
		{crc.Seal(head + "\x00\x01ab"), api.ErrForm},
		{crc.Seal(head + "\x00\x01a"), api.OK},
		{crc.Seal(head + "\x04" + strings.Repeat("\x00", 32) + "\x00"), api.ErrLong},
		{crc.Seal(head + "\x00\x31" + strings.Repeat("a", 49)), api.ErrLong},
		{crc.Seal("\x20" + head[1:] + "\x00\x00"), api.ErrKind},
		{crc.Seal("\x20" + head[1:] + "\x00\x00x"), api.ErrForm},
		{crc.Seal("\x02\x04" + head[2:] + "\x00\x00"), api.ErrRange},
		{crc.Seal("\x01" + head[1:] + "\x00\x01a"), api.ErrForm},
	} {
		if g, e := Get(x.s); e != x.want || e != api.OK && !Same(g, Segment{}) {
			t.Errorf("%x %v", x.s, e)
		}
	}
}

// P7.3
func TestSpanHasSame(t *testing.T) {
	for _, x := range []struct {
		x Segment
		n int
	}{{Segment{}, 0}, {Segment{Flags: Syn}, 1}, {Segment{Flags: Syn | Fin}, 2}, {Segment{Flags: Fin | Ack, Data: "abc"}, 4}, {Segment{Data: "a"}, 1}} {
		if Span(x.x) != x.n {
			t.Error(x)
		}
	}
	x := Segment{Flags: Syn | Ack}
	if !Has(x, Syn) || !Has(x, Syn|Ack) || Has(x, Syn|Fin) || !Has(x, 0) || Has(x, 128) {
		t.Error("Has")
	}
	a := Segment{Ack, 1, 2, 3, 4, 5, []Block{{6, 7}}, "x"}
	for i, f := range []func(*Segment){
		func(b *Segment) { b.Flags++ }, func(b *Segment) { b.Path++ }, func(b *Segment) { b.Epoch++ }, func(b *Segment) { b.Seq++ },
		func(b *Segment) { b.Ack++ }, func(b *Segment) { b.Window++ }, func(b *Segment) { b.Sacks = []Block{{6, 8}} }, func(b *Segment) { b.Data = "y" },
	} {
		b := a
		f(&b)
		if Same(a, b) || !Same(b, b) {
			t.Error(i)
		}
	}
	if !Same(Segment{}, Segment{Sacks: []Block{}}) {
		t.Error("nil and the empty list")
	}
}

// random makes a segment that may be.
func random(r *rand.Rand) Segment {
	x := Segment{Flags: uint8(r.Intn(32)), Path: r.Intn(4), Epoch: r.Intn(65536), Seq: r.Uint32(), Window: r.Intn(65536)}
	if Has(x, Ack) {
		x.Ack = r.Uint32()
		for range r.Intn(4) {
			x.Sacks = append(x.Sacks, Block{r.Uint32(), r.Uint32()})
		}
	}
	if x.Flags&(Syn|Reset) == 0 {
		b := make([]byte, r.Intn(api.MaxPayload+1))
		r.Read(b)
		x.Data = string(b)
	}
	return x
}

// P7.4
func TestPutIsGot(t *testing.T) {
	r := rand.New(rand.NewSource(8))
	for range 300 {
		x := random(r)
		s, e := Put(x)
		if g, e2 := Get(s); e != api.OK || e2 != api.OK || !Same(g, x) {
			t.Fatal(x, e, e2)
		}
		b := []byte(s)
		b[r.Intn(len(b))] ^= byte(1 + r.Intn(255))
		if _, e := Get(string(b)); e != api.ErrSum {
			t.Fatal(e)
		}
	}
}

// P7.1: the flags are as the chapter lists them.
func TestFlags(t *testing.T) {
	if Syn != 1 || Ack != 2 || Fin != 4 || Reset != 8 || Probe != 16 {
		t.Error(Syn, Ack, Fin, Reset, Probe)
	}
}
