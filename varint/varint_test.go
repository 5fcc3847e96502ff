package varint

import (
	"encoding/hex"
	"math"
	"math/rand"
	"slices"
	"testing"

	"sennit/api"
)

var edges = []struct {
	n   int
	hex string
}{
	{0, "00"}, {37, "25"}, {63, "3f"}, {64, "4040"}, {15293, "7bbd"}, {16383, "7fff"}, {16384, "80004000"},
	{1<<30 - 1, "bfffffff"}, {1 << 30, "c000000040000000"}, {api.MaxVar, "ffffffffffffffff"},
}

// P2.1
func TestSizePut(t *testing.T) {
	for _, x := range edges {
		b, e := Put(x.n)
		if e != api.OK || hex.EncodeToString(b) != x.hex || Size(x.n) != len(b) {
			t.Errorf("%d: %x", x.n, b)
		}
	}
	for _, n := range []int{-1, math.MinInt, api.MaxVar + 1, math.MaxInt} {
		if b, e := Put(n); e != api.ErrRange || b != nil || Size(n) != 0 {
			t.Error(n, b, e)
		}
	}
}

// P2.2
func TestGet(t *testing.T) {
	for _, x := range edges {
		b, _ := hex.DecodeString(x.hex)
		if n, size, e := Get(string(b)); n != x.n || size != len(b) || e != api.OK {
			t.Error(x, n, size, e)
		}
		for i := range b {
			if n, size, e := Get(string(b[:i])); n != 0 || size != 0 || e != api.ErrCut {
				t.Error(x, i, e)
			}
		}
	}
	for _, s := range []string{"\x40\x25", "\x40\x3f", "\x80\x00\x3f\xff", "\xc0\x00\x00\x00\x3f\xff\xff\xff"} {
		if n, size, e := Get(s); n != 0 || size != 0 || e != api.ErrForm {
			t.Errorf("%x %v", s, e)
		}
	}
}

// P2.3
func TestAllJoin(t *testing.T) {
	if b, e := Join([]int{37, 15293, 0}); e != api.OK || string(b) != "\x25\x7b\xbd\x00" {
		t.Errorf("%x", b)
	}
	if b, e := Join([]int{1, -1, 2}); e != api.ErrRange || b != nil {
		t.Error(b, e)
	}
	if b, e := Join(nil); e != api.OK || len(b) != 0 {
		t.Error(b, e)
	}
	if l, e := All("\x25\x7b\xbd\x00"); e != api.OK || !slices.Equal(l, []int{37, 15293, 0}) {
		t.Error(l, e)
	}
	if l, e := All(""); e != api.OK || len(l) != 0 {
		t.Error(l, e)
	}
	if l, e := All("\x25\x7b"); e != api.ErrCut || l != nil {
		t.Error(l, e)
	}
	if l, e := All("\x25\x40\x01\x7b"); e != api.ErrForm || l != nil {
		t.Error(l, e)
	}
}

// P2.4
func TestPutIsGot(t *testing.T) {
	r := rand.New(rand.NewSource(2))
	for range 500 {
		n := int(r.Uint64()>>2) >> r.Intn(62)
		b, _ := Put(n)
		tail := make([]byte, r.Intn(4))
		r.Read(tail)
		if got, size, e := Get(string(b) + string(tail)); got != n || size != len(b) || e != api.OK {
			t.Fatal(n, got, size, e)
		}
	}
	for range 2000 {
		s := make([]byte, r.Intn(12))
		r.Read(s)
		if l, e := All(string(s)); e == api.OK {
			if b, e := Join(l); e != api.OK || string(b) != string(s) {
				t.Fatalf("%x %x", s, b)
			}
		}
	}
}
