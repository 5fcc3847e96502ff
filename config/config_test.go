package config

import (
	"hash/fnv"
	"math"
	"math/rand"
	"testing"

	"sennit/api"
	"sennit/tune"
	"sennit/world"
)

const usual = "paths 2\nvalues 0 8 256 4096 32\nvalues 1 8 256 4096 32\nfirst 0 1\nfirst 1 2\n"

// P35.1
func TestCheckFirst(t *testing.T) {
	if First() != (world.Config{Paths: 2, Values: [2]tune.Values{tune.First(), tune.First()}, First: [2]uint32{1, 2}}) || Check(First()) != api.OK {
		t.Error(First())
	}
	for i, f := range []func(*world.Config){
		func(c *world.Config) { c.Paths = 0 }, func(c *world.Config) { c.Paths = 5 }, func(c *world.Config) { c.Paths = math.MinInt },
		func(c *world.Config) { c.Values[0].Streams = 9 }, func(c *world.Config) { c.Values[1].Window = 0 },
	} {
		c := First()
		f(&c)
		s, e := Print(c)
		if Check(c) != api.ErrRange || e != api.ErrRange || s != "" || Digest(c) != 0 {
			t.Error(i)
		}
	}
}

// P35.2
func TestParse(t *testing.T) {
	if c, n, e := Parse("paths 3\n"); c.Paths != 3 || c.Values != First().Values || c.First != First().First || n != 0 || e != api.OK {
		t.Error(c, n, e)
	}
	want := world.Config{Paths: 4, Values: [2]tune.Values{tune.First(), {Streams: 0, Window: 1, Whole: 2, Chunk: 3}}, First: [2]uint32{math.MaxUint32, 0}}
	if c, n, e := Parse("# a\n\nfirst 1 0\nfirst 0 4294967295\n#\nvalues 1 0 1 2 3\npaths 4\n\n"); c != want || n != 0 || e != api.OK {
		t.Error(c, n, e)
	}
	for _, text := range []string{"", "\n", "# nothing\n"} {
		if c, n, e := Parse(text); c != First() || n != 0 || e != api.OK {
			t.Error(text, n, e)
		}
	}
	for text, want := range map[string]struct {
		n int
		e api.Errno
	}{
		"path 3\n": {1, api.ErrKind}, "\nPaths 3\n": {2, api.ErrKind}, " paths 3\n": {1, api.ErrKind}, " \n": {1, api.ErrKind}, "paths 1\nnothing": {2, api.ErrKind}, "paths\t3\n": {1, api.ErrKind},
		"paths\n": {1, api.ErrLine}, "paths \n": {1, api.ErrLine}, "paths 1 2\n": {1, api.ErrLine}, "paths  1\n": {1, api.ErrLine}, "paths 01\n": {1, api.ErrLine}, "paths 1 \n": {1, api.ErrLine}, "paths -1\n": {1, api.ErrLine},
		"paths 12345678901\n": {1, api.ErrLine}, "paths 1x\n": {1, api.ErrLine}, "paths 1\r\n": {1, api.ErrLine}, "values 0 1 2 3\n": {1, api.ErrLine}, "values 2 1 2 3 4\n": {1, api.ErrLine}, "values 00 1 2 3 4\n": {1, api.ErrLine},
		"first 0\n": {1, api.ErrLine}, "first 2 1\n": {1, api.ErrLine}, "first 0 4294967296\n": {1, api.ErrLine}, "first 0 9999999999\n": {1, api.ErrLine},
		"paths 1\npaths 2\n": {2, api.ErrThere}, "values 1 8 8 8 8\n#\nvalues 1 8 8 8 8\n": {3, api.ErrThere}, "first 0 1\nfirst 1 1\nfirst 0 1": {3, api.ErrThere}, "paths 1\npaths x\n": {2, api.ErrLine},
		"paths 1\npaths 1\nzzz\n": {2, api.ErrThere},
		"paths 1":                 {0, api.ErrCut}, "paths 9": {0, api.ErrCut}, "#": {0, api.ErrCut}, "paths 1\n#": {0, api.ErrCut},
		"paths 0\n": {0, api.ErrRange}, "paths 9999999999\n": {0, api.ErrRange}, "values 0 9 1 1 1\n": {0, api.ErrRange}, "values 1 8 0 1 1\n": {0, api.ErrRange},
	} {
		if c, n, e := Parse(text); c != (world.Config{}) || n != want.n || e != want.e {
			t.Errorf("%q %d %d", text, n, int(e))
		}
	}
}

// P35.3, P35.4
func TestPrintDigest(t *testing.T) {
	s, e := Print(First())
	if s != usual || e != api.OK {
		t.Error(s, e)
	}
	h := fnv.New32a()
	h.Write([]byte(s))
	if Digest(First()) != h.Sum32() {
		t.Error(Digest(First()))
	}
}

// P35.5
func TestThereAndBack(t *testing.T) {
	r := rand.New(rand.NewSource(35))
	for range 500 {
		c := world.Config{Paths: 1 + r.Intn(4), First: [2]uint32{r.Uint32(), r.Uint32()}}
		for i := range c.Values {
			c.Values[i] = tune.Values{Streams: r.Intn(9), Window: 1 + r.Intn(4096), Whole: 1 + r.Intn(1<<20), Chunk: 1 + r.Intn(32)}
		}
		s, e := Print(c)
		if got, n, e2 := Parse(s); got != c || n != 0 || e != api.OK || e2 != api.OK {
			t.Fatal(s, got)
		}
	}
}
