package cursor

import (
	"math"
	"math/rand"
	"testing"

	"sennit/api"
)

// P1.1
func TestOpenLeftDone(t *testing.T) {
	c := Open("abc")
	if c != (Cursor{Data: "abc"}) || Left(c) != 3 || Done(c) != api.ErrForm {
		t.Error(c)
	}
	if c := Open(""); Left(c) != 0 || Done(c) != api.OK {
		t.Error(c)
	}
	for _, x := range []struct {
		c    Cursor
		left int
		done api.Errno
	}{
		{Cursor{"abc", 3, api.OK}, 0, api.OK},
		{Cursor{"abc", 2, api.OK}, 1, api.ErrForm},
		{Cursor{"abc", 4, api.OK}, 0, api.ErrRange},
		{Cursor{"abc", -1, api.OK}, 0, api.ErrRange},
		{Cursor{"abc", -1, api.ErrArg}, 0, api.ErrArg},
		{Cursor{"abc", 1, api.ErrCut}, 0, api.ErrCut},
		{Cursor{"abc", math.MinInt, api.OK}, 0, api.ErrRange},
		{Cursor{"abc", math.MaxInt, api.OK}, 0, api.ErrRange},
	} {
		if Left(x.c) != x.left || Done(x.c) != x.done {
			t.Error(x)
		}
	}
}

// P1.2
func TestNumberTakeRest(t *testing.T) {
	c, n := Number(Open("\x01\x02\x03"), 2)
	if n != 258 || Left(c) != 1 || c.At != 2 {
		t.Error(n, c)
	}
	if c, n := Number(Open("\xff\xff\xff\xff\xff\xff\xff"), 7); n != 1<<56-1 || Done(c) != api.OK {
		t.Error(n, c)
	}
	for _, x := range []struct {
		n    int
		want api.Errno
	}{{0, api.ErrArg}, {8, api.ErrArg}, {-1, api.ErrArg}, {math.MinInt, api.ErrArg}, {math.MaxInt, api.ErrArg}, {4, api.ErrCut}} {
		if d, n := Number(Open("abc"), x.n); d.Bad != x.want || n != 0 || d.At != 0 {
			t.Error(x, d, n)
		}
	}
	if d, s := Take(Open("abc"), 2); s != "ab" || d.At != 2 || d.Bad != api.OK {
		t.Error(d, s)
	}
	if d, s := Take(Open("abc"), 0); s != "" || d != Open("abc") {
		t.Error(d, s)
	}
	if d, s := Take(Open("abc"), -1); s != "" || d.Bad != api.ErrArg || d.At != 0 {
		t.Error(d, s)
	}
	if d, s := Take(Open("abc"), math.MaxInt); s != "" || d.Bad != api.ErrCut {
		t.Error(d, s)
	}
	if d, s := Rest(Cursor{Data: "abc", At: 1}); s != "bc" || d.At != 3 || d.Bad != api.OK {
		t.Error(d, s)
	}
	out := Cursor{Data: "abc", At: 4}
	if d, n := Number(out, 9); d.Bad != api.ErrRange || n != 0 || d.At != 4 {
		t.Error(d)
	}
	if d, s := Take(out, -1); d.Bad != api.ErrRange || s != "" {
		t.Error(d)
	}
	if d, s := Rest(out); d.Bad != api.ErrRange || s != "" {
		t.Error(d)
	}
	bad := Cursor{Data: "abc", At: 1, Bad: api.ErrSum}
	if d, n := Number(bad, 1); d != bad || n != 0 {
		t.Error(d)
	}
	if d, s := Take(bad, 1); d != bad || s != "" {
		t.Error(d)
	}
	if d, s := Rest(bad); d != bad || s != "" {
		t.Error(d)
	}
}

// P1.3
func TestLayFits(t *testing.T) {
	if x := Lay(nil, 258, 2); string(x) != "\x01\x02" {
		t.Errorf("%x", x)
	}
	for bytes := 1; bytes <= 7; bytes++ {
		top := 1<<(8*bytes) - 1
		if !Fits(0, bytes) || !Fits(top, bytes) || Fits(top+1, bytes) || Fits(-1, bytes) {
			t.Error(bytes)
		}
	}
	for _, x := range [][2]int{{0, 0}, {0, 8}, {1, -1}, {1, math.MinInt}, {1, math.MaxInt}, {math.MaxInt, 7}, {math.MinInt, 7}} {
		if Fits(x[0], x[1]) || string(Lay([]byte("ab"), x[0], x[1])) != "ab" {
			t.Error(x)
		}
	}
	b := make([]byte, 1, 20)
	x := Lay(b, 7, 1)
	y := Lay(b, 300, 1)
	x[0], y[0] = 9, 9
	if b[0] != 0 || b[:2][1] != 0 {
		t.Error("Lay shares its argument")
	}
}

// P1.4
func TestLaidIsRead(t *testing.T) {
	r := rand.New(rand.NewSource(1))
	for range 200 {
		var b []byte
		var nums, sizes []int
		for range r.Intn(6) {
			bytes := 1 + r.Intn(7)
			n := r.Intn(1 << (8 * bytes))
			b = Lay(b, n, bytes)
			nums, sizes = append(nums, n), append(sizes, bytes)
		}
		c := Open(string(b))
		for i, n := range nums {
			var got int
			if c, got = Number(c, sizes[i]); got != n {
				t.Fatal(got, n)
			}
		}
		if Done(c) != api.OK {
			t.Fatal(c)
		}
		c, _ = Number(c, 1)
		c, _ = Take(c, -1)
		if Done(c) != api.ErrCut {
			t.Fatal("the first error does not stay")
		}
	}
}
