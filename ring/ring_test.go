package ring

import (
	"math"
	"math/rand"
	"testing"

	"sennit/api"
)

// P5.1
func TestNew(t *testing.T) {
	for _, n := range []int{0, -1, api.MaxPipe + 1, math.MinInt, math.MaxInt} {
		if r, e := New(n); r != nil || e != api.ErrRange {
			t.Error(n, e)
		}
	}
	for _, n := range []int{1, api.MaxPipe} {
		if r, e := New(n); e != api.OK || r.Len() != 0 || r.Room() != n || r.Total() != 0 {
			t.Error(n, e)
		}
	}
	var r *Ring
	if r.Push([]byte("a")) != 0 || len(r.Pop(1)) != 0 || len(r.Peek(0, 1)) != 0 || r.Drop(1) != 0 || r.Len()+r.Room()+r.Total() != 0 {
		t.Error("nil")
	}
}

// P5.2, P5.4
func TestPushPopDrop(t *testing.T) {
	r, _ := New(3)
	if n := r.Push([]byte("abcd")); n != 3 || r.Room() != 0 || r.Total() != 3 {
		t.Error(n)
	}
	if s := r.Pop(2); string(s) != "ab" || r.Len() != 1 || r.Room() != 2 {
		t.Error(s)
	}
	if n := r.Push([]byte("xyz")); n != 2 || r.Total() != 5 {
		t.Error(n)
	}
	if len(r.Pop(0)) != 0 || len(r.Pop(-1)) != 0 || r.Drop(0) != 0 || r.Drop(math.MinInt) != 0 || r.Len() != 3 {
		t.Error("less than one")
	}
	if s := r.Pop(9); string(s) != "cxy" || r.Len() != 0 {
		t.Error(s)
	}
	r.Push([]byte("pq"))
	if r.Drop(math.MaxInt) != 2 || r.Len() != 0 || r.Total() != 7 {
		t.Error("Drop")
	}
}

// P5.3
func TestPeek(t *testing.T) {
	r, _ := New(4)
	r.Push([]byte("abcd"))
	r.Pop(2)
	r.Push([]byte("ef"))
	for _, x := range []struct {
		from, n int
		want    string
	}{
		{0, 9, "cdef"}, {1, 2, "de"}, {3, 1, "f"}, {4, 1, ""}, {5, 1, ""}, {-1, 3, ""}, {0, 0, ""}, {0, -1, ""},
		{math.MinInt, 1, ""}, {math.MaxInt, 1, ""}, {1, math.MaxInt, "def"},
	} {
		if s := r.Peek(x.from, x.n); string(s) != x.want || r.Len() != 4 {
			t.Error(x, string(s))
		}
	}
	s := r.Peek(0, 2)
	s[0] = 'X'
	_ = append(s, 'Y')
	if string(r.Peek(0, 4)) != "cdef" {
		t.Error("Peek shares the room")
	}
}

// P5.5
func TestPlainList(t *testing.T) {
	rnd := rand.New(rand.NewSource(6))
	for range 60 {
		room := 1 + rnd.Intn(9)
		r, _ := New(room)
		var list []byte
		total := 0
		for range 60 {
			n := rnd.Intn(7)
			switch rnd.Intn(4) {
			case 0:
				b := make([]byte, n)
				rnd.Read(b)
				n = min(n, room-len(list))
				if r.Push(b) != n {
					t.Fatal("Push")
				}
				list, total = append(list, b[:n]...), total+n
			case 1:
				n = min(n, len(list))
				if string(r.Pop(n)) != string(list[:n]) {
					t.Fatal("Pop")
				}
				list = list[n:]
			case 2:
				n = min(n, len(list))
				if r.Drop(n) != n {
					t.Fatal("Drop")
				}
				list = list[n:]
			}
			if string(r.Peek(0, room)) != string(list) || r.Len() != len(list) || r.Room() != room-len(list) || r.Total() != total {
				t.Fatal("not the list")
			}
		}
	}
}
