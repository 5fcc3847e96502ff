package crc

import (
	"hash/crc32"
	"math/rand"
	"testing"

	"sennit/api"
)

// P3.1
func TestSumMore(t *testing.T) {
	if Sum("123456789") != 0xcbf43926 || Sum("") != 0 {
		t.Errorf("%x", Sum("123456789"))
	}
	if More(Sum("1234"), "56789") != 0xcbf43926 || More(7, "") != 7 {
		t.Error("More")
	}
	r := rand.New(rand.NewSource(3))
	for range 300 {
		b := make([]byte, r.Intn(70))
		r.Read(b)
		if Sum(string(b)) != crc32.ChecksumIEEE(b) {
			t.Fatalf("%x", b)
		}
	}
}

// P3.2
func TestSealUnseal(t *testing.T) {
	if s := Seal("123456789"); s != "123456789\xcb\xf4\x39\x26" {
		t.Errorf("%x", s)
	}
	for _, x := range []struct {
		s, want string
		e       api.Errno
	}{
		{"", "", api.ErrCut}, {"\x00\x00\x00", "", api.ErrCut}, {"\x00\x00\x00\x00", "", api.OK}, {"\x00\x00\x00\x01", "", api.ErrSum},
		{"123456789\xcb\xf4\x39\x26", "123456789", api.OK}, {"123456789\x26\x39\xf4\xcb", "", api.ErrSum},
	} {
		if s, e := Unseal(x.s); s != x.want || e != x.e {
			t.Error(x, s, e)
		}
	}
}

// P3.3
func TestSealedIsUnsealed(t *testing.T) {
	r := rand.New(rand.NewSource(4))
	for range 300 {
		a, b := make([]byte, r.Intn(20)), make([]byte, r.Intn(20))
		r.Read(a)
		r.Read(b)
		if More(Sum(string(a)), string(b)) != Sum(string(a)+string(b)) {
			t.Fatalf("%x %x", a, b)
		}
		s := []byte(Seal(string(a)))
		if got, e := Unseal(string(s)); got != string(a) || e != api.OK {
			t.Fatalf("%x", s)
		}
		for i := range s {
			s[i] ^= byte(1 + r.Intn(255))
			old := s[i]
			if got, e := Unseal(string(s)); got != "" || e != api.ErrSum {
				t.Fatalf("%x", s)
			}
			s[i] = old
			s = []byte(Seal(string(a)))
		}
	}
}
