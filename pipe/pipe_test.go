package pipe

import (
	"math"
	"math/rand"
	"strings"
	"testing"

	"sennit/aimd"
	"sennit/api"
	"sennit/recvq"
	"sennit/rtt"
	"sennit/segment"
	"sennit/sendq"
	"sennit/shake"
)

// text tells n bytes.
func text(n int) string { return strings.Repeat("abcdefg", n/7+1)[:n] }

// up tells two ends that are up, the first with 5, the other one with 2^32 - 1.
func up() (State, State) {
	a, _ := New(0, 0, 5)
	b, _ := New(0, 0, math.MaxUint32)
	a, syn, _ := Out(Open(a))
	b, x, _ := Out(On(b, syn))
	a = On(a, x)
	a, x, _ = Out(a)
	return a, On(b, x)
}

// P14.1
func TestNewOpenKill(t *testing.T) {
	for _, x := range [][2]int{{-1, 0}, {4, 0}, {0, -1}, {0, 65536}} {
		if st, e := New(x[0], x[1], 1); e != api.ErrRange || !Same(st, State{}) {
			t.Error(x, e)
		}
	}
	st, e := New(3, 9, 7)
	want := State{Shake: shake.New(3, 9, 7), Send: sendq.New(), Recv: recvq.New(), Rtt: rtt.New(), Win: aimd.New(), Limit: 4096}
	if e != api.OK || !Same(st, want) {
		t.Error(st)
	}
	st = Open(Tick(st, 70))
	if st.Shake.Stage != shake.Asked || st.Heard != 70 {
		t.Error(st)
	}
	st = Tick(st, 80)
	if x := Open(st); !Same(x, st) {
		t.Error("Open of one that asked")
	}
	if x := Kill(st); x.Shake.Stage != shake.Dead || Alive(x) {
		t.Error(x)
	}
}

// P14.2
func TestWriteReadRoomReady(t *testing.T) {
	a, b := up()
	a, n := Write(a, text(5000))
	if n != 4096 || Room(a) != 0 || Room(b) != 4096 {
		t.Error(n)
	}
	if x, n := Write(Kill(b), "a"); n != 0 || !Same(x, Kill(b)) || Room(Kill(b)) != 0 {
		t.Error("a dead one takes nothing")
	}
	b.Recv.Base, b.Recv.Ready = 4049, text(4049)
	if x, s := Read(b, 5); s != text(5) || !x.Due || Ready(x) != 4044 {
		t.Error("an acknowledgement is due")
	}
	if x, s := Read(b, 0); s != "" || x.Due {
		t.Error("nothing went out")
	}
	b.Recv.Base, b.Recv.Ready = 4048, text(4048)
	if x, _ := Read(b, 5); x.Due {
		t.Error("there was room")
	}
	if _, s := Read(Kill(b), 3); s != "abc" {
		t.Error("what is ready is read")
	}
}

// P14.3
func TestOnGreeting(t *testing.T) {
	a, _ := New(0, 0, 5)
	a = Tick(Open(a), 3)
	if x := On(a, segment.Segment{Flags: segment.Syn | segment.Ack, Path: 1, Ack: 6}); !Same(x, a) {
		t.Error("one that does not fit")
	}
	x := On(a, segment.Segment{Flags: segment.Syn, Seq: 9})
	if x.Heard != 3 || x.Shake.Stage != shake.Heard || x.Due {
		t.Error(x)
	}
	x = On(a, segment.Segment{Flags: segment.Syn | segment.Ack, Seq: 9, Ack: 6, Window: 9999})
	if !Alive(x) || !x.Due || x.Limit != 4096 {
		t.Error(x)
	}
	if x := On(x, segment.Segment{Flags: segment.Reset}); x.Shake.Stage != shake.Dead {
		t.Error(x)
	}
	if x := Kill(a); !Same(On(x, segment.Segment{Flags: segment.Syn}), x) {
		t.Error("a dead one takes nothing")
	}
}

// P14.3
func TestOnAck(t *testing.T) {
	a, _ := up()
	a, _ = Write(a, text(300))
	a, _, _ = Out(a)
	a, _, _ = Out(Tick(a, 2))
	hers := a.Shake.Hers + 1
	for i, x := range []struct {
		ack    uint32
		window int
		sacks  []segment.Block
		base   int
		came   int
		limit  int
		win    int
		known  bool
	}{
		{6, 0, nil, 0, 0, 4096, 96, false},
		{54, 5000, nil, 48, 0, 5048, 144, true},
		{5, 9000, nil, 0, 0, 4096, 96, false},   // below Base
		{103, 9000, nil, 0, 0, 4096, 96, false}, // above Next
		{6, 4097, []segment.Block{{From: 54, To: 102}}, 0, 1, 4097, 144, true},
		{6, 0, []segment.Block{{From: 54, To: 103}}, 0, 0, 4096, 96, false},
		{6, 0, []segment.Block{{From: 60, To: 58}, {From: 70, To: 70}}, 0, 0, 4096, 96, false},
		{6, 0, []segment.Block{{From: 80, To: 90}, {From: 70, To: 80}}, 0, 1, 4096, 116, true},
		{30, 0, []segment.Block{{From: 20, To: 40}}, 24, 0, 4096, 120, true},
	} {
		got := On(Tick(a, 4), segment.Segment{Flags: segment.Ack, Seq: hers, Ack: x.ack, Window: x.window, Sacks: x.sacks})
		if got.Send.Base != x.base || len(got.Send.Came) != x.came || got.Limit != x.limit || got.Win.Win != x.win || got.Rtt.Known != x.known || got.Heard != 4 || got.Due {
			t.Error(i, got)
		}
	}
	if x := On(a, segment.Segment{Flags: segment.Ack | segment.Syn, Seq: hers - 1, Ack: 54}); x.Send.Base != 0 || !x.Due {
		t.Error("with Syn nothing is acknowledged")
	}
	if x := On(a, segment.Segment{Flags: segment.Probe, Seq: hers}); !x.Due {
		t.Error("a probe is answered")
	}
	for range 2 {
		a, _, _ = Out(a)
	}
	a.Win.Win = 480
	for range 6 {
		a, _, _ = Out(a)
	}
	if x := On(a, segment.Segment{Flags: segment.Ack, Seq: hers, Ack: 6, Sacks: []segment.Block{{From: 150, To: 198}}}); x.Win.Win != 264 || !x.Send.Flight[0].Lost {
		t.Error("a loss", x.Win, x.Send.Flight)
	}
}

// P14.3
func TestOnData(t *testing.T) {
	a, b := up()
	seq := a.Shake.Mine + 1
	x := On(b, segment.Segment{Seq: seq + 2, Data: "cd"})
	if len(x.Recv.Parts) != 1 || x.Recv.Parts[0].At != 2 || !x.Due {
		t.Error(x)
	}
	x.Due = false
	if x = On(x, segment.Segment{Seq: seq, Data: "ab"}); x.Recv.Ready != "abcd" || !x.Due || Ready(x) != 4 {
		t.Error(x)
	}
	if x = On(x, segment.Segment{Seq: seq - 1, Data: "Zabcd"}); x.Recv.Ready != "abcd" {
		t.Error(x)
	}
}

// P14.4
func TestTick(t *testing.T) {
	a, _ := up()
	for _, now := range []int{0, -1, math.MinInt, api.MaxTick + 1, math.MaxInt} {
		if !Same(Tick(a, now), a) {
			t.Error(now)
		}
	}
	if x := Tick(a, 199); x.Now != 199 || !Alive(x) {
		t.Error(x)
	}
	if x := Tick(a, 200); x.Now != 200 || x.Shake.Stage != shake.Dead {
		t.Error(x)
	}
	c, _ := New(0, 0, 1)
	if x := Tick(c, 500); x.Now != 500 || x.Shake.Stage != shake.Closed {
		t.Error(x)
	}
	a, _ = Write(a, text(10))
	a, _, _ = Out(a)
	if x := Tick(a, 15); sendq.Flight(x.Send) != 10 || x.Rtt.Shift != 1 || x.Win.Win != 96 { // the greeting doubled the wait
		t.Error(x)
	}
	if x := Tick(a, 16); sendq.Flight(x.Send) != 0 || x.Rtt.Shift != 2 || x.Win.Win != 48 {
		t.Error(x)
	}
}

// P14.5
func TestOutGreets(t *testing.T) {
	st, _ := New(2, 9, 7)
	if _, _, ok := Out(st); ok {
		t.Error("a closed one")
	}
	st = Open(st)
	next := 0
	for now := range 60 {
		st = Tick(st, now)
		var ok bool
		var x segment.Segment
		st, x, ok = Out(st)
		if ok != (now == next) {
			t.Error(now, ok)
		}
		if ok {
			next = now + 8<<(st.Rtt.Shift-1)
			if !segment.Same(x, segment.Segment{Flags: segment.Syn, Path: 2, Epoch: 9, Seq: 7, Window: 65535}) || st.Next != next {
				t.Error(x, st.Next)
			}
		}
	}
	if _, _, ok := Out(Kill(st)); ok {
		t.Error("a dead one")
	}
}

// P14.5
func TestOutSpeaks(t *testing.T) {
	a, b := up()
	a, _ = Write(a, "hi")
	a, x, ok := Out(a)
	if !ok || !segment.Same(x, segment.Segment{Flags: segment.Ack, Seq: 6, Ack: 0, Window: 4096, Data: "hi"}) {
		t.Error(x)
	}
	b = On(b, x)
	b = On(b, segment.Segment{Seq: 20, Data: "x"})
	b = On(b, segment.Segment{Seq: 30, Data: "yz"})
	b = On(b, segment.Segment{Seq: 40, Data: "p"})
	b = On(b, segment.Segment{Seq: 50, Data: "q"})
	b, x, ok = Out(b)
	want := segment.Segment{Flags: segment.Ack, Seq: 0, Ack: 8, Window: 4094, Sacks: []segment.Block{{From: 20, To: 21}, {From: 30, To: 32}, {From: 40, To: 41}}}
	if !ok || !segment.Same(x, want) || b.Due {
		t.Error(x)
	}
	if y, x, ok := Out(b); ok || !segment.Same(x, segment.Segment{}) || !Same(y, b) {
		t.Error("nothing is due")
	}
	if _, _, ok := Out(Tick(b, 15)); ok {
		t.Error("too soon for a probe")
	}
	b, x, ok = Out(Tick(b, 16))
	if !ok || x.Flags != segment.Ack|segment.Probe || b.Probe != 16 || x.Data != "" {
		t.Error(x)
	}
	if _, _, ok := Out(Tick(b, 31)); ok {
		t.Error("too soon for another probe")
	}
	b.Due = true
	if y, x, ok := Out(Tick(b, 32)); !ok || x.Flags != segment.Ack || y.Probe != 16 {
		t.Error("what is due is no probe")
	}
	a.Limit = 1
	a, _ = Write(a, "more")
	if _, x, _ := Out(a); x.Data != "" {
		t.Error("beyond the limit")
	}
}

// P14.6
func TestAliveIdleSame(t *testing.T) {
	a, b := up()
	if !Alive(a) || !Alive(b) || !Idle(a) || Same(a, b) || !Same(a, a) {
		t.Error(a, b)
	}
	if x, _ := Write(a, "x"); Idle(x) || Same(x, a) {
		t.Error(x)
	}
	for i, f := range []func(*State){
		func(x *State) { x.Shake.Hers++ }, func(x *State) { x.Send.Base++ }, func(x *State) { x.Recv.Base++ }, func(x *State) { x.Rtt.Shift++ },
		func(x *State) { x.Win.Part++ }, func(x *State) { x.Limit++ }, func(x *State) { x.Now++ }, func(x *State) { x.Heard++ },
		func(x *State) { x.Next++ }, func(x *State) { x.Probe++ }, func(x *State) { x.Due = !x.Due },
	} {
		x := a
		if f(&x); Same(a, x) {
			t.Error(i)
		}
	}
}

// P14.7
func TestAllComes(t *testing.T) {
	r := rand.New(rand.NewSource(15))
	for range 25 {
		var ends [2]State
		ends[0], _ = New(1, 4, r.Uint32())
		ends[1], _ = New(1, 4, r.Uint32())
		ends[0] = Open(ends[0])
		all := [2]string{text(r.Intn(9000)), text(r.Intn(3000))}
		var wrote [2]int
		var read [2]string
		var net [2][]segment.Segment
		for now := 1; now < 6000 && (read[0] != all[1] || read[1] != all[0]); now++ {
			for i := range ends {
				var n int
				ends[i], n = Write(Tick(ends[i], now), all[i][wrote[i]:])
				wrote[i] += n
				for {
					var x segment.Segment
					var ok bool
					if ends[i], x, ok = Out(ends[i]); !ok {
						break
					}
					if r.Intn(5) > 0 {
						net[i] = append(net[i], x)
					}
				}
				for len(net[1-i]) > 0 && r.Intn(9) > 0 {
					k := r.Intn(len(net[1-i]))
					ends[i] = On(ends[i], net[1-i][k])
					if r.Intn(5) > 0 {
						net[1-i] = append(net[1-i][:k:k], net[1-i][k+1:]...)
					}
				}
				var s string
				ends[i], s = Read(ends[i], r.Intn(900))
				read[i] += s
				if !strings.HasPrefix(all[1-i], read[i]) {
					t.Fatal("not a beginning")
				}
			}
		}
		if read[0] != all[1] || read[1] != all[0] {
			t.Fatal("not all came", len(read[0]), len(read[1]), ends)
		}
	}
}

// P14.3: edges of what is acknowledged.
func TestOnAckEdges(t *testing.T) {
	a, _ := up()
	if Quiet != 16 || Death != 200 || !Same(Tick(a, api.MaxTick), Kill(Tick(a, api.MaxTick))) {
		t.Error("the ticks")
	}
	hers := a.Shake.Hers + 1
	ack := func(st State, number uint32, window int, l ...segment.Block) State {
		return On(st, segment.Segment{Flags: segment.Ack, Seq: hers, Ack: number, Window: window, Sacks: l})
	}
	a, _ = Write(a, text(300))
	a, _, _ = Out(a)
	a, _, _ = Out(a)
	if x := ack(a, 102, 9000); x.Limit != 9096 || x.Send.Base != 96 || !x.Rtt.Known || x.Rtt.Smooth != 0 {
		t.Error(x) // all of it, at once
	}
	if x := ack(a, 6, 0, segment.Block{From: 6, To: 20}); x.Send.Base != 14 {
		t.Error(x.Send)
	}
	b := ack(a, 54, 0)
	if x := ack(b, 6, 60000); x.Limit != b.Limit || x.Send.Base != 48 {
		t.Error("below Base")
	}
	if x := ack(b, 60, 0, segment.Block{From: 55, To: 70}); x.Send.Base != 54 || len(x.Send.Came) != 0 {
		t.Error("a block below what came", x.Send)
	}
	// What was sent later is waited for from then on.
	c, _ := up()
	c = Tick(c, 10)
	c, _ = Write(c, "late")
	c, _, _ = Out(c)
	if x := Tick(c, 25); sendq.Flight(x.Send) != 4 {
		t.Error("too soon")
	}
	if x := Tick(c, 26); sendq.Flight(x.Send) != 0 {
		t.Error("too late")
	}
}
