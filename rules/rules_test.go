package rules

import (
	"math"
	"testing"

	"sennit/api"
	"sennit/frame"
)

// P17.1
func TestJudge(t *testing.T) {
	tell := map[byte]Verdict{'f': {}, 'i': {Ignored, 0}, 'P': {Session, api.Protocol}, 'C': {Session, api.StreamClosed}, 'N': {Session, api.Internal}}
	rows := map[uint8]string{
		frame.Data: "fPffiiP", frame.Headers: "PfPPCCP", frame.Priority: "Pffffff", frame.Reset: "PPffiiP", frame.Settings: "fPPPPPP", frame.Ping: "fPPPPPP",
		frame.GoAway: "fPPPPPP", frame.Path: "fPPPPPP", frame.Window: "fPffiiP", frame.Came: "fPffiiP",
	}
	for kind := range 256 {
		row := rows[uint8(kind)]
		for class := range 256 {
			want := tell['N']
			if class < len(row) {
				want = tell[row[class]]
			}
			if got := Judge(uint8(kind), uint8(class)); got != want {
				t.Error(kind, class, got)
			}
		}
	}
}

// P17.2
func TestCarriedFault(t *testing.T) {
	for kind := range 256 {
		want := kind >= 1 && kind <= 8 && kind != 5
		if Carried(uint8(kind)) != want {
			t.Error(kind)
		}
	}
	for e, want := range map[api.Errno]Verdict{
		api.OK: {}, api.ErrLong: {Session, api.FrameSize}, api.ErrKind: {Session, api.Protocol}, api.ErrForm: {Session, api.Protocol},
		api.ErrCut: {Session, api.Protocol}, -1: {Session, api.Protocol}, math.MaxInt: {Session, api.Protocol},
	} {
		if Fault(e) != want {
			t.Error(int(e), Fault(e))
		}
	}
}

// P17.3
func TestWorseWorst(t *testing.T) {
	a, b, c := Verdict{Stream, 1}, Verdict{Stream, 2}, Verdict{Session, 0}
	if Worse(a, b) != a || Worse(b, a) != b || Worse(a, c) != c || Worse(c, a) != c || Worse(Verdict{-5, 1}, Verdict{-6, 2}) != (Verdict{-5, 1}) {
		t.Error("Worse")
	}
	for i, x := range []struct {
		kinds, classes []uint8
		want           Verdict
	}{
		{nil, nil, Verdict{}},
		{[]uint8{0}, nil, Verdict{}},
		{nil, []uint8{Idle}, Verdict{}},
		{[]uint8{0, 0, 0}, []uint8{Open, Gone}, Verdict{Ignored, 0}},
		{[]uint8{0, 1, 0}, []uint8{Gone, Cut, Idle, 99}, Verdict{Session, api.StreamClosed}},
		{[]uint8{0, 1}, []uint8{Idle, Cut}, Verdict{Session, api.Protocol}},
		{[]uint8{0, 1}, []uint8{Open}, Verdict{}},
	} {
		if got := Worst(x.kinds, x.classes); got != x.want {
			t.Error(i, got)
		}
	}
}

// P17.1: classes and scopes are as the chapter lists them.
func TestNumbers(t *testing.T) {
	if Control != 0 || Idle != 1 || Open != 2 || Ended != 3 || Gone != 4 || Cut != 5 || Wrong != 6 || Fine != 0 || Ignored != 1 || Stream != 2 || Session != 3 {
		t.Error("the numbers")
	}
}
