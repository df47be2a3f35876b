package script

import (
	"bytes"
	"math/rand"
	"slices"
	"strings"
	"testing"

	"landfall/api"
	"landfall/node"
	"landfall/tlm"
)

func same(a, b api.Step) bool {
	return a.Kind == b.Kind && bytes.Equal(a.B, b.B) && a.N == b.N && a.Msg.Id == b.Msg.Id && slices.Equal(a.Msg.V, b.Msg.V) && a.Set.Layers == b.Set.Layers && slices.Equal(a.Set.L, b.Set.L)
}

// lines are steps, and their lines.
var lines = map[string]api.Step{
	"bytes -":                      {},
	"bytes 00FFA9":                 {B: []byte{0, 255, 169}},
	"tick 5":                       {Kind: 1, N: 5},
	"tick -9223372036854775808":    {Kind: 1, N: -1 << 63},
	"tick 0":                       {Kind: 1},
	"send 42 1 -1":                 {Kind: 2, Msg: api.Msg{Id: 42, V: []int64{1, -1}}},
	"send -7":                      {Kind: 2, Msg: api.Msg{Id: -7}},
	"send 0 9223372036854775807 0": {Kind: 2, Msg: api.Msg{V: []int64{1<<63 - 1, 0}}},
	"log -1":                       {Kind: 3, N: -1},
	"log 255":                      {Kind: 3, N: 255},
	"ask 1":                        {Kind: 4, Set: api.Valset{Layers: 1}},
	"ask -1 536870913=3 -1=-2":     {Kind: 4, Set: api.Valset{Layers: -1, L: []api.Pair{{Key: 536870913, Value: 3}, {Key: -1, Value: -2}}}},
}

func TestLine(t *testing.T) { // P4502
	for line, s := range lines {
		if Text(s) != line {
			t.Error(Text(s), line)
		}
		if got, err := Line(line); err != 0 || !same(got, s) {
			t.Error(line, got, err)
		}
	}
	full := api.Step{Kind: 1, B: []byte{1}, N: 7, Msg: api.Msg{Id: 3, V: []int64{4}}, Set: api.Valset{Layers: 5, L: make([]api.Pair, 1)}}
	for kind, want := range map[int]string{0: "bytes 01", 1: "tick 7", 2: "send 3 4", 3: "log 7", 4: "ask 5 0=0", 5: "", -1: ""} {
		full.Kind = kind
		if Text(full) != want {
			t.Error(kind, Text(full))
		}
	}
	for _, line := range []string{"", " ", "bytes", "bytes ", "bytes  00", "bytes 0", "bytes 000", "bytes 0g", "bytes ab", "bytes Ab", "bytes 00 00", "bytes --", "bytes - ", " bytes -", "Bytes -", "bytes é0", "bytes\t00",
		"tick", "tick ", "tick x", "tick 05", "tick -0", "tick +5", "tick 5 ", "tick  5", " tick 5", "tick 5 6", "tick 9223372036854775808", "tick -9223372036854775809", "tick 5\r", "tick 5\n", "tick -", "tick 1_0", "tick 0x5", "tick ٣", "TICK 5", "tick5",
		"send", "send ", "send x", "send 1 ", "send 1  2", "send 1 x", "send 1 2 03", "log", "log 1 2", "log 1.0", "ask", "ask x", "ask 1 ", "ask 1 2", "ask 1 2=", "ask 1 =2", "ask 1 2=3=4", "ask 1 2 =3", "ask 1 2=-0", "ask 1 02=3", "ask 1 =", "wait 5", "ask 1 2=9223372036854775808"} {
		if s, err := Line(line); err != api.ErrForm || !same(s, api.Step{}) {
			t.Errorf("%q %v %v", line, s, err)
		}
	}
}

func TestRead(t *testing.T) { // P4502, P4505
	for text, want := range map[string][]api.Step{"": nil, "\n\n": nil, "tick 5": {{Kind: 1, N: 5}}, "tick 5\n": {{Kind: 1, N: 5}}, "\ntick 5\n\n\nlog 0\n\n": {{Kind: 1, N: 5}, {Kind: 3}}} {
		if l, no, err := Read(text); err != 0 || no != 0 || !slices.EqualFunc(l, want, same) {
			t.Errorf("%q %v %v %v", text, l, no, err)
		}
	}
	for text, want := range map[string]int{"x": 1, "tick 5\n\ntick x\ny": 3, "tick 5\n ": 2, "\r\n": 1, "tick 5\n\n\n\ntick 05\n": 5} {
		if l, no, err := Read(text); err != api.ErrForm || no != want || len(l) != 0 {
			t.Errorf("%q %v %v", text, no, err)
		}
	}
	r := rand.New(rand.NewSource(1))
	for range 300 {
		var l []api.Step
		want := ""
		for range r.Intn(10) {
			s := api.Step{Kind: r.Intn(5)}
			switch s.Kind {
			case 0:
				s.B = make([]byte, r.Intn(20))
				r.Read(s.B)
			case 1, 3:
				s.N = int(r.Uint64()) >> r.Intn(64)
			case 2:
				s.Msg.Id = r.Intn(256)
				for range r.Intn(5) {
					s.Msg.V = append(s.Msg.V, int64(r.Uint64())>>r.Intn(64))
				}
			case 4:
				s.Set.Layers = r.Int63n(8)
				for range r.Intn(5) {
					s.Set.L = append(s.Set.L, api.Pair{Key: r.Int63(), Value: int64(r.Uint64())})
				}
			}
			l = append(l, s)
			want += Text(s) + "\n"
		}
		text := Show(l)
		if got, no, err := Read(text); text != want || err != 0 || no != 0 || !slices.EqualFunc(got, l, same) {
			t.Fatal(text, got)
		}
	}
	if Show(nil) != "" || Show([]api.Step{{Kind: 9}, {Kind: 1}}) != "\ntick 0\n" {
		t.Error("Show")
	}
}

func TestTell(t *testing.T) { // P4503
	got := func(x api.Item) api.Event { return api.Event{Kind: 1, Item: x} }
	for _, c := range []struct {
		e    api.Event
		want string
	}{
		{got(api.Item{Proto: 1, Odd: true, Ubx: api.Ubx{Kind: 4}}), "odd 1"}, {got(api.Item{Proto: 3, Odd: true}), "odd 3"}, {got(api.Item{Proto: 1, Ubx: api.Ubx{Kind: 4}}), "got ubx 4"}, {got(api.Item{Proto: 2, Nmea: api.Nmea{Kind: 5, Talker: "GN"}}), "got nmea GN 5"},
		{got(api.Item{Proto: 3, Tlm: api.Packet{Seq: 1, Sys: 2, Comp: 3, Msg: api.Msg{Id: 42, V: []int64{5, -6}}}}), "got tlm 1 2 3 42 5 -6"}, {got(api.Item{Proto: 3}), "got tlm 0 0 0 0"}, {got(api.Item{}), ""}, {got(api.Item{Proto: 4}), ""}, {got(api.Item{Proto: -1}), ""},
		{api.Event{Kind: 2, B: []byte{1, 171}}, "sent 01AB"}, {api.Event{Kind: 2}, "sent -"}, {api.Event{Kind: 3, B: []byte{255}}, "logged FF"}, {api.Event{Kind: 3}, "logged -"}, {api.Event{Kind: 4, N: 9}, "refused 9"}, {api.Event{Kind: 4, N: -9}, "refused -9"}, {api.Event{Kind: 0, B: []byte{1}}, ""}, {api.Event{Kind: 5}, ""},
	} {
		if Tell(c.e) != c.want {
			t.Errorf("%q %q", Tell(c.e), c.want)
		}
	}
}

func run(t *testing.T, text string) []string {
	t.Helper()
	out, _, err := Run(1, 1, text)
	if err != 0 {
		t.Fatal(text, err)
	}
	if out == "" {
		return nil
	}
	if !strings.HasSuffix(out, "\n") {
		t.Error("the last line")
	}
	return strings.Split(strings.TrimSuffix(out, "\n"), "\n")
}

// packet is that of a line that says what was sent.
func packet(t *testing.T, line string) api.Packet {
	t.Helper()
	s, err := Line("bytes" + strings.TrimPrefix(line, "sent"))
	if err != 0 {
		t.Fatal(line)
	}
	p, n, err := tlm.Take(s.B)
	if err != 0 || n != len(s.B) {
		t.Fatal(line, err)
	}
	return p
}

func TestExamples(t *testing.T) { // the document's ten examples of the whole
	l := run(t, "tick 100")
	if len(l) != 1 || !strings.HasPrefix(l[0], "sent FE") || packet(t, l[0]).Msg.Id != 200 || packet(t, l[0]).Msg.V[1] != 537395712 {
		t.Error(1, l)
	}
	l = run(t, "tick 1000\n")
	if len(l) != 11 || packet(t, l[9]).Msg.Id != 0 || packet(t, l[10]).Msg.Id != 200 {
		t.Error(2, l)
	}
	if l := run(t, "bytes B5620501020006010F38\n"); !slices.Equal(l, []string{"got ubx 4"}) {
		t.Error(3, l)
	}
	if l := run(t, "bytes B5\nbytes 62\nbytes 05\nbytes 01\nbytes 02\nbytes 00\nbytes 06\nbytes 01\nbytes 0F\nbytes 38\n"); !slices.Equal(l, []string{"got ubx 4"}) {
		t.Error(4, l)
	}
	if l := run(t, "bytes B56201030000040D\n"); !slices.Equal(l, []string{"odd 1"}) {
		t.Error(5, l)
	}
	if l := run(t, "bytes B5620501020006010F39\n"); len(l) != 0 {
		t.Error(6, l)
	}
	if l := run(t, "log 0\n"); !slices.Equal(l, []string{"refused 9"}) {
		t.Error(7, l)
	}
	text := "log 1\n"
	for i := range int64(7) {
		b, _ := tlm.Put(api.Packet{Seq: int(i), Msg: api.Msg{Id: 26, V: []int64{100 * i, 0, 0, 1000, 0, 0, 0, 0, 0, 0}}})
		text += Text(api.Step{B: b}) + "\n"
	}
	l = run(t, text+"log -1\n")
	logged := 0
	for i, line := range l {
		if strings.HasPrefix(line, "logged 4C") {
			many := []string{"04", "02"}[logged]
			if line[9:11] != many {
				t.Error(8, line)
			}
			logged++
			for _, s := range l[i+1 : i+5] {
				if packet(t, s).Msg.Id != 202 {
					t.Error(8, s)
				}
			}
		}
	}
	if logged != 2 || len(l) != 17 {
		t.Error(8, l)
	}
	if l := run(t, "ask 1 536870913=3\n"); len(l) != 1 || !strings.HasPrefix(l[0], "sent B562068A") {
		t.Error(9, l)
	}
	if l := run(t, "send 42 65536\n"); !slices.Equal(l, []string{"refused 5"}) {
		t.Error(10, l)
	}
}

func TestRun(t *testing.T) { // P4504
	for _, c := range []struct {
		sys, comp int
		text      string
		no        int
		want      api.Errno
	}{{0, 1, "x", 0, api.ErrArg}, {1, 256, "tick 5", 0, api.ErrArg}, {1, 1, "tick 5\nx", 2, api.ErrForm}, {1, 1, "", 0, 0}, {1, 1, "\ntick 1\n\ntick 1", 2, 0}} {
		if out, no, err := Run(c.sys, c.comp, c.text); out != "" || no != c.no || err != c.want {
			t.Error(c, out, no, err)
		}
	}
	text := "send 42 5\ntick 250\nask 1\nlog 3\nbytes B56201030000040D00\nlog 0\nlog 0\nsend 5\n"
	steps, _, _ := Read(text)
	n := node.New(7, 8)
	want := ""
	for _, s := range steps {
		for _, e := range n.Do(s) {
			want += Tell(e) + "\n"
		}
	}
	if out, no, err := Run(7, 8, text); out != want || no != 8 || err != 0 {
		t.Error(out, no, err)
	}
}

func TestCut(t *testing.T) { // P4506
	r := rand.New(rand.NewSource(2))
	ms := []string{"B5620501020006010F38", "B56201030000040D", "24475056", "FE", "B562", "00"}
	b, _ := tlm.Put(api.Packet{Msg: api.Msg{Id: 4, V: []int64{1, 2, 0, 0}}})
	ms = append(ms, hex(b), hex([]byte("$GPVTG,,,,,,,,*52\r\n")))
	for range 300 {
		var one, two string
		for range r.Intn(6) {
			word := ""
			for range 1 + r.Intn(5) {
				word += ms[r.Intn(len(ms))]
			}
			at := 2 * r.Intn(len(word)/2)
			one += "bytes " + word + "\ntick 30\n"
			if at == 0 {
				two += "bytes -\nbytes " + word + "\ntick 30\n"
			} else {
				two += "bytes " + word[:at] + "\nbytes " + word[at:] + "\ntick 30\n"
			}
		}
		a, _, _ := Run(1, 1, one)
		if b, _, _ := Run(1, 1, two); a != b {
			t.Fatal(one, two, a, b)
		}
	}
}
