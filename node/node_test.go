package node

import (
	"bytes"
	"math/rand"
	"slices"
	"testing"

	"landfall/api"
	"landfall/block"
	"landfall/decim"
	"landfall/fix"
	"landfall/frame"
	"landfall/fuse"
	"landfall/gaps"
	"landfall/leftmost"
	"landfall/nmea"
	"landfall/probe"
	"landfall/rescue"
	"landfall/schema"
	"landfall/tlm"
	"landfall/ubx"
)

func num(n int64) api.Num { return api.Num{Is: true, N: n} }

func tick(n int) api.Step { return api.Step{Kind: api.StepTick, N: n} }

func logs(n int) api.Step { return api.Step{Kind: api.StepLog, N: n} }

func feed(l ...[]byte) api.Step { return api.Step{Kind: api.StepBytes, B: slices.Concat(l...)} }

func send(id int, v ...int64) api.Step {
	return api.Step{Kind: api.StepSend, Msg: api.Msg{Id: id, V: v}}
}

func packet(t *testing.T, id int, v ...int64) []byte {
	t.Helper()
	b, err := tlm.Put(api.Packet{Seq: 7, Sys: 9, Comp: 8, Msg: api.Msg{Id: id, V: v}})
	if err != 0 {
		t.Fatal(id, v, err)
	}
	return b
}

func encoded(t *testing.T, m api.Ubx) []byte {
	t.Helper()
	b, err := ubx.Encode(m)
	if err != 0 {
		t.Fatal(err)
	}
	return b
}

func line(t *testing.T, m api.Nmea) []byte {
	t.Helper()
	s, err := nmea.Encode(m)
	if err != 0 {
		t.Fatal(err)
	}
	return []byte(s)
}

// sent is the packets that events sent.
func sent(t *testing.T, l []api.Event) []api.Packet {
	t.Helper()
	var out []api.Packet
	for _, e := range l {
		if e.Kind != api.EvSent {
			continue
		}
		p, n, err := tlm.Take(e.B)
		if err != 0 || n != len(e.B) {
			t.Fatal(e.B, err)
		}
		out = append(out, p)
	}
	return out
}

// says checks that a packet is of a message.
func says(t *testing.T, p api.Packet, id int, v ...int64) {
	t.Helper()
	if p.Msg.Id != id || !slices.Equal(p.Msg.V, v) {
		t.Error(p, id, v)
	}
}

func kinds(l []api.Event) []int {
	var out []int
	for _, e := range l {
		out = append(out, e.Kind)
	}
	return out
}

// refused checks that just this was refused.
func refused(t *testing.T, l []api.Event, err api.Errno) {
	t.Helper()
	if len(l) != 1 || l[0].Kind != api.EvRefused || l[0].N != int(err) || len(l[0].B) != 0 || !probe.Same(l[0].Item, api.Item{}) {
		t.Error(l, err)
	}
}

func sameEvents(a, b []api.Event) bool {
	return slices.EqualFunc(a, b, func(a, b api.Event) bool {
		return a.Kind == b.Kind && a.N == b.N && bytes.Equal(a.B, b.B) && probe.Same(a.Item, b.Item)
	})
}

func TestNew(t *testing.T) { // P4402
	for _, c := range [][2]int{{0, 0}, {256, 0}, {-1, 0}, {1, -1}, {1, 256}, {1 << 62, 1}} {
		if New(c[0], c[1]) != nil {
			t.Error(c)
		}
	}
	for _, c := range [][2]int{{1, 0}, {255, 255}} {
		n := New(c[0], c[1])
		r, b := n.Logged()
		if n == nil || n.Now() != 0 || n.Filter() != fuse.Start() || n.Where() != (Place{}) || n.Views() != 0 || n.Skips() != 0 || n.Counts() != (api.Counts{}) || len(n.Rest()) != 0 || len(n.Heard()) != 0 || len(n.Waiting()) != 0 || r != 0 || b != 0 {
			t.Error(c)
		}
		if !slices.Equal(n.Timers(), [][2]int{{1, 100}, {0, 1000}}) {
			t.Error(n.Timers())
		}
	}
	for _, n := range []*Node{nil, {}} {
		r, b := n.Logged()
		if len(n.Do(tick(100))) != 0 || n.Now() != 0 || n.Filter() != (fuse.State{}) || n.Where() != (Place{}) || n.Views() != 0 || n.Skips() != 0 || n.Counts() != (api.Counts{}) || len(n.Rest()) != 0 || len(n.Heard()) != 0 || len(n.Waiting()) != 0 || len(n.Timers()) != 0 || r != 0 || b != 0 {
			t.Error("no node")
		}
	}
}

func TestTick(t *testing.T) { // P4403, streams 0 and 1
	n := New(1, 2)
	p := sent(t, n.Do(tick(100)))
	if len(p) != 1 || p[0].Seq != 0 || p[0].Sys != 1 || p[0].Comp != 2 || n.Now() != 100 {
		t.Error(p)
	}
	says(t, p[0], 200, 100, 537395712, 0, 0, 0)
	if len(n.Do(tick(99))) != 0 || len(n.Do(tick(0))) != 0 || n.Now() != 199 {
		t.Error("nothing is due")
	}
	n = New(1, 1)
	p = sent(t, n.Do(tick(1000)))
	if len(p) != 11 {
		t.Fatal(len(p))
	}
	for i, x := range p {
		if x.Seq != i {
			t.Error(i, x.Seq)
		}
		switch {
		case i < 9:
			says(t, x, 200, int64(100*i+100), 537395712, 0, 0, 0)
		case i == 9:
			says(t, x, 0, 6, 8, 0, 0, 4, 3)
		default:
			says(t, x, 200, 1000, 537395712, 0, 0, 0)
		}
	}
	refused(t, n.Do(tick(-1)), api.ErrRange)
	refused(t, n.Do(tick(10001)), api.ErrRange)
	refused(t, n.Do(tick(-1<<63)), api.ErrRange)
	if n.Now() != 1000 || len(n.Do(tick(10000))) != 110 {
		t.Error(n.Now())
	}
	n.now = latest - 5
	n.timers.Unset(0)
	n.timers.Unset(1)
	refused(t, n.Do(tick(6)), api.ErrFull)
	if l := n.Do(tick(5)); len(l) != 0 || n.Now() != latest {
		t.Error(l)
	}
	if n.Now() != 1<<40 {
		t.Error(n.Now())
	}
	n.timers.Set(1, 1<<32+5, 0)
	says(t, sent(t, n.Do(tick(0)))[0], 200, 5, 537395712, 0, 0, 0)
	refused(t, n.Do(api.Step{Kind: 5}), api.ErrKind)
	refused(t, n.Do(api.Step{Kind: -1}), api.ErrKind)
}

func TestSend(t *testing.T) { // P4403, P4407
	n := New(3, 4)
	for i := range 300 {
		p := sent(t, n.Do(send(42, int64(i))))
		if len(p) != 1 || p[0].Seq != i%256 || p[0].Sys != 3 || p[0].Comp != 4 {
			t.Fatal(p)
		}
		says(t, p[0], 42, int64(i))
		refused(t, n.Do(send(42, 65536)), api.ErrRange)
		refused(t, n.Do(send(42)), api.ErrArg)
		refused(t, n.Do(send(3)), api.ErrKind)
		refused(t, n.Do(send(-1)), api.ErrKind)
	}
}

func TestAsk(t *testing.T) { // P4403, P4404
	n := New(1, 1)
	set := api.Valset{Layers: 1, L: []api.Pair{{Key: 536870913, Value: 3}}}
	ask := api.Step{Kind: api.StepAsk, Set: set}
	l := n.Do(ask)
	if want := encoded(t, api.Ubx{Kind: api.UbxSet, Set: set}); len(l) != 1 || l[0].Kind != api.EvSent || !bytes.Equal(l[0].B, want) {
		t.Error(l)
	}
	if !slices.Equal(n.Waiting(), []api.Ack{{Class: 6, Id: 138}}) {
		t.Error(n.Waiting())
	}
	refused(t, n.Do(api.Step{Kind: api.StepAsk, Set: api.Valset{Layers: 8}}), api.ErrRange)
	refused(t, n.Do(api.Step{Kind: api.StepAsk, Set: api.Valset{L: make([]api.Pair, 1)}}), api.ErrKind)
	for range 15 {
		n.Do(ask)
	}
	refused(t, n.Do(ask), api.ErrFull)
	refused(t, n.Do(api.Step{Kind: api.StepAsk, Set: api.Valset{Layers: 8}}), api.ErrRange)
	if len(n.Waiting()) != 16 {
		t.Error(n.Waiting())
	}
	n.Do(feed(encoded(t, api.Ubx{Kind: api.UbxAck, Ack: api.Ack{Class: 6, Id: 1}})))
	if len(n.Waiting()) != 16 {
		t.Error("another one")
	}
	n.Do(feed(encoded(t, api.Ubx{Kind: api.UbxAck, Ack: api.Ack{Class: 6, Id: 138}})))
	if len(n.Waiting()) != 15 {
		t.Error("heard")
	}
	if p := sent(t, n.Do(send(42, 1))); p[0].Seq != 0 {
		t.Error("frames are no packets", p)
	}
}

func TestGot(t *testing.T) { // P4404
	n := New(1, 1)
	odd, _ := frame.Put(api.Frame{Class: 1, Id: 3})
	one := encoded(t, api.Ubx{Kind: api.UbxDop})
	all := slices.Concat([]byte{0}, one, odd, line(t, api.Nmea{Kind: 4, Talker: "GP"}), packet(t, 42, 5), []byte{181})
	items, counts, _ := leftmost.Parse(all)
	l := n.Do(feed(all))
	if len(l) != 4 || n.Counts() != counts || !bytes.Equal(n.Rest(), []byte{181}) {
		t.Error(l, n.Counts())
	}
	for i, e := range l {
		if e.Kind != api.EvGot || !probe.Same(e.Item, items[i]) || len(e.B) != 0 || e.N != 0 {
			t.Error(i, e)
		}
	}
	if !slices.Equal(n.Heard(), []gaps.Line{{Sys: 9, Comp: 8, Seq: 7, Heard: 1}}) {
		t.Error(n.Heard())
	}
	p := sent(t, n.Do(tick(1000)))
	says(t, p[9], 0, 6, 8, 0, 3, 4, 3)
}

func TestPlace(t *testing.T) { // P4404, streams 3
	n := New(1, 1)
	pvt := func(fix int64) []byte {
		return encoded(t, api.Ubx{Kind: api.UbxPvt, Pvt: api.Pvt{Fix: fix, Lat: -5, Lon: 1800000000, Height: -77}})
	}
	n.Do(feed(pvt(0), pvt(1)))
	if n.Where() != (Place{}) {
		t.Error(n.Where())
	}
	gga := func(q int64, lat, lon, alt api.Num) []byte {
		return line(t, api.Nmea{Kind: 1, Talker: "GP", Gga: api.Gga{Quality: q, Lat: lat, Lon: lon, Alt: alt}})
	}
	n.Do(feed(gga(0, num(1), num(2), num(3)), gga(1, api.Num{}, num(2), num(3)), gga(1, num(2), api.Num{}, num(3))))
	if n.Where() != (Place{}) {
		t.Error(n.Where())
	}
	n.Do(feed(gga(1, num(288423000), num(-1080000000), api.Num{})))
	if n.Where() != (Place{true, 480705000, -1800000000, 0}) {
		t.Error(n.Where())
	}
	n.Do(feed(pvt(2)))
	if n.Where() != (Place{true, -5, 1800000000, -77}) {
		t.Error(n.Where())
	}
	n.Do(feed(gga(1, num(7), num(-7), api.Num{})))
	if n.Where() != (Place{true, int32(decim.Degrees(7)), int32(decim.Degrees(-7)), -77}) {
		t.Error(n.Where())
	}
	n.Do(feed(gga(8, num(0), num(0), num(-9999999)), pvt(1)))
	if n.Where() != (Place{true, 0, 0, -999999900}) {
		t.Error(n.Where())
	}
	n.Do(feed(packet(t, 66, 1, 1, 3, 50, 1)))
	if l := sent(t, n.Do(tick(20))); len(l) != 1 {
		t.Error(l)
	} else {
		says(t, l[0], 33, 20, 0, 0, -999999900, 0, 0, 0, 0, 65535)
	}
	n = New(1, 1)
	n.Do(feed(packet(t, 66, 1, 1, 3, 50, 1)))
	if l := n.Do(tick(99)); len(l) != 0 {
		t.Error("the place is not known", l)
	}
}

func TestViews(t *testing.T) { // P4404
	n := New(1, 1)
	gsv := func(total, no int64, views int) []byte {
		return line(t, api.Nmea{Kind: 5, Talker: "GP", Gsv: api.Gsv{Total: total, No: no, L: make([]api.View, views)}})
	}
	n.Do(feed(gsv(2, 1, 4)))
	if n.Views() != 0 {
		t.Error(n.Views())
	}
	n.Do(feed(gsv(2, 2, 3)))
	if n.Views() != 7 {
		t.Error(n.Views())
	}
	n.Do(feed(gsv(3, 2, 3)))
	if n.Views() != 7 {
		t.Error(n.Views())
	}
	n.Do(feed(gsv(1, 1, 0)))
	if n.Views() != 0 {
		t.Error(n.Views())
	}
}

func TestPing(t *testing.T) { // P4404
	n := New(1, 1)
	for _, c := range []struct {
		v    []int64
		sent bool
	}{{[]int64{1<<63 - 1, 6, 0, 0}, true}, {[]int64{5, 6, 1, 0}, false}, {[]int64{5, 6, 0, 1}, false}} {
		l := n.Do(feed(packet(t, 4, c.v...)))
		if !c.sent && !slices.Equal(kinds(l), []int{api.EvGot}) || c.sent && !slices.Equal(kinds(l), []int{api.EvGot, api.EvSent}) {
			t.Error(l)
		}
		for _, p := range sent(t, l) {
			says(t, p, 4, c.v[0], c.v[1], 9, 8)
		}
	}
}

func TestRequest(t *testing.T) { // P4404
	n := New(5, 6)
	n.Do(tick(50))
	for i, c := range []struct {
		v      []int64
		answer int
		timers [][2]int
	}{
		{[]int64{5, 6, 2, 50, 1}, 0, [][2]int{{2, 70}, {1, 100}, {0, 1000}}},
		{[]int64{5, 7, 2, 50, 0}, -1, [][2]int{{2, 70}, {1, 100}, {0, 1000}}},
		{[]int64{4, 6, 2, 50, 0}, -1, [][2]int{{2, 70}, {1, 100}, {0, 1000}}},
		{[]int64{0, 0, 2, 999, 0}, 0, [][2]int{{1, 100}, {0, 1000}}},
		{[]int64{0, 6, 2, 0, 0}, 0, [][2]int{{1, 100}, {0, 1000}}},
		{[]int64{5, 0, 4, 5, 0}, 3, [][2]int{{1, 100}, {0, 1000}}},
		{[]int64{5, 6, 4, 5, 1}, 3, [][2]int{{1, 100}, {0, 1000}}},
		{[]int64{5, 6, 255, 5, 1}, 3, [][2]int{{1, 100}, {0, 1000}}},
		{[]int64{5, 6, 3, 0, 1}, 3, [][2]int{{1, 100}, {0, 1000}}},
		{[]int64{5, 6, 3, 51, 1}, 3, [][2]int{{1, 100}, {0, 1000}}},
		{[]int64{5, 6, 3, 5, 2}, 3, [][2]int{{1, 100}, {0, 1000}}},
		{[]int64{5, 6, 0, 3, 1}, 0, [][2]int{{1, 100}, {0, 383}}},
		{[]int64{5, 6, 1, 1, 1}, 0, [][2]int{{0, 383}, {1, 1050}}},
		{[]int64{5, 6, 1, 1, 0}, 0, [][2]int{{0, 383}}},
	} {
		l := n.Do(feed(packet(t, 66, c.v...)))
		p := sent(t, l)
		if c.answer < 0 && len(l) != 1 || c.answer >= 0 && (len(l) != 2 || len(p) != 1) {
			t.Error(i, l)
		}
		for _, p := range p {
			says(t, p, 77, 66, int64(c.answer))
		}
		if !slices.Equal(n.Timers(), c.timers) {
			t.Error(i, n.Timers())
		}
	}
	if p := sent(t, n.Do(tick(1000))); len(p) != 3 {
		t.Error("every 333", len(p))
	}
}

func imu(t *testing.T, v ...int64) []byte { return packet(t, 26, append(v, 1, 2, 3)...) }

func TestSamples(t *testing.T) { // P4405, streams 1 and 2
	n := New(1, 1)
	want := fuse.Start()
	v := func(x, y, z int64) api.Vec {
		return api.Vec{X: int32(fix.Over(x*65536, 1000)), Y: int32(fix.Over(y*65536, 1000)), Z: int32(fix.Over(z*65536, 1000))}
	}
	skips := 0
	last := uint32(0)
	for i, c := range []struct {
		time uint32
		skip bool
	}{{1<<32 - 600, true}, {1<<32 - 600, false}, {1<<32 - 100, false}, {900, false}, {1901, true}, {1900, true}, {2899, false}, {3899, false}, {3899 + 1<<31, true}} {
		a, r := [3]int64{int64(i), 100, 990 - int64(i)}, [3]int64{-7, int64(20 * i), 32767}
		l := n.Do(feed(imu(t, int64(c.time), a[0], a[1], a[2], r[0], r[1], r[2])))
		if !slices.Equal(kinds(l), []int{api.EvGot}) {
			t.Error(l)
		}
		if c.skip {
			skips++
		} else {
			want = fuse.Step(want, v(r[0], r[1], r[2]), v(a[0], a[1], a[2]), int32(fix.Over(int64(c.time-last)*65536, 1000)))
		}
		last = c.time
		if n.Skips() != skips || n.Filter() != want {
			t.Error(i, n.Skips(), n.Filter(), want)
		}
		p := sent(t, n.Do(tick(100)))
		says(t, p[0], 200, int64(100*i+100), int64(fuse.Word(want)), r[0], r[1], r[2])
	}
	n.Do(feed(packet(t, 66, 1, 1, 2, 50, 1)))
	p := sent(t, n.Do(tick(20)))
	says(t, p[0], 201, 920, int64(want.Bias.X), int64(want.Bias.Y), int64(want.Bias.Z), int64(want.Steps), int64(want.Cuts))
	n.filter.Steps, n.filter.Cuts = 1<<33, 1<<33
	p = sent(t, n.Do(tick(20)))
	says(t, p[0], 201, 940, int64(want.Bias.X), int64(want.Bias.Y), int64(want.Bias.Z), 1<<32-1, 65535)
}

func TestLog(t *testing.T) { // P4403, P4405, P4409
	n := New(1, 1)
	refused(t, n.Do(logs(0)), api.ErrNone)
	refused(t, n.Do(logs(-1)), api.ErrNone)
	refused(t, n.Do(logs(-2)), api.ErrRange)
	refused(t, n.Do(logs(256)), api.ErrRange)
	if len(n.Do(logs(255))) != 0 || len(n.Do(logs(0))) != 0 {
		t.Error("of every 255")
	}
	if len(n.Do(logs(1))) != 0 || len(n.Do(logs(-1))) != 0 {
		t.Error("an empty block")
	}
	n.Do(feed(encoded(t, api.Ubx{Kind: api.UbxPvt, Pvt: api.Pvt{Fix: 3, Lat: 11, Lon: 12, Height: 13}})))
	var recs []api.Rec
	var events []api.Event
	for i := range int64(7) {
		l := n.Do(feed(imu(t, 100*i, 5, 6, 1000, 50*i, 0, 0)))
		events = append(events, l...)
		if f := n.Filter(); i > 0 {
			recs = append(recs, api.Rec{Time: uint32(100 * i), V: [12]int32{f.Q.W, f.Q.X, f.Q.Y, f.Q.Z, f.Bias.X, f.Bias.Y, f.Bias.Z, 11, 12, 13, int32(i), int32(f.Cuts)}})
		}
	}
	if r, b := n.Logged(); r != 6 || b != 1 {
		t.Error(r, b)
	}
	events = append(events, n.Do(logs(-1))...)
	if r, b := n.Logged(); r != 6 || b != 2 {
		t.Error(r, b)
	}
	var bytesOf, parts []byte
	for i, e := range events {
		if e.Kind != api.EvLogged {
			continue
		}
		bytesOf = append(bytesOf, e.B...)
		for part, p := range sent(t, events[i+1:i+5]) {
			if p.Msg.Id != 202 || p.Msg.V[0] != int64(len(bytesOf)/256-1) || p.Msg.V[1] != int64(part) || len(p.Msg.V) != 66 {
				t.Error(p)
			}
			for _, c := range p.Msg.V[2:] {
				parts = append(parts, byte(c))
			}
		}
	}
	got, bad := rescue.Read(bytesOf)
	if !slices.Equal(got, recs) || len(bad) != 0 || !bytes.Equal(parts, bytesOf) || len(bytesOf) != 512 {
		t.Error(got, recs, bad)
	}
	if b, err := block.Take(bytesOf[:256]); err != 0 || len(b.L) != 4 {
		t.Error(b, err)
	}
	// Counts that have no room are bound.
	far := New(1, 1)
	far.Do(logs(1))
	far.filter.Steps, far.filter.Cuts = 1<<31-2, 1<<40
	for i := range int64(3) {
		far.Do(feed(imu(t, i, 0, 0, 1000, 0, 0, 0)))
	}
	if l, _ := rescue.Read(far.Do(logs(-1))[0].B); len(l) != 2 || l[0].V[10] != 1<<31-1 || l[1].V[10] != 1<<31-1 || l[1].V[11] != 1<<31-1 {
		t.Error(l)
	}
	// A new log counts anew; the old one's block is logged as its own.
	n.Do(feed(imu(t, 700, 5, 6, 1000, 0, 0, 0)))
	l := n.Do(logs(9))
	if !slices.Equal(kinds(l), []int{3, 2, 2, 2, 2}) || sent(t, l)[0].Msg.V[0] != 2 {
		t.Error(kinds(l))
	}
	if r, b := n.Logged(); r != 0 || b != 0 {
		t.Error(r, b)
	}
	n.Do(feed(imu(t, 800, 5, 6, 1000, 0, 0, 0)))
	l = n.Do(logs(0))
	if !slices.Equal(kinds(l), []int{3, 2, 2, 2, 2}) || sent(t, l)[3].Msg.V[0] != 0 {
		t.Error(kinds(l))
	}
	refused(t, n.Do(logs(0)), api.ErrNone)
	if l := n.Do(feed(imu(t, 900, 5, 6, 1000, 0, 0, 0))); len(l) != 1 {
		t.Error("no log", l)
	}
	if r, b := n.Logged(); r != 0 || b != 0 {
		t.Error(r, b)
	}
}

// steps are some, and what bytes come in them.
func steps(t *testing.T, r *rand.Rand, n int) []api.Step {
	var out []api.Step
	time := int64(0)
	for range n {
		switch r.Intn(9) {
		case 0:
			out = append(out, tick(r.Intn(300)))
		case 1:
			out = append(out, logs(r.Intn(5)-1))
		case 2:
			out = append(out, send(42, r.Int63n(70000)))
		case 3:
			out = append(out, api.Step{Kind: api.StepAsk, Set: api.Valset{Layers: r.Int63n(9)}})
		case 4:
			b := make([]byte, r.Intn(30))
			for i := range b {
				b[i] = []byte{181, 98, 36, 254, 0, byte(r.Int())}[r.Intn(6)]
			}
			out = append(out, feed(b))
		case 5:
			out = append(out, feed(packet(t, 66, 0, 0, r.Int63n(5), r.Int63n(55), r.Int63n(3))))
		case 6:
			out = append(out, feed(packet(t, 4, 1, 2, 0, r.Int63n(2)), encoded(t, api.Ubx{Kind: 4, Ack: api.Ack{Class: 6, Id: 138}})))
		default:
			time += r.Int63n(1100)
			out = append(out, feed(imu(t, time, r.Int63n(3000)-1500, r.Int63n(3000)-1500, r.Int63n(3000)-1500, r.Int63n(65536)-32768, 5, 5)))
		}
	}
	return out
}

func TestCut(t *testing.T) { // P4406, P4407, P4408, P1, P5
	r := rand.New(rand.NewSource(1))
	for range 100 {
		all := steps(t, r, 60)
		a, b := New(2, 3), New(2, 3)
		var ea, eb []api.Event
		var bytesOf []byte
		for _, s := range all {
			was := bytes.Clone(s.B)
			ea = append(ea, a.Do(s)...)
			if !bytes.Equal(was, s.B) {
				t.Fatal("changed")
			}
			bytesOf = append(bytesOf, s.B...)
			if s.Kind != api.StepBytes {
				eb = append(eb, b.Do(s)...)
				continue
			}
			for len(s.B) > 0 {
				n := 1 + r.Intn(len(s.B))
				eb = append(eb, b.Do(feed(s.B[:n]))...)
				s.B = s.B[n:]
			}
		}
		if !sameEvents(ea, eb) || a.Filter() != b.Filter() || a.Where() != b.Where() || a.Counts() != b.Counts() || !bytes.Equal(a.Rest(), b.Rest()) || !slices.Equal(a.Timers(), b.Timers()) || !slices.Equal(a.Heard(), b.Heard()) {
			t.Fatal("cut")
		}
		items, counts, left := leftmost.Parse(bytesOf)
		if a.Counts() != counts || len(a.Rest()) != left || left >= 1024 {
			t.Fatal(counts)
		}
		seq := 0
		for _, e := range ea {
			switch e.Kind {
			case api.EvGot:
				if !probe.Same(e.Item, items[0]) {
					t.Fatal("got")
				}
				items = items[1:]
			case api.EvSent:
				if e.B[0] == 181 {
					if _, n, err := ubx.Decode(e.B); err != 0 || n != len(e.B) {
						t.Fatal("sent")
					}
					continue
				}
				p, n, err := tlm.Take(e.B)
				if err != 0 || n != len(e.B) || p.Seq != seq%256 || p.Sys != 2 || p.Comp != 3 {
					t.Fatal("sent", p, err)
				}
				seq++
			}
		}
		if f := a.Filter(); len(items) != 0 || fuse.Word(f) == 0 || max(f.Bias.X, -f.Bias.X, f.Bias.Y, -f.Bias.Y, f.Bias.Z, -f.Bias.Z) > fuse.Limit {
			t.Fatal(f)
		}
	}
}

func TestForms(t *testing.T) { // what is sent has as many numbers as its message
	for id, n := range map[int]int{0: 6, 200: 5, 201: 6, 33: 9, 202: 66, 4: 4, 77: 2, 26: 10, 66: 5} {
		if schema.Count(id) != n {
			t.Error(id, schema.Count(id))
		}
	}
}

func TestShared(t *testing.T) { // P4401
	n := New(1, 1)
	b := []byte{181, 98}
	n.Do(feed(b))
	b[0] = 0
	n.Rest()[1] = 0
	n.Do(api.Step{Kind: api.StepAsk})
	n.Waiting()[0].Class = 0
	n.Timers()[0][0] = 9
	if !bytes.Equal(n.Rest(), []byte{181, 98}) || n.Waiting()[0].Class != 6 || n.Timers()[0][0] != 1 {
		t.Error("shared")
	}
}

func TestFound(t *testing.T) { // P3
	r := rand.New(rand.NewSource(2))
	all := [][]byte{encoded(t, api.Ubx{Kind: api.UbxDop}), line(t, api.Nmea{Kind: 4, Talker: "GP"}), packet(t, 42, 5), encoded(t, api.Ubx{Kind: 2, Sats: api.Sats{L: make([]api.Sat, 64)}})}
	for range 200 {
		n := New(1, 1)
		var came []byte
		var want []api.Item
		for range r.Intn(20) {
			// Bytes that begin no message.
			for range r.Intn(9) {
				if c := byte(r.Int()); probe.Proto(c) == 0 {
					came = append(came, c)
				}
			}
			m := all[r.Intn(len(all))]
			came = append(came, m...)
			want = append(want, probe.At(m).Item)
		}
		l := n.Do(feed(came, []byte{181, 98, 36, 254}[:r.Intn(5)]))
		if len(l) != len(want) {
			t.Fatal(len(l), len(want))
		}
		for i, e := range l {
			if !probe.Same(e.Item, want[i]) {
				t.Fatal(e, want[i])
			}
		}
	}
}
