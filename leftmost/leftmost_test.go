package leftmost

import (
	"bytes"
	"math/rand"
	"slices"
	"testing"

	"landfall/api"
	"landfall/frame"
	"landfall/nmea"
	"landfall/parity"
	"landfall/probe"
	"landfall/resync"
	"landfall/tlm"
	"landfall/ubx"
)

// messages are some whole ones, good and odd, of all protocols.
func messages() [][]byte {
	a, _ := ubx.Encode(api.Ubx{Kind: 4, Ack: api.Ack{Yes: true, Class: 6, Id: 1}})
	b, _ := nmea.Encode(api.Nmea{Kind: 3, Talker: "GP", Gsa: api.Gsa{Fix: 1, Ids: []int64{3}}})
	c, _ := tlm.Put(api.Packet{Seq: 9, Msg: api.Msg{Id: 42, V: []int64{5}}})
	d, _ := frame.Put(api.Frame{Class: 1, Id: 3})
	e := []byte("$" + parity.Seal("GPGLL") + "\r\n")
	f, _ := frame.Put(api.Frame{Class: 9, Id: 9, Payload: make([]byte, 1016)})
	return [][]byte{a, []byte(b), c, d, e, f}
}

func stream(r *rand.Rand, n int) []byte {
	var out []byte
	ms := messages()
	for range n {
		m := bytes.Clone(ms[r.Intn(len(ms))])
		switch r.Intn(5) {
		case 0:
			m = m[:r.Intn(len(m))]
		case 1:
			m[r.Intn(len(m))] ^= byte(1 + r.Intn(255))
		case 2:
			m = make([]byte, r.Intn(20))
			for i := range m {
				m[i] = []byte{181, 98, 36, 254, 0, 'G', 13, 10, byte(r.Int())}[r.Intn(9)]
			}
		}
		out = append(out, m...)
	}
	return out
}

func alike(a, b []api.Item) bool {
	return slices.EqualFunc(a, b, probe.Same)
}

// plus is both counts together.
func plus(a, b api.Counts) api.Counts {
	a.In += b.In
	for i := range 4 {
		a.Good[i] += b.Good[i]
		a.Odd[i] += b.Odd[i]
		a.Bad[i] += b.Bad[i]
	}
	return a
}

func TestSpans(t *testing.T) { // P4102, P4103, P4106
	if l, end := Spans([]byte{0, 0}); len(l) != 0 || end != 2 {
		t.Error("example", l, end)
	}
	if l, end := Spans(nil); len(l) != 0 || end != 0 {
		t.Error(l, end)
	}
	r := rand.New(rand.NewSource(1))
	for range 500 {
		b := stream(r, r.Intn(20))
		var want []Span
		var items []api.Item
		counts := api.Counts{In: len(b)}
		at := 0
		for at < len(b) {
			v := probe.At(b[at:])
			if v.Do == probe.Wait {
				break
			}
			if v.Do == probe.Drop {
				counts.Bad[v.Proto]++
				at++
				continue
			}
			want = append(want, Span{at, v.Size, v.Proto, v.Item.Odd})
			items = append(items, v.Item)
			if v.Item.Odd {
				counts.Odd[v.Proto]++
			} else {
				counts.Good[v.Proto]++
			}
			at += v.Size
		}
		l, end := Spans(b)
		if !slices.Equal(l, want) || end != at {
			t.Fatal(l, want, end, at)
		}
		got, c, left := Parse(b)
		if !alike(got, items) || c != counts || left != len(b)-at {
			t.Fatal(c, counts, left)
		}
		last := 0
		for i, s := range l {
			alone, c, left := Parse(b[s.At : s.At+s.Size])
			if s.At < last || len(alone) != 1 || !probe.Same(alone[0], items[i]) || c.In != s.Size || left != 0 {
				t.Fatal(s)
			}
			last = s.At + s.Size
		}
		for proto := -1; proto < 5; proto++ {
			want := -1
			if i := slices.IndexFunc(l, func(s Span) bool { return s.Proto == proto }); i >= 0 {
				want = l[i].At
			}
			if Find(b, proto) != want {
				t.Fatal(proto)
			}
		}
	}
}

func TestJoined(t *testing.T) { // P4105, P4107
	r := rand.New(rand.NewSource(2))
	ms := messages()
	clean := 0
	for range 3000 {
		a, b := stream(r, r.Intn(4)), stream(r, r.Intn(4))
		l1, c1, left := Parse(a)
		if left > 0 {
			continue
		}
		clean++
		l2, c2, left2 := Parse(b)
		l, c, left := Parse(slices.Concat(a, b))
		if !alike(l, slices.Concat(l1, l2)) || c != plus(c1, c2) || left != left2 {
			t.Fatal(a, b)
		}
		m := ms[r.Intn(len(ms))]
		spans, _ := Spans(slices.Concat(a, m, b))
		if !slices.ContainsFunc(spans, func(s Span) bool { return s.At == len(a) && s.Size == len(m) }) {
			t.Fatal("not found", a, m)
		}
	}
	if clean < 100 {
		t.Error(clean)
	}
}

func TestLong(t *testing.T) { // P4101: it ends in good time
	b := bytes.Repeat([]byte{254, 36, 181}, 300000)
	if l, c, left := Parse(b); len(l) != 0 || c.Bad[3] == 0 || left > 1023 {
		t.Error(c, left)
	}
}

func TestDecoder(t *testing.T) { // P4104
	r := rand.New(rand.NewSource(3))
	for range 200 {
		b := stream(r, r.Intn(20))
		d := resync.New()
		var got []api.Item
		for at := 0; at < len(b); {
			n := min(1+r.Intn(100), len(b)-at)
			got = append(got, d.Feed(b[at:at+n])...)
			at += n
		}
		l, c, left := Parse(b)
		if !alike(l, got) || c != d.Counts() || left != len(d.Rest()) {
			t.Fatal(c, d.Counts())
		}
	}
}
