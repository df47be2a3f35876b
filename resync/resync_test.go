package resync

import (
	"bytes"
	"math/rand"
	"testing"

	"landfall/api"
	"landfall/frame"
	"landfall/nmea"
	"landfall/parity"
	"landfall/probe"
	"landfall/tlm"
	"landfall/ubx"
)

// messages are some whole ones, good and odd, of all protocols.
func messages() [][]byte {
	a, _ := ubx.Encode(api.Ubx{Kind: 4, Ack: api.Ack{Yes: true, Class: 6, Id: 1}})
	b, _ := nmea.Encode(api.Nmea{Kind: 3, Talker: "GP", Gsa: api.Gsa{Fix: 1, Ids: []int64{3}}})
	c, _ := tlm.Put(api.Packet{Seq: 9, Msg: api.Msg{Id: 42, V: []int64{5}}})
	d, _ := frame.Put(api.Frame{Class: 1, Id: 3})
	e := []byte("$" + parity.Seal("GPGLL") + "\r\n")
	f, _ := frame.Put(api.Frame{Class: 9, Id: 9, Payload: make([]byte, 1016)})
	g, _ := ubx.Encode(api.Ubx{Kind: 2, Sats: api.Sats{L: make([]api.Sat, 64)}})
	// A frame in whose payload a packet stands.
	h, _ := frame.Put(api.Frame{Class: 9, Id: 9, Payload: c})
	return [][]byte{a, []byte(b), c, d, e, f, g, h}
}

// stream is some messages, whole, cut or spoilt, among any bytes.
func stream(r *rand.Rand, n int) []byte {
	var out []byte
	ms := messages()
	for range n {
		m := bytes.Clone(ms[r.Intn(len(ms))])
		switch r.Intn(5) {
		case 0:
			m = m[:r.Intn(len(m))]
		case 1:
			m[r.Intn(len(m))] ^= byte(1 + r.Intn(255))
		case 2:
			m = make([]byte, r.Intn(20))
			for i := range m {
				m[i] = []byte{181, 98, 36, 254, 0, 'G', 13, 10, byte(r.Int())}[r.Intn(9)]
			}
		}
		out = append(out, m...)
	}
	return out
}

// read is what the document says of bytes that came in one part.
func read(b []byte) ([]api.Item, api.Counts, []byte) {
	c := api.Counts{In: len(b)}
	var l []api.Item
	for len(b) > 0 {
		v := probe.At(b)
		switch {
		case v.Do == probe.Wait:
			return l, c, b
		case v.Do == probe.Drop:
			c.Bad[v.Proto]++
			b = b[1:]
		case v.Item.Odd:
			c.Odd[v.Proto]++
		default:
			c.Good[v.Proto]++
		}
		if v.Do == probe.Take {
			l = append(l, v.Item)
			b = b[v.Size:]
		}
	}
	return l, c, nil
}

func alike(a, b []api.Item) bool {
	if len(a) != len(b) {
		return false
	}
	for i := range a {
		if !probe.Same(a[i], b[i]) {
			return false
		}
	}
	return true
}

func TestFeed(t *testing.T) { // P4002, P4003
	d := New()
	if l := d.Feed([]byte{0}); len(l) != 0 {
		t.Error(l)
	}
	if l := d.Feed([]byte{181, 98}); len(l) != 0 || d.Counts() != (api.Counts{In: 3, Bad: [4]int{1}}) || !bytes.Equal(d.Rest(), []byte{181, 98}) {
		t.Error("example", d.Counts(), d.Rest())
	}
	for i, m := range messages() {
		d := New()
		l := d.Feed(append(bytes.Clone(m), 7))
		want, counts, _ := read(append(bytes.Clone(m), 7))
		if len(l) != 1 || !alike(l, want) || d.Counts() != counts || len(d.Rest()) != 0 {
			t.Error(i, l, d.Counts())
		}
	}
	// A frame whose sum is wrong: its first byte is dropped, and what stands in it is found.
	h := messages()[7]
	h[len(h)-1]++
	d = New()
	if l := d.Feed(h); len(l) != 1 || l[0].Proto != 3 || d.Counts() != (api.Counts{In: len(h), Good: [4]int{0, 0, 0, 1}, Bad: [4]int{7, 1}}) {
		t.Error(l, d.Counts())
	}
}

func TestCut(t *testing.T) { // P4004, P4005
	r := rand.New(rand.NewSource(1))
	for range 300 {
		b := stream(r, r.Intn(30))
		was := bytes.Clone(b)
		want, counts, rest := read(b)
		most := []int{1, 2, 50, 3000}[r.Intn(4)]
		d := New()
		var got []api.Item
		used := 0
		for at := 0; at < len(b); {
			n := min(r.Intn(most+1), len(b)-at)
			l := d.Feed(b[at : at+n])
			at += n
			for _, x := range l {
				if x.Proto < 1 || x.Proto > 3 {
					t.Fatal("no message")
				}
			}
			got = append(got, l...)
			if len(d.Rest()) >= 1024 || d.Counts().In != at {
				t.Fatal(len(d.Rest()))
			}
		}
		if !alike(got, want) || d.Counts() != counts || !bytes.Equal(d.Rest(), rest) || !bytes.Equal(b, was) {
			t.Fatal(len(got), len(want), d.Counts(), counts)
		}
		for at := 0; at < len(b)-len(rest); {
			v := probe.At(b[at:])
			if v.Do == probe.Take {
				used += v.Size
				at += v.Size
			} else {
				at++
			}
		}
		bad := counts.Bad
		if used+bad[0]+bad[1]+bad[2]+bad[3]+len(rest) != len(b) {
			t.Fatal("sum")
		}
	}
}

func TestNoDecoder(t *testing.T) { // P4001
	for _, d := range []*Decoder{nil, {}} {
		if len(d.Feed([]byte{0})) != 0 || len(d.Rest()) != 0 || d.Counts() != (api.Counts{}) {
			t.Error("no decoder")
		}
	}
	d := New()
	b := []byte{181, 98}
	d.Feed(b)
	b[0] = 0
	d.Rest()[1] = 0
	if !bytes.Equal(d.Rest(), []byte{181, 98}) {
		t.Error("shared")
	}
	if len(d.Feed(nil)) != 0 || d.Counts().In != 2 {
		t.Error("nothing")
	}
}
