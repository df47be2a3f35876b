package ubx

import (
	"bytes"
	"math/rand"
	"slices"
	"testing"

	"landfall/api"
	"landfall/frame"
)

// full is a message all of whose parts are there.
func full(kind int) api.Ubx {
	return api.Ubx{
		Kind: kind,
		Pvt:  api.Pvt{Tow: 5, Year: 2026, Lat: -9, Fix: 3},
		Sats: api.Sats{Tow: 7, L: []api.Sat{{Id: 3}, {Id: 4, Elev: -5}}},
		Dop:  api.Dop{G: 9, E: 8},
		Ack:  api.Ack{Yes: true, Class: 6, Id: 1},
		Set:  api.Valset{Layers: 3, L: []api.Pair{{Key: 1 << 28, Value: 1}}},
	}
}

// plain is full with its part alone.
func plain(kind int) api.Ubx {
	m, f := api.Ubx{Kind: kind}, full(kind)
	switch kind {
	case 1:
		m.Pvt = f.Pvt
	case 2:
		m.Sats = f.Sats
	case 3:
		m.Dop = f.Dop
	case 4:
		m.Ack = f.Ack
	case 5:
		m.Set = f.Set
	}
	return m
}

func same(a, b api.Ubx) bool {
	return a.Kind == b.Kind && a.Pvt == b.Pvt && a.Sats.Tow == b.Sats.Tow && slices.Equal(a.Sats.L, b.Sats.L) && a.Dop == b.Dop && a.Ack == b.Ack && a.Set.Layers == b.Set.Layers && slices.Equal(a.Set.L, b.Set.L)
}

var heads = map[int][2]int{1: {1, 7}, 2: {1, 53}, 3: {1, 4}, 4: {5, 1}, 5: {6, 138}}

func TestPlain(t *testing.T) { // P2102, P2101
	for kind := -1; kind < 8; kind++ {
		f := full(kind)
		got := Plain(f)
		if !same(got, plain(kind)) {
			t.Error(kind, got)
		}
		if kind == 2 {
			got.Sats.L[0].Id = 99
		}
		if kind == 5 {
			got.Set.L[0].Key = 99
		}
		if !same(f, full(kind)) {
			t.Error("shared")
		}
	}
}

func TestPut(t *testing.T) { // P2102
	for kind := 1; kind <= 5; kind++ {
		f, err := Put(full(kind))
		if err != 0 || [2]int{f.Class, f.Id} != heads[kind] {
			t.Error(kind, f, err)
		}
		if m, err := Take(f); err != 0 || !same(m, plain(kind)) {
			t.Error(kind, m, err)
		}
	}
	no := api.Ubx{Kind: 4, Ack: api.Ack{Class: 3, Id: 4}}
	if f, err := Put(no); err != 0 || f.Class != 5 || f.Id != 0 || !bytes.Equal(f.Payload, []byte{3, 4}) {
		t.Error("no", f)
	}
	for _, c := range []struct {
		m    api.Ubx
		want api.Errno
	}{
		{full(0), api.ErrKind}, {full(6), api.ErrKind}, {full(-1), api.ErrKind},
		{api.Ubx{Kind: 1, Pvt: api.Pvt{Tow: -1}}, api.ErrRange}, {api.Ubx{Kind: 2, Sats: api.Sats{L: make([]api.Sat, 65)}}, api.ErrLong},
		{api.Ubx{Kind: 3, Dop: api.Dop{G: -1}}, api.ErrRange}, {api.Ubx{Kind: 4, Ack: api.Ack{Id: 256}}, api.ErrRange}, {api.Ubx{Kind: 5, Set: api.Valset{L: make([]api.Pair, 1)}}, api.ErrKind},
	} {
		if f, err := Put(c.m); err != c.want || f.Class != 0 || f.Id != 0 || len(f.Payload) != 0 {
			t.Error(c, err)
		}
		if b, err := Encode(c.m); err != c.want || len(b) != 0 {
			t.Error(c, err)
		}
	}
}

func TestTake(t *testing.T) { // P2102
	for class := range 8 {
		for id := range 256 {
			known := false
			for _, h := range heads {
				known = known || h == [2]int{class, id}
			}
			known = known || class == 5 && id == 0
			m, err := Take(api.Frame{Class: class, Id: id, Payload: []byte{1}})
			if known != (err == api.ErrShort) || !known && err != api.ErrKind || !same(m, api.Ubx{}) {
				t.Error(class, id, err)
			}
		}
	}
	for _, f := range []api.Frame{{Class: 257, Id: 7}, {Class: -1, Id: 7}, {Class: 1, Id: 263}} {
		if m, err := Take(f); err != api.ErrKind || !same(m, api.Ubx{}) {
			t.Error(f, err)
		}
	}
}

func TestEncode(t *testing.T) { // P2103, P2104
	b, err := Encode(api.Ubx{Kind: 4, Ack: api.Ack{Yes: true, Class: 6, Id: 1}})
	if err != 0 || !bytes.Equal(b, []byte{181, 98, 5, 1, 2, 0, 6, 1, 15, 56}) {
		t.Error("example", b)
	}
	r := rand.New(rand.NewSource(1))
	for kind := 1; kind <= 5; kind++ {
		b, err := Encode(full(kind))
		if err != 0 {
			t.Fatal(err)
		}
		f, _ := Put(full(kind))
		if want, _ := frame.Put(f); !bytes.Equal(b, want) {
			t.Fatal(b, want)
		}
		for i := range b {
			if m, n, err := Decode(b[:i]); err != api.ErrShort || n != 0 || !same(m, api.Ubx{}) {
				t.Fatal(kind, i, err)
			}
		}
		tail := make([]byte, 20)
		r.Read(tail)
		m, n, err := Decode(append(bytes.Clone(b), tail...))
		if err != 0 || n != len(b) || !same(m, plain(kind)) {
			t.Fatal(kind, m, n, err)
		}
		if again, err := Encode(m); err != 0 || !bytes.Equal(again, b) {
			t.Fatal(kind, again)
		}
	}
}

func TestDecodeWrong(t *testing.T) { // P2103
	seal := func(class, id int, payload ...byte) []byte {
		b, _ := frame.Put(api.Frame{Class: class, Id: id, Payload: payload})
		return b
	}
	for i, c := range []struct {
		b    []byte
		n    int
		want api.Errno
	}{
		{seal(1, 3), 8, api.ErrKind}, {seal(5, 2, 6, 1), 10, api.ErrKind}, {seal(5, 1, 6), 9, api.ErrShort}, {seal(5, 0, 6, 1, 1), 11, api.ErrLong},
		{seal(1, 7, make([]byte, 91)...), 99, api.ErrShort}, {seal(6, 138, 0, 9, 0, 0), 12, api.ErrRange}, {seal(1, 53, 0, 0, 0, 0, 2, 0, 0, 0), 16, api.ErrRange},
		{[]byte{1}, 0, api.ErrForm}, {append(seal(5, 1, 6, 1)[:9], 0), 0, api.ErrSum}, {[]byte{181, 98, 1, 1, 0, 9}, 0, api.ErrLong}, {nil, 0, api.ErrShort},
	} {
		if m, n, err := Decode(append(c.b, 7)[:len(c.b)]); err != c.want || n != c.n || !same(m, api.Ubx{}) {
			t.Error(i, n, err)
		}
	}
}
