package valset

import (
	"bytes"
	"math/rand"
	"slices"
	"testing"

	"landfall/api"
)

func same(a, b api.Valset) bool { return a.Layers == b.Layers && slices.Equal(a.L, b.L) }

func TestSize(t *testing.T) { // P2002
	for sort := range int64(8) {
		for _, low := range []int64{0, 1, 1<<28 - 1} {
			key := sort<<28 | low
			size, most := 0, int64(0)
			if sort >= 1 && sort <= 5 {
				size = []int{0, 1, 1, 2, 4, 8}[sort]
				most = []int64{0, 1, 255, 65535, 4294967295, 9223372036854775807}[sort]
			}
			if n, ok := Size(key); n != size || ok != (size > 0) || Most(key) != most {
				t.Error(key, n, ok, Most(key))
			}
		}
	}
	for _, key := range []int64{-1, 1<<31 | 1<<28, -1 << 63, 1<<63 - 1, 1<<32 | 1<<28, 1<<28 - 1<<40} {
		if n, ok := Size(key); n != 0 || ok || Most(key) != 0 {
			t.Error(key)
		}
	}
}

func TestPut(t *testing.T) { // P2003
	b, err := Put(api.Valset{Layers: 1, L: []api.Pair{{Key: 268435457, Value: 1}}})
	if err != 0 || !bytes.Equal(b, []byte{0, 1, 0, 0, 1, 0, 0, 16, 1}) {
		t.Error("example", b)
	}
	many := make([]api.Pair, 33)
	for _, c := range []struct {
		m    api.Valset
		want api.Errno
	}{
		{api.Valset{Layers: 8, L: many}, api.ErrLong}, {api.Valset{Layers: 8, L: many[:32]}, api.ErrRange}, {api.Valset{Layers: -1}, api.ErrRange}, {api.Valset{L: many[:1]}, api.ErrKind},
		{api.Valset{L: []api.Pair{{Key: 1 << 28, Value: 2}, {}}}, api.ErrRange}, {api.Valset{L: []api.Pair{{Key: 5 << 28, Value: -1}}}, api.ErrRange},
		{api.Valset{L: []api.Pair{{Key: 2 << 28, Value: 256}}}, api.ErrRange}, {api.Valset{L: []api.Pair{{Key: 3 << 28, Value: 65536}}}, api.ErrRange}, {api.Valset{L: []api.Pair{{Key: 4 << 28, Value: 1 << 32}}}, api.ErrRange},
		{api.Valset{L: []api.Pair{{Key: 6 << 28, Value: -1}}}, api.ErrKind}, {api.Valset{L: []api.Pair{{Key: 1<<31 | 1<<28}}}, api.ErrKind}, {api.Valset{L: []api.Pair{{Key: -1}}}, api.ErrKind},
	} {
		if b, err := Put(c.m); err != c.want || len(b) != 0 {
			t.Error(c, err)
		}
	}
}

func TestTake(t *testing.T) { // P2004
	at := func(l ...byte) []byte { return append([]byte{0, 7, 0, 0}, l...) }
	one := []byte{1, 0, 0, 16, 1}
	for i, c := range []struct {
		b    []byte
		want api.Errno
	}{
		{nil, api.ErrShort}, {[]byte{1, 8, 1}, api.ErrShort}, {[]byte{1, 0, 0, 0}, api.ErrRange}, {[]byte{0, 8, 0, 0, 9}, api.ErrRange}, {[]byte{0, 0, 1, 0}, api.ErrRange}, {[]byte{0, 0, 0, 1}, api.ErrRange},
		{at(1), api.ErrShort}, {at(1, 2, 3), api.ErrShort}, {at(1, 0, 0, 0), api.ErrKind}, {at(1, 0, 0, 0x90, 1), api.ErrKind}, {at(1, 0, 0, 0x60), api.ErrKind},
		{at(1, 0, 0, 0x10), api.ErrShort}, {at(1, 0, 0, 0x50, 0, 0, 0, 0, 0, 0, 0), api.ErrShort}, {at(1, 0, 0, 0x10, 2), api.ErrRange}, {at(1, 0, 0, 0x50, 0, 0, 0, 0, 0, 0, 0, 128), api.ErrRange},
		{at(append(slices.Clone(one), 5)...), api.ErrShort}, {at(append(bytes.Repeat(one, 32), 5)...), api.ErrLong}, {at(bytes.Repeat(one, 33)...), api.ErrLong},
		{at(append(bytes.Repeat(one, 31), 1, 0, 0, 16, 2, 9)...), api.ErrRange},
	} {
		if m, err := Take(c.b); err != c.want || !same(m, api.Valset{}) {
			t.Error(i, m, err)
		}
	}
	if m, err := Take(at(bytes.Repeat(one, 32)...)); err != 0 || len(m.L) != 32 {
		t.Error(err)
	}
	if m, err := Take(at()); err != 0 || !same(m, api.Valset{Layers: 7}) {
		t.Error(err)
	}
	if m, err := Take(at(5, 0, 0, 0x50, 255, 255, 255, 255, 255, 255, 255, 127, 6, 0, 0, 0x40, 255, 255, 255, 255)); err != 0 || !same(m, api.Valset{Layers: 7, L: []api.Pair{{Key: 5<<28 + 5, Value: 1<<63 - 1}, {Key: 4<<28 + 6, Value: 1<<32 - 1}}}) {
		t.Error(m, err)
	}
}

func TestGet(t *testing.T) { // P2002
	m := api.Valset{L: []api.Pair{{Key: 1, Value: 2}, {Key: 3, Value: 4}, {Key: 1, Value: -5}}}
	for key, want := range map[int64]int64{1: -5, 3: 4} {
		if v, ok := Get(m, key); v != want || !ok {
			t.Error(key, v)
		}
	}
	if v, ok := Get(api.Valset{L: []api.Pair{{Key: 9, Value: 8}}}, 9); v != 8 || !ok {
		t.Error("the first one", v)
	}
	if v, ok := Get(m, 2); v != 0 || ok {
		t.Error(v)
	}
	if v, ok := Get(api.Valset{}, 0); v != 0 || ok {
		t.Error(v)
	}
}

func TestBack(t *testing.T) { // P2005
	r := rand.New(rand.NewSource(1))
	for range 3000 {
		m := api.Valset{Layers: r.Int63n(8)}
		for range r.Intn(33) {
			key := (1+r.Int63n(5))<<28 | r.Int63n(1<<28)
			m.L = append(m.L, api.Pair{Key: key, Value: r.Int63() & Most(key)})
		}
		b, err := Put(m)
		if err != 0 {
			t.Fatal(err)
		}
		if got, err := Take(b); err != 0 || !same(got, m) {
			t.Fatal(m, got, err)
		}
		b[r.Intn(len(b))] = byte(r.Int())
		if got, err := Take(b[:4+r.Intn(len(b)-3)]); err == 0 {
			if again, err := Put(got); err != 0 || !bytes.Equal(again, b[:len(again)]) {
				t.Fatal(b, again)
			}
		}
	}
}
