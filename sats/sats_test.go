package sats

import (
	"bytes"
	"math/rand"
	"slices"
	"testing"

	"landfall/api"
	"landfall/shape"
)

func some(r *rand.Rand, n int) api.Sats {
	m := api.Sats{Tow: r.Int63n(604800000)}
	for range n {
		m.L = append(m.L, api.Sat{Gnss: r.Int63n(8), Id: r.Int63n(256), Level: r.Int63n(64), Elev: r.Int63n(181) - 90, Azim: r.Int63n(361), Off: r.Int63n(65536) - 32768, Flags: r.Int63n(1 << 32)})
	}
	return m
}

func same(a, b api.Sats) bool { return a.Tow == b.Tow && slices.Equal(a.L, b.L) }

func TestShapes(t *testing.T) { // words of chapter 17
	if !slices.Equal(Head(), []api.Field{{Size: 4, Hi: 604799999}, {Size: 1, Lo: 1, Hi: 1}, {Size: 1, Hi: 64}, {Size: 2}}) {
		t.Error(Head())
	}
	if !slices.Equal(Shape(), []api.Field{{Size: 1, Hi: 7}, {Size: 1, Hi: 255}, {Size: 1, Hi: 63}, {Size: 1, Signed: true, Lo: -90, Hi: 90}, {Size: 2, Signed: true, Hi: 360}, {Size: 2, Signed: true, Lo: -32768, Hi: 32767}, {Size: 4, Hi: 1<<32 - 1}}) {
		t.Error(Shape())
	}
	if shape.Width(Head()) != 8 || shape.Width(Shape()) != 12 {
		t.Error("widths")
	}
	Head()[0].Size, Shape()[0].Size = 9, 9
	if Head()[0].Size != 4 || Shape()[0].Size != 1 {
		t.Error("shared")
	}
}

func TestPut(t *testing.T) { // P1702
	if b, err := Put(api.Sats{}); err != 0 || !bytes.Equal(b, []byte{0, 0, 0, 0, 1, 0, 0, 0}) {
		t.Error("example", b)
	}
	b, err := Put(api.Sats{Tow: 258, L: []api.Sat{{Gnss: 1, Id: 2, Level: 3, Elev: -1, Azim: 260, Off: -2, Flags: 1 << 31}}})
	if err != 0 || !bytes.Equal(b, []byte{2, 1, 0, 0, 1, 1, 0, 0, 1, 2, 3, 255, 4, 1, 254, 255, 0, 0, 0, 128}) {
		t.Error(b)
	}
	if b, err := Put(api.Sats{Tow: -1, L: make([]api.Sat, 65)}); err != api.ErrLong || len(b) != 0 {
		t.Error(err)
	}
	if b, err := Put(api.Sats{L: make([]api.Sat, 64)}); err != 0 || len(b) != 8+64*12 {
		t.Error(err)
	}
	for _, m := range []api.Sats{{Tow: -1}, {Tow: 604800000}, {L: []api.Sat{{}, {Gnss: 8}}}, {L: []api.Sat{{Id: 256}}}, {L: []api.Sat{{Level: 64}}}, {L: []api.Sat{{Level: -1}}}, {L: []api.Sat{{Elev: 91}}}, {L: []api.Sat{{Elev: -91}}}, {L: []api.Sat{{Azim: -1}}}, {L: []api.Sat{{Azim: 361}}}, {L: []api.Sat{{Off: 32768}}}, {L: []api.Sat{{Flags: -1}}}, {L: []api.Sat{{Flags: 1 << 32}}}} {
		if b, err := Put(m); err != api.ErrRange || len(b) != 0 {
			t.Error(m, err)
		}
	}
}

func TestTake(t *testing.T) { // P1703
	head := func(l ...byte) []byte { return append([]byte{0, 0, 0, 0, 1, 0, 0, 0}, l...) }
	two := head(make([]byte, 24)...)
	two[5] = 2
	set := func(b []byte, at int, c byte) []byte {
		b = bytes.Clone(b)
		b[at] = c
		return b
	}
	for i, c := range []struct {
		b    []byte
		want api.Errno
	}{
		{nil, api.ErrShort}, {two[:7], api.ErrShort}, {set(two, 4, 2)[:7], api.ErrShort}, {set(two, 4, 2)[:8], api.ErrRange}, {set(two, 4, 0), api.ErrRange},
		{set(two, 5, 65), api.ErrRange}, {set(two, 6, 1), api.ErrRange}, {set(two, 7, 1), api.ErrRange}, {set(two, 3, 255), api.ErrRange},
		{two[:31], api.ErrShort}, {set(two[:31], 8, 8), api.ErrShort}, {append(bytes.Clone(two), 0), api.ErrLong}, {set(append(bytes.Clone(two), 0), 8, 8), api.ErrLong},
		{set(two, 8, 8), api.ErrRange}, {set(two, 20, 8), api.ErrRange}, {set(two, 23, 100), api.ErrRange}, {set(two, 25, 128), api.ErrRange}, {head(0), api.ErrLong},
	} {
		if m, err := Take(c.b); err != c.want || !same(m, api.Sats{}) {
			t.Error(i, err, c.want)
		}
	}
	if m, err := Take(two); err != 0 || len(m.L) != 2 {
		t.Error(err)
	}
}

func TestUsed(t *testing.T) { // P1704
	for _, c := range []struct {
		l     []api.Sat
		n     int
		level int64
	}{
		{nil, 0, 0}, {[]api.Sat{{Level: 9}, {Level: 9, Flags: 7}, {Level: 5, Flags: 0xfffffff7}}, 0, 0},
		{[]api.Sat{{Level: 9}, {Level: 4, Flags: 8}, {Level: 6, Flags: 15}, {Level: 5, Flags: 1<<32 - 1}}, 3, 6},
		{[]api.Sat{{Level: -7, Flags: 8}, {Level: -9, Flags: -1}}, 2, -7}, {[]api.Sat{{Level: 0, Flags: 8}, {Level: -9, Flags: 8}}, 2, 0},
	} {
		if n, level := Used(api.Sats{L: c.l}); n != c.n || level != c.level {
			t.Error(c, n, level)
		}
	}
}

func TestBack(t *testing.T) { // P1705, P1701
	r := rand.New(rand.NewSource(1))
	for range 1000 {
		m := some(r, r.Intn(65))
		b, err := Put(m)
		if err != 0 || len(b) != 8+12*len(m.L) {
			t.Fatal(err)
		}
		got, err := Take(b)
		if err != 0 || !same(got, m) {
			t.Fatal(m, got, err)
		}
		b[r.Intn(len(b))] = byte(r.Int())
		if got, err := Take(b); err == 0 {
			if again, err := Put(got); err != 0 || !bytes.Equal(again, b) {
				t.Fatal(b, again)
			}
		}
	}
}
