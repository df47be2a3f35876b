package vary

import (
	"bytes"
	"encoding/binary"
	"math/rand"
	"slices"
	"testing"

	"landfall/api"
)

func some() []uint64 {
	l := []uint64{0, 1<<64 - 1}
	for k := range 64 {
		l = append(l, 1<<k, 1<<k-1, 1<<k+1)
	}
	r := rand.New(rand.NewSource(1))
	for range 1000 {
		l = append(l, r.Uint64()>>r.Intn(64))
	}
	return l
}

func TestZig(t *testing.T) { // P302
	for i, n := range []int64{0, -1, 1, -2, 2, -3} {
		if Zig(n) != uint64(i) || Zag(uint64(i)) != n {
			t.Error(n, Zig(n))
		}
	}
	if Zig(-1<<63) != 1<<64-1 || Zig(1<<63-1) != 1<<64-2 {
		t.Error("edges")
	}
	for _, u := range some() {
		if Zig(Zag(u)) != u || Zag(Zig(int64(u))) != int64(u) {
			t.Fatal(u)
		}
	}
}

func TestPut(t *testing.T) { // P302, P305
	for _, u := range some() {
		want := binary.AppendUvarint(nil, u)
		if !bytes.Equal(Put(u), want) || Size(u) != len(want) {
			t.Fatal(u, Put(u), Size(u))
		}
		for _, tail := range [][]byte{nil, {0}, {255, 255}} {
			if got, n, err := Take(append(Put(u), tail...)); got != u || n != len(want) || err != api.OK {
				t.Fatal(u, got, n, err)
			}
		}
		for i := range want {
			if got, n, err := Take(want[:i]); got != 0 || n != 0 || err != api.ErrShort {
				t.Fatal(u, i, got, n, err)
			}
		}
	}
	if !bytes.Equal(Put(300), []byte{172, 2}) {
		t.Error("example")
	}
}

func TestTakeWrong(t *testing.T) { // P303
	nine := bytes.Repeat([]byte{128}, 9)
	for _, c := range []struct {
		b    []byte
		want api.Errno
	}{
		{nil, api.ErrShort}, {[]byte{}, api.ErrShort}, {nine, api.ErrShort},
		{[]byte{128, 0}, api.ErrForm}, {[]byte{128, 128, 0, 1}, api.ErrForm},
		{append(slices.Clone(nine), 2), api.ErrForm}, {append(slices.Clone(nine), 129), api.ErrForm},
		{append(slices.Clone(nine), 128), api.ErrForm}, {append(slices.Clone(nine), 0), api.ErrForm},
		{append(slices.Clone(nine), 1), api.OK}, {[]byte{0}, api.OK},
	} {
		u, n, err := Take(c.b)
		if err != c.want || err != api.OK && (u != 0 || n != 0) {
			t.Error(c.b, u, n, err)
		}
	}
}

func TestTakePut(t *testing.T) { // P305
	r := rand.New(rand.NewSource(3))
	for range 20000 {
		b := make([]byte, r.Intn(12))
		for i := range b {
			b[i] = []byte{0, 1, 2, 127, 128, 129, 255, byte(r.Int())}[r.Intn(8)]
		}
		if u, n, err := Take(b); err == api.OK && !bytes.Equal(Put(u), b[:n]) {
			t.Fatal(b, u, n)
		}
	}
}

func TestInts(t *testing.T) { // P304
	r := rand.New(rand.NewSource(4))
	for range 500 {
		l := make([]int64, r.Intn(20))
		want := []byte{}
		for i := range l {
			l[i] = int64(r.Uint64()) >> r.Intn(64)
			want = append(want, Put(Zig(l[i]))...)
		}
		b := Ints(l...)
		if !bytes.Equal(b, want) {
			t.Fatal(l, b)
		}
		got, n, err := Parse(append(b, 7, 7), len(l))
		if !slices.Equal(got, l) || n != len(want) || err != api.OK {
			t.Fatal(l, got, n, err)
		}
		if got, n, err := Parse(want, len(l)+1); len(got) != 0 || n != 0 || err != api.ErrShort {
			t.Fatal(got, n, err)
		}
	}
	for _, c := range []struct {
		b    []byte
		n    int
		want api.Errno
	}{{nil, -1, api.ErrArg}, {[]byte{128, 0}, -1 << 63, api.ErrArg}, {nil, 0, api.OK}, {[]byte{1, 128, 0}, 2, api.ErrForm}, {[]byte{1}, 1<<63 - 1, api.ErrShort}} {
		if l, n, err := Parse(c.b, c.n); err != c.want || len(l) != 0 || n != 0 {
			t.Error(c, l, n, err)
		}
	}
}

func TestNewMemory(t *testing.T) { // P301
	a, b := Put(5), Put(5)
	a[0] = 9
	if b[0] != 5 || Put(5)[0] != 5 {
		t.Error("shared")
	}
}
