package frame

import (
	"bytes"
	"math/rand"
	"testing"

	"landfall/api"
)

func same(a, b api.Frame) bool {
	return a.Class == b.Class && a.Id == b.Id && bytes.Equal(a.Payload, b.Payload)
}

func TestPut(t *testing.T) { // P1502
	b, err := Put(api.Frame{Class: 6, Id: 1, Payload: []byte{240, 1}})
	if err != api.OK || !bytes.Equal(b, []byte{181, 98, 6, 1, 2, 0, 240, 1, 250, 18}) {
		t.Error("example", b)
	}
	long := make([]byte, 1017)
	for _, c := range []struct {
		f    api.Frame
		want api.Errno
	}{
		{api.Frame{Class: -1}, api.ErrArg}, {api.Frame{Class: 256}, api.ErrArg}, {api.Frame{Id: -1}, api.ErrArg}, {api.Frame{Id: 256}, api.ErrArg},
		{api.Frame{Id: 256, Payload: long}, api.ErrArg}, {api.Frame{Payload: long}, api.ErrLong},
	} {
		if b, err := Put(c.f); err != c.want || len(b) != 0 {
			t.Error(c.want, err)
		}
	}
	for _, n := range []int{0, 1, 255, 256, 1016} {
		b, err := Put(api.Frame{Class: 255, Id: 255, Payload: long[:n]})
		if err != 0 || len(b) != n+8 || Size(n) != n+8 || int(b[4])+256*int(b[5]) != n {
			t.Error(n, err)
		}
	}
	for _, n := range []int{-1, 1017, -1 << 63, 1<<63 - 1} {
		if Size(n) != 0 {
			t.Error(n)
		}
	}
}

func TestTake(t *testing.T) { // P1503
	good, _ := Put(api.Frame{Class: 1, Id: 2, Payload: []byte{3, 4, 5}})
	for i := range good {
		if f, n, err := Take(good[:i]); err != api.ErrShort || n != 0 || !same(f, api.Frame{}) {
			t.Error(i, err)
		}
		for d := 1; d < 256; d++ {
			b := bytes.Clone(good)
			b[i] += byte(d)
			f, n, err := Take(b)
			want := api.ErrSum
			if i < 2 {
				want = api.ErrForm
			}
			if i == 4 && b[4] > 3 {
				want = api.ErrShort
			}
			if i == 5 && d >= 4 {
				want = api.ErrLong
			} else if i == 5 {
				want = api.ErrShort
			}
			if err != want || n != 0 || !same(f, api.Frame{}) {
				t.Fatal(i, d, err, want)
			}
		}
	}
	for _, c := range []struct {
		b    []byte
		want api.Errno
	}{
		{nil, api.ErrShort}, {[]byte{181}, api.ErrShort}, {[]byte{180}, api.ErrForm}, {[]byte{181, 99}, api.ErrForm}, {[]byte{98}, api.ErrForm}, {[]byte{98, 98}, api.ErrForm},
		{[]byte{181, 98, 0, 0, 249}, api.ErrShort}, {[]byte{181, 98, 0, 0, 249, 3}, api.ErrLong}, {[]byte{181, 98, 0, 0, 248, 3}, api.ErrShort}, {[]byte{181, 98, 0, 0, 0, 255}, api.ErrLong},
	} {
		if _, n, err := Take(c.b); err != c.want || n != 0 {
			t.Error(c.b, err)
		}
	}
}

func TestBack(t *testing.T) { // P1504, P1505, P1501
	r := rand.New(rand.NewSource(1))
	for range 3000 {
		p := make([]byte, r.Intn(60))
		if r.Intn(20) == 0 {
			p = make([]byte, 1016)
		}
		r.Read(p)
		f := api.Frame{Class: r.Intn(256), Id: r.Intn(256), Payload: p}
		b, err := Put(f)
		if err != 0 {
			t.Fatal(err)
		}
		tail := make([]byte, r.Intn(10))
		r.Read(tail)
		got, n, err := Take(append(bytes.Clone(b), tail...))
		if !same(got, f) || n != len(b) || err != 0 {
			t.Fatal(f, got, n, err)
		}
		again, _ := Put(got)
		if !bytes.Equal(again, b) {
			t.Fatal(b, again)
		}
		if len(p) > 0 {
			got.Payload[0]++
			if again[6] != p[0] || b[6] != p[0] {
				t.Fatal("shared")
			}
		}
		for range 3 {
			b[r.Intn(min(len(b), 8))] = byte(r.Int())
		}
		cut := b[:r.Intn(len(b)+1)]
		f1, n1, e1 := Take(cut)
		if f2, n2, e2 := Take(b); e1 != api.ErrShort && (!same(f1, f2) || n1 != n2 || e1 != e2) {
			t.Fatal(cut, b, e1, e2)
		}
	}
}
