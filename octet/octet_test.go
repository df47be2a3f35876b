package octet

import (
	"bytes"
	"encoding/binary"
	"math/rand"
	"testing"
)

func TestRead(t *testing.T) { // P402
	r := rand.New(rand.NewSource(1))
	for range 5000 {
		b := make([]byte, 8)
		r.Read(b)
		n := 1 + r.Intn(8)
		full := make([]byte, 8)
		copy(full, b[:n])
		u := binary.LittleEndian.Uint64(full)
		if got := New(b).U(n); got != u {
			t.Fatal(b, n, got, u)
		}
		if b[n-1] > 127 {
			for i := n; i < 8; i++ {
				full[i] = 255
			}
		}
		if got := New(b).I(n); got != int64(binary.LittleEndian.Uint64(full)) {
			t.Fatal(b, n, got)
		}
	}
	if New([]byte{255}).I(1) != -1 {
		t.Error("example")
	}
}

func TestReadOn(t *testing.T) { // P402
	r := New([]byte{1, 2, 3, 4, 5, 6})
	if r.Left() != 6 || r.U(2) != 513 || r.Left() != 4 || !bytes.Equal(r.Raw(0), nil) || !bytes.Equal(r.Raw(3), []byte{3, 4, 5}) || r.I(1) != 6 || r.Left() != 0 || r.Fail() {
		t.Error("in order")
	}
	if len(r.Raw(0)) != 0 || r.Fail() || r.U(1) != 0 || !r.Fail() {
		t.Error("at the end")
	}
	for _, fail := range []func(*Reader){
		func(r *Reader) { r.U(0) }, func(r *Reader) { r.U(9) }, func(r *Reader) { r.U(-1) }, func(r *Reader) { r.U(1 << 62) },
		func(r *Reader) { r.I(0) }, func(r *Reader) { r.I(9) }, func(r *Reader) { r.I(-1 << 63) },
		func(r *Reader) { r.Raw(-1) }, func(r *Reader) { r.Raw(10) }, func(r *Reader) { r.Raw(1<<63 - 1) },
		func(r *Reader) { r.Raw(5); r.U(5) }, func(r *Reader) { r.Raw(5); r.I(5) },
	} {
		r := New([]byte{1, 2, 3, 4, 5, 6, 7, 8, 9})
		fail(r)
		if !r.Fail() || r.Left() != 0 || r.U(1) != 0 || r.I(1) != 0 || len(r.Raw(1)) != 0 || len(r.Raw(0)) != 0 || !r.Fail() {
			t.Error("it goes on behind a failure")
		}
	}
	for _, n := range []int{-1, 0, 9} {
		if New([]byte{255, 255}).I(n) != 0 || New([]byte{255, 255}).U(n) != 0 {
			t.Error(n)
		}
	}
}

func TestWrite(t *testing.T) { // P403
	w := Make()
	w.U(2, 513)
	if !bytes.Equal(w.Bytes(), []byte{1, 2}) || w.Fail() {
		t.Error("example")
	}
	w.Raw([]byte{9, 8})
	w.I(3, -2)
	w.Raw(nil)
	if !bytes.Equal(w.Bytes(), []byte{1, 2, 9, 8, 254, 255, 255}) {
		t.Error(w.Bytes())
	}
	for _, fail := range []func(*Writer){
		func(w *Writer) { w.U(0, 0) }, func(w *Writer) { w.U(9, 0) }, func(w *Writer) { w.U(-1, 0) }, func(w *Writer) { w.I(0, 0) }, func(w *Writer) { w.I(9, 0) }, func(w *Writer) { w.I(-1<<63, 0) },
		func(w *Writer) { w.U(1, 256) }, func(w *Writer) { w.U(7, 1<<56) }, func(w *Writer) { w.I(1, 128) }, func(w *Writer) { w.I(1, -129) }, func(w *Writer) { w.I(7, 1<<55) }, func(w *Writer) { w.I(7, -1<<55-1) },
	} {
		w := Make()
		w.U(1, 7)
		fail(w)
		w.U(1, 1)
		w.I(1, 1)
		w.Raw([]byte{1})
		if !w.Fail() || len(w.Bytes()) != 0 {
			t.Error("it goes on behind a failure")
		}
	}
}

func TestBack(t *testing.T) { // P404
	for n := 1; n <= 8; n++ {
		most := uint64(1)<<(8*n-1)<<1 - 1
		for _, u := range []uint64{0, 1, most, most - 1, most / 2, most/2 + 1} {
			w := Make()
			w.U(n, u)
			i := int64(u<<(64-8*n)) >> (64 - 8*n)
			w.I(n, i)
			r := New(w.Bytes())
			if w.Fail() || len(w.Bytes()) != 2*n || r.U(n) != u || r.I(n) != i || r.Left() != 0 || r.Fail() {
				t.Fatal(n, u, w.Bytes())
			}
		}
	}
}

func TestNoObject(t *testing.T) { // P401
	for _, r := range []*Reader{nil, {}} {
		if !r.Fail() || r.U(1) != 0 || r.I(1) != 0 || len(r.Raw(0)) != 0 || r.Left() != 0 {
			t.Error("reader")
		}
	}
	for _, w := range []*Writer{nil, {}} {
		w.U(1, 1)
		w.I(1, 1)
		w.Raw([]byte{1})
		if !w.Fail() || len(w.Bytes()) != 0 {
			t.Error("writer")
		}
	}
	if New(nil).Fail() || Make().Fail() || len(Make().Bytes()) != 0 {
		t.Error("new ones")
	}
}

func TestShared(t *testing.T) { // P401
	b := []byte{1, 2, 3, 4}
	r := New(b)
	b[1] = 9
	raw := r.Raw(2)
	if raw[1] != 2 {
		t.Error("what is handed in is kept")
	}
	_ = append(raw, 77)
	if r.U(1) != 3 {
		t.Error("the room behind is shared")
	}
	w := Make()
	w.Raw(b)
	x := w.Bytes()
	x[0] = 5
	if _ = append(x, 6); w.Bytes()[0] != 1 {
		t.Error("what is told is shared")
	}
}
