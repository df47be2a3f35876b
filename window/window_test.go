package window

import (
	"bytes"
	"math/rand"
	"testing"
)

func TestWindow(t *testing.T) { // P3902, P3903
	w := New()
	if w.Put(make([]byte, 2000)) != 1024 || w.Put([]byte{1}) != 0 || w.Len() != 1024 || w.Room() != 0 {
		t.Error("example")
	}
	r := rand.New(rand.NewSource(1))
	w = New()
	var model []byte
	next := byte(0)
	for range 20000 {
		if r.Intn(2) == 0 {
			b := make([]byte, r.Intn(700))
			for i := range b {
				b[i] = next + byte(i)
			}
			n := w.Put(b)
			if n != min(len(b), 1024-len(model)) {
				t.Fatal(n)
			}
			model = append(model, b[:n]...)
			next += byte(n)
		} else {
			n := r.Intn(800) - 50
			want := max(0, min(n, len(model)))
			if got := w.Drop(n); got != want {
				t.Fatal(n, got)
			}
			model = model[want:]
		}
		first, ok := w.First()
		if ok != (len(model) > 0) || ok && first != model[0] || !ok && first != 0 || w.Len() != len(model) || w.Room() != 1024-len(model) {
			t.Fatal(first, ok, len(model))
		}
		if !bytes.Equal(w.Peek(), model) {
			t.Fatal("Peek")
		}
	}
	w = New()
	w.Put([]byte{1, 2, 3})
	if w.Drop(-1) != 0 || w.Drop(-1<<63) != 0 || w.Drop(0) != 0 || w.Len() != 3 || w.Drop(1<<63-1) != 3 || w.Drop(1) != 0 || w.Put(nil) != 0 || len(w.Peek()) != 0 {
		t.Error("edges")
	}
}

func TestShared(t *testing.T) { // P3901
	w := New()
	b := []byte{1, 2, 3}
	w.Put(b)
	b[0] = 9
	p := w.Peek()
	p[1] = 9
	if !bytes.Equal(w.Peek(), []byte{1, 2, 3}) {
		t.Error("shared")
	}
	for _, w := range []*Window{nil, {}} {
		c, ok := w.First()
		if w.Put(b) != 0 || w.Len() != 0 || w.Room() != 0 || c != 0 || ok || len(w.Peek()) != 0 || w.Drop(1) != 0 {
			t.Error("no window")
		}
	}
}
