package fletch

import (
	"bytes"
	"math/rand"
	"testing"
)

func some(r *rand.Rand, n int) []byte {
	b := make([]byte, n)
	r.Read(b)
	return b
}

func TestOf(t *testing.T) { // P602, P603
	r := rand.New(rand.NewSource(1))
	for range 1000 {
		s := some(r, r.Intn(600))
		a, b := 0, 0
		for i, x := range s {
			a += int(x)
			b += (len(s) - i) * int(x)
		}
		if x, y := Of(s); int(x) != a%256 || int(y) != b%256 {
			t.Fatal(s, x, y)
		}
		i := r.Intn(len(s) + 1)
		x, y := Of(s[:i])
		x, y = More(x, y, s[i:])
		if int(x) != a%256 || int(y) != b%256 {
			t.Fatal(s, i)
		}
	}
	if a, b := Of([]byte{1, 2}); a != 3 || b != 4 {
		t.Error("example")
	}
	if a, b := More(250, 7, []byte{10, 0}); a != 4 || b != 15 {
		t.Error(a, b)
	}
	if a, b := More(5, 6, nil); a != 5 || b != 6 {
		t.Error(a, b)
	}
}

func TestSeal(t *testing.T) { // P602, P601
	r := rand.New(rand.NewSource(2))
	for n := range 50 {
		s := some(r, n)
		was := bytes.Clone(s)
		x := Seal(s)
		a, b := Of(s)
		if !bytes.Equal(x, append(bytes.Clone(s), a, b)) {
			t.Fatal(s, x)
		}
		o, ok := Open(x)
		if !ok || !bytes.Equal(o, s) {
			t.Fatal(s, o)
		}
		if n > 0 {
			o[0]++
			if x[0] != s[0] {
				t.Fatal("shared")
			}
			x[0]++
			if !bytes.Equal(s, was) {
				t.Fatal("shared")
			}
		}
	}
	for _, s := range [][]byte{nil, {0}, {1, 0}, {0, 1}, {1, 1, 2}} {
		if o, ok := Open(s); ok || len(o) != 0 {
			t.Error(s, o)
		}
	}
	if o, ok := Open([]byte{0, 0}); !ok || len(o) != 0 {
		t.Error("of nothing")
	}
}

func TestOne(t *testing.T) { // P604
	r := rand.New(rand.NewSource(3))
	for range 3000 {
		x := Seal(some(r, 1+r.Intn(300)))
		i := r.Intn(len(x))
		y := bytes.Clone(x)
		y[i] += byte(1 + r.Intn(255))
		if _, ok := Open(y); ok {
			t.Fatal(x, y)
		}
		i = r.Intn(len(x) - 1)
		y = bytes.Clone(x)
		y[i], y[i+1] = y[i+1], y[i]
		if _, ok := Open(y); ok && x[i] != x[i+1] {
			t.Fatal(x, y)
		}
	}
}
