package crc

import (
	"bytes"
	"math/rand"
	"testing"
)

// slow is Step as the document tells it, bit by bit.
func slow(c uint16, b byte) uint16 {
	c ^= uint16(b)
	for range 8 {
		odd := c&1 == 1
		c >>= 1
		if odd {
			c ^= 33800
		}
	}
	return c
}

func some(r *rand.Rand, n int) []byte {
	b := make([]byte, n)
	r.Read(b)
	return b
}

func TestStep(t *testing.T) { // P502
	for c := range 65536 {
		for _, b := range []byte{0, 1, 16, 128, 255, byte(c), byte(c * 7)} {
			if Step(uint16(c), b) != slow(uint16(c), b) {
				t.Fatal(c, b)
			}
		}
	}
	for b := range 256 {
		if Step(Start, byte(b)) != slow(Start, byte(b)) {
			t.Fatal(b)
		}
	}
}

func TestOf(t *testing.T) { // P502, P505
	if Of([]byte("123456789")) != 28561 || Of() != Start || Of(nil, nil) != 65535 || More(7, nil) != 7 {
		t.Error("examples")
	}
	r := rand.New(rand.NewSource(1))
	for range 500 {
		b := some(r, r.Intn(50))
		c := uint16(Start)
		for _, x := range b {
			c = slow(c, x)
		}
		i := r.Intn(len(b) + 1)
		j := i + r.Intn(len(b)-i+1)
		if Of(b) != c || Of(b[:i], b[i:j], nil, b[j:]) != c || More(More(Start, b[:i]), b[i:]) != c {
			t.Fatal(b)
		}
	}
}

func TestSeal(t *testing.T) { // P503
	r := rand.New(rand.NewSource(2))
	for n := range 60 {
		b := some(r, n)
		was := bytes.Clone(b)
		s := Seal(b)
		c := Of(b)
		if !bytes.Equal(s, append(bytes.Clone(b), byte(c%256), byte(c/256))) {
			t.Fatal(b, s)
		}
		o, ok := Open(s)
		if !ok || !bytes.Equal(o, b) {
			t.Fatal(b, o, ok)
		}
		if n > 0 {
			o[0]++
			s[0]++
			if !bytes.Equal(b, was) {
				t.Fatal("shared")
			}
		}
		if o, ok := Open(Seal(b)[:n+1]); ok && n > 20 || len(o) > 0 && !ok {
			t.Fatal(b)
		}
	}
	for _, b := range [][]byte{nil, {1}, {0, 0}, {255, 254}} {
		if o, ok := Open(b); ok || len(o) != 0 {
			t.Error(b, o)
		}
	}
	if o, ok := Open([]byte{255, 255}); !ok || len(o) != 0 {
		t.Error("of nothing")
	}
	room := make([]byte, 3, 10)
	Seal(room)
	if o := room[:10]; o[3] != 0 || o[4] != 0 {
		t.Error("the room behind is changed")
	}
}

func TestBursts(t *testing.T) { // P504
	r := rand.New(rand.NewSource(3))
	for range 20000 {
		s := Seal(some(r, 1+r.Intn(40)))
		mask := uint32(1 + r.Intn(65535))
		at := r.Intn(8*len(s) - 15)
		for k := range 16 {
			if mask>>k&1 == 1 {
				s[(at+k)/8] ^= 1 << ((at + k) % 8)
			}
		}
		if o, ok := Open(s); ok || len(o) != 0 {
			t.Fatal(at, mask)
		}
	}
}
