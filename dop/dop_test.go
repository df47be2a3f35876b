package dop

import (
	"bytes"
	"math"
	"math/rand"
	"testing"

	"landfall/api"
)

func TestPut(t *testing.T) { // P1802, P1804
	b, err := Put(api.Dop{Tow: 1, G: 2, P: 3, T: 4, V: 5, H: 6, N: 7, E: 8 + 9*256})
	if err != 0 || !bytes.Equal(b, []byte{1, 0, 0, 0, 2, 0, 3, 0, 4, 0, 5, 0, 6, 0, 7, 0, 8, 9}) {
		t.Error(b, err)
	}
	r := rand.New(rand.NewSource(1))
	for range 1000 {
		d := api.Dop{Tow: r.Int63n(604800000), G: r.Int63n(65536), P: r.Int63n(65536), T: r.Int63n(65536), V: r.Int63n(65536), H: r.Int63n(65536), N: r.Int63n(65536), E: r.Int63n(65536)}
		b, err := Put(d)
		if got, err2 := Take(b); err != 0 || err2 != 0 || got != d || len(b) != 18 {
			t.Fatal(d, got)
		}
		r.Read(b)
		got, err := Take(b)
		if again, _ := Put(got); err == 0 && !bytes.Equal(again, b) {
			t.Fatal(b)
		} else if err != 0 && (err != api.ErrRange || got != api.Dop{}) {
			t.Fatal(err)
		}
	}
	for _, d := range []api.Dop{{Tow: -1}, {Tow: 604800000}, {G: 65536}, {P: -1}, {T: 65536}, {V: -1}, {H: 65536}, {N: -1}, {E: 1 << 62}} {
		if b, err := Put(d); err != api.ErrRange || len(b) != 0 {
			t.Error(d, err)
		}
	}
	for n, want := range map[int]api.Errno{0: api.ErrShort, 17: api.ErrShort, 19: api.ErrLong} {
		if d, err := Take(make([]byte, n)); err != want || d != (api.Dop{}) {
			t.Error(n, err)
		}
	}
}

func TestTogether(t *testing.T) { // P1803, P1805
	if Together(300, 400) != 500 || Together(0, 0) != 0 || Together(65535, 65535) != 92680 {
		t.Error("examples", Together(65535, 65535))
	}
	for _, c := range [][2]int64{{-1, 5}, {5, -1}, {65536, 5}, {5, 65536}, {-1 << 63, 1<<63 - 1}} {
		if Together(c[0], c[1]) != 0 {
			t.Error(c)
		}
	}
	r := rand.New(rand.NewSource(2))
	for range 5000 {
		a, b := r.Int63n(65536)>>r.Intn(16), r.Int63n(65536)>>r.Intn(16)
		x := Together(a, b)
		if x != int64(math.Round(math.Sqrt(float64(a*a+b*b)))) || x < max(a, b) || x > a+b {
			t.Fatal(a, b, x)
		}
	}
}

func TestSound(t *testing.T) { // P1803
	good := api.Dop{N: 300, E: 400, H: 500, V: 1200, P: 1300, T: 0, G: 1300}
	if !Sound(good) || !Sound(api.Dop{}) || !Sound(api.Dop{Tow: -5}) {
		t.Error("good")
	}
	for d := int64(-4); d <= 4; d++ {
		want := d >= -2 && d <= 2
		x := good
		x.G += d
		if Sound(x) != want {
			t.Error("G", d)
		}
		x = good
		x.N, x.E = 0, 500+d
		if Sound(x) != want {
			t.Error("H", d)
		}
		x = good
		x.V, x.H, x.N, x.E = 0, 1300+d, 0, 1300+d
		if Sound(x) != want {
			t.Error("P", d)
		}
	}
	for _, d := range []api.Dop{{P: -1 << 63}, {G: 1<<63 - 1}, {H: -1 << 63}, {N: -1, H: 3}} {
		if Sound(d) {
			t.Error(d)
		}
	}
	if !Sound(api.Dop{N: -1, H: 2, V: -3, P: -2, G: 0}) {
		t.Error("what is out of range is 0 together")
	}
}
