package small

import (
	"math"
	"math/rand"
	"testing"

	"landfall/api"
	"landfall/fix"
	"landfall/quat"
	"landfall/root"
	"landfall/unit"
)

func units(n int) []api.Quat {
	r := rand.New(rand.NewSource(1))
	l := []api.Quat{quat.One(), {W: -1 << 30}, {Z: 1 << 30}, {W: Root, X: -Root}, {X: Root, Z: Root}, {W: 1 << 29, X: 1 << 29, Y: 1 << 29, Z: 1 << 29}, {W: -1 << 29, X: 1 << 29, Y: -1 << 29, Z: 1 << 29}, {W: 1 << 30, X: 1 << 20}}
	for len(l) < n {
		w, x, y, z := r.NormFloat64(), r.NormFloat64(), r.NormFloat64(), r.NormFloat64()
		s := math.Sqrt(w*w+x*x+y*y+z*z) / (1 << 30)
		l = append(l, api.Quat{W: int32(math.Round(w / s)), X: int32(math.Round(x / s)), Y: int32(math.Round(y / s)), Z: int32(math.Round(z / s))})
	}
	return l
}

func TestPack(t *testing.T) { // P1202
	if Root != 759250125 {
		t.Error(Root)
	}
	if w, ok := Pack(quat.One()); w != 537395712 || !ok {
		t.Error("example", w)
	}
	if w, ok := Pack(api.Quat{W: -Root, X: Root}); w != 0<<30|1<<20|512<<10|512 || !ok {
		t.Error("first of two, and its sign", w)
	}
	for _, q := range []api.Quat{{}, {W: 1}, {W: 1<<31 - 1}, {W: 1 << 30, X: 1 << 21}, {W: -1 << 31, X: -1 << 31, Y: -1 << 31, Z: -1 << 31}} {
		if w, ok := Pack(q); w != 0 || ok {
			t.Error(q, w)
		}
	}
	for _, q := range units(5000) {
		p := []int32{q.W, q.X, q.Y, q.Z}
		out := 0
		for i := range p {
			if max(p[i], -p[i]) > max(p[out], -p[out]) {
				out = i
			}
		}
		want := uint32(out)
		for i, n := range p {
			if p[out] < 0 {
				n = -n
			}
			if i != out {
				want = want<<10 | uint32(512+max(-511, min(511, fix.Over(511*int64(n), Root))))
			}
		}
		if w, ok := Pack(q); w != want || !ok {
			t.Fatal(q, w, want)
		}
	}
}

func TestClose(t *testing.T) { // P1204, P1205
	for _, q := range units(20000) {
		w, _ := Pack(q)
		u, ok := Unpack(w)
		if !ok {
			t.Fatal(q, w)
		}
		p, g := []int32{q.W, q.X, q.Y, q.Z}, []int32{u.W, u.X, u.Y, u.Z}
		out := int(w >> 30)
		for i := range p {
			if p[out] < 0 {
				g[i] = -g[i]
			}
			most := int64(1 << 20)
			if i == out {
				most = 1 << 22
			}
			if d := int64(p[i]) - int64(g[i]); d > most || d < -most {
				t.Fatal(q, u, d)
			}
		}
	}
}

func TestUnpack(t *testing.T) { // P1203, P1205
	r := rand.New(rand.NewSource(2))
	good, bad := 0, 0
	for range 50000 {
		w := r.Uint32()
		if r.Intn(3) == 0 {
			w &^= 1023 << (10 * r.Intn(3))
		}
		var p [4]int32
		at, zero := 20, false
		for i := range p {
			if i != int(w>>30) {
				n := w >> at & 1023
				zero = zero || n == 0
				p[i] = int32(fix.Over((int64(n)-512)*Root, 511))
				at -= 10
			}
		}
		sum := root.Squares(p[:]...)
		want := !zero && sum <= 1<<60
		if want {
			p[w>>30] = int32(root.Sqrt(1<<60 - sum))
		} else {
			p = [4]int32{}
		}
		q, ok := Unpack(w)
		if ok != want || q != (api.Quat{W: p[0], X: p[1], Y: p[2], Z: p[3]}) {
			t.Fatal(w, q, ok)
		}
		if ok {
			good++
			if n := quat.Norm(q); n > 1<<60 || 1<<60-n > 1<<31 || !unit.Is(q) {
				t.Fatal(w, q, n)
			}
		} else {
			bad++
		}
	}
	if good == 0 || bad == 0 {
		t.Error(good, bad)
	}
	if q, ok := Unpack(537395712); q != quat.One() || !ok {
		t.Error(q)
	}
	if q, ok := Unpack(0); q != (api.Quat{}) || ok {
		t.Error(q)
	}
}
