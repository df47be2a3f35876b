package quat

import (
	"math"
	"math/rand"
	"testing"

	"landfall/api"
	"landfall/fix"
	"landfall/root"
)

func some(r *rand.Rand) api.Quat {
	n := func() int32 {
		if r.Intn(8) == 0 {
			return []int32{0, 1, -1, 1 << 30, -1 << 30, 1<<31 - 1, -1 << 31, 65536}[r.Intn(8)]
		}
		return int32(r.Uint32()) >> r.Intn(32)
	}
	return api.Quat{W: n(), X: n(), Y: n(), Z: n()}
}

// unit is a quaternion whose norm is nearly one.
func unit(r *rand.Rand) api.Quat {
	w, x, y, z := r.NormFloat64(), r.NormFloat64(), r.NormFloat64(), r.NormFloat64()
	l := math.Sqrt(w*w+x*x+y*y+z*z) / (1 << 30)
	return api.Quat{W: int32(math.Round(w / l)), X: int32(math.Round(x / l)), Y: int32(math.Round(y / l)), Z: int32(math.Round(z / l))}
}

func off(q api.Quat) uint64 {
	if n := Norm(q); n > 1<<60 {
		return n - 1<<60
	} else {
		return 1<<60 - n
	}
}

// cut is what four numbers are as a quaternion.
func cutAll(l ...int64) (api.Quat, int) {
	n := 0
	p := [4]int32{}
	for i := range p {
		c, was := fix.Clamp(l[i])
		if was {
			n++
		}
		p[i] = c
	}
	return api.Quat{W: p[0], X: p[1], Y: p[2], Z: p[3]}, n
}

func TestMul(t *testing.T) { // P1002
	r := rand.New(rand.NewSource(1))
	m := func(a, b int32) int64 { return fix.Round(int64(a)*int64(b), 30) }
	for range 20000 {
		a, b := some(r), some(r)
		got, cuts := Mul(a, b)
		want, n := cutAll(
			m(a.W, b.W)-m(a.X, b.X)-m(a.Y, b.Y)-m(a.Z, b.Z),
			m(a.W, b.X)+m(a.X, b.W)+m(a.Y, b.Z)-m(a.Z, b.Y),
			m(a.W, b.Y)+m(a.Y, b.W)+m(a.Z, b.X)-m(a.X, b.Z),
			m(a.W, b.Z)+m(a.Z, b.W)+m(a.X, b.Y)-m(a.Y, b.X))
		if got != want || cuts != n {
			t.Fatal(a, b, got, cuts, want, n)
		}
		if d := Dot(a, b); d != m(a.W, b.W)+m(a.X, b.X)+m(a.Y, b.Y)+m(a.Z, b.Z) {
			t.Fatal(a, b, d)
		}
		if n == 0 { // P1005
			x, n1 := Conj(a)
			y, n2 := Conj(b)
			z, n3 := Conj(got)
			if u, n4 := Mul(y, x); n1+n2+n3+n4 == 0 && u != z {
				t.Fatal(a, b, u, z)
			}
		}
	}
	one := int32(1 << 30)
	if q, n := Mul(api.Quat{X: one}, api.Quat{Y: one}); q != (api.Quat{Z: one}) || n != 0 {
		t.Error("i times j", q)
	}
}

func TestOne(t *testing.T) { // P1003, P1005
	r := rand.New(rand.NewSource(2))
	if One() != (api.Quat{W: 1 << 30}) {
		t.Error("One")
	}
	for range 5000 {
		q := some(r)
		for _, p := range [][2]api.Quat{{q, One()}, {One(), q}} {
			if got, n := Mul(p[0], p[1]); got != q || n != 0 {
				t.Fatal(q, got)
			}
		}
		want, n := cutAll(int64(q.W), -int64(q.X), -int64(q.Y), -int64(q.Z))
		if got, m := Conj(q); got != want || m != n {
			t.Fatal(q, got)
		}
		want, n = cutAll(-int64(q.W), -int64(q.X), -int64(q.Y), -int64(q.Z))
		if got, m := Neg(q); got != want || m != n {
			t.Fatal(q, got)
		}
		if Norm(q) != root.Squares(q.W, q.X, q.Y, q.Z) {
			t.Fatal(q)
		}
	}
	least := api.Quat{W: -1 << 31, X: -1 << 31, Y: -1 << 31, Z: -1 << 31}
	if _, n := Conj(least); n != 3 {
		t.Error("Conj", n)
	}
	if q, n := Neg(least); n != 4 || q.W != 1<<31-1 {
		t.Error("Neg", n)
	}
	if Norm(least) != 1<<64-1 {
		t.Error("Norm")
	}
}

func TestNorm(t *testing.T) { // P1004
	r := rand.New(rand.NewSource(3))
	for range 20000 {
		a, b := unit(r), unit(r)
		if off(a) > 1<<40 || off(b) > 1<<40 {
			t.Fatal("no units", a, b)
		}
		if q, n := Mul(a, b); n != 0 || off(q) > 1<<42 {
			t.Fatal(a, b, q, n)
		}
	}
}
