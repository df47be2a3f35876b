package vec

import (
	"math/big"
	"math/rand"
	"testing"

	"landfall/api"
	"landfall/fix"
	"landfall/root"
)

func some(r *rand.Rand) api.Vec {
	n := func() int32 {
		switch r.Intn(8) {
		case 0:
			return []int32{0, 1, -1, 1 << 30, -1 << 30, 1<<31 - 1, -1 << 31, 65536}[r.Intn(8)]
		}
		return int32(r.Uint32()) >> r.Intn(32)
	}
	return api.Vec{X: n(), Y: n(), Z: n()}
}

// cut is what three numbers are as a vector.
func cut(x, y, z int64) (api.Vec, int) {
	n := 0
	one := func(i int64) int32 {
		c, was := fix.Clamp(i)
		if was {
			n++
		}
		return c
	}
	return api.Vec{X: one(x), Y: one(y), Z: one(z)}, n
}

func near(a, b int32) int64 { return fix.Round(int64(a)*int64(b), 16) }

func TestParts(t *testing.T) { // P902, P905
	r := rand.New(rand.NewSource(1))
	for range 20000 {
		a, b := some(r), some(r)
		check := func(what string, got api.Vec, cuts int, x, y, z int64) {
			if want, n := cut(x, y, z); got != want || cuts != n {
				t.Fatal(what, a, b, got, cuts, want, n)
			}
		}
		v, n := Add(a, b)
		check("Add", v, n, int64(a.X)+int64(b.X), int64(a.Y)+int64(b.Y), int64(a.Z)+int64(b.Z))
		v, n = Sub(a, b)
		check("Sub", v, n, int64(a.X)-int64(b.X), int64(a.Y)-int64(b.Y), int64(a.Z)-int64(b.Z))
		v, n = Scale(a, b.Y)
		check("Scale", v, n, near(a.X, b.Y), near(a.Y, b.Y), near(a.Z, b.Y))
		v, n = Cross(a, b)
		check("Cross", v, n, near(a.Y, b.Z)-near(a.Z, b.Y), near(a.Z, b.X)-near(a.X, b.Z), near(a.X, b.Y)-near(a.Y, b.X))
		if w, m := Cross(b, a); n == 0 && m == 0 && (w != api.Vec{X: -v.X, Y: -v.Y, Z: -v.Z}) {
			t.Fatal("Cross turned", a, b)
		}
		d, was := Dot(a, b)
		if want, cut := fix.Clamp(near(a.X, b.X) + near(a.Y, b.Y) + near(a.Z, b.Z)); d != want || was != cut {
			t.Fatal("Dot", a, b, d, was)
		}
		if e, was2 := Dot(b, a); e != d || was2 != was {
			t.Fatal("Dot turned", a, b)
		}
		if Length(a) != root.Length(a.X, a.Y, a.Z) {
			t.Fatal("Length", a)
		}
	}
	if v, n := Cross(api.Vec{X: 65536}, api.Vec{Y: 65536}); v != (api.Vec{Z: 65536}) || n != 0 {
		t.Error("example")
	}
	if v, n := Add(api.Vec{X: 1<<31 - 1, Y: -1 << 31, Z: 5}, api.Vec{X: 1, Y: -1, Z: 5}); v != (api.Vec{X: 1<<31 - 1, Y: -1 << 31, Z: 10}) || n != 2 {
		t.Error(v, n)
	}
}

func TestUnit(t *testing.T) { // P903, P904
	if v, ok := Unit(api.Vec{}); ok || v != (api.Vec{}) {
		t.Error("of nothing")
	}
	if v, ok := Unit(api.Vec{Z: 5}); !ok || v != (api.Vec{Z: 1 << 30}) {
		t.Error("example", v)
	}
	if v, ok := Unit(api.Vec{Y: -1 << 31}); !ok || v != (api.Vec{Y: -1 << 30}) {
		t.Error("the least", v)
	}
	r := rand.New(rand.NewSource(2))
	for range 20000 {
		a := some(r)
		v, ok := Unit(a)
		if !ok {
			continue
		}
		x, y, z := int64(a.X), int64(a.Y), int64(a.Z)
		for max(x, -x, y, -y, z, -z) < 1<<30 {
			x, y, z = 2*x, 2*y, 2*z
		}
		l := int64(root.Length(int32(x), int32(y), int32(z)))
		if int64(v.X) != fix.Over(x<<30, l) || int64(v.Y) != fix.Over(y<<30, l) || int64(v.Z) != fix.Over(z<<30, l) {
			t.Fatal(a, v)
		}
		off := new(big.Int).SetUint64(root.Squares(v.X, v.Y, v.Z))
		off.Sub(off, big.NewInt(1<<60)).Abs(off)
		if off.Cmp(big.NewInt(1<<33)) > 0 {
			t.Fatal(a, v, off)
		}
	}
}
