package turn

import (
	"math"
	"math/big"
	"math/rand"
	"testing"

	"landfall/api"
	"landfall/fix"
	"landfall/quat"
	"landfall/root"
	"landfall/unit"
)

func number(r *rand.Rand) int32 {
	if r.Intn(8) == 0 {
		return []int32{0, 1, -1, 1 << 30, -1 << 30, 1<<31 - 1, -1 << 31, 65536}[r.Intn(8)]
	}
	return int32(r.Uint32()) >> r.Intn(32)
}

func someQ(r *rand.Rand) api.Quat {
	return api.Quat{W: number(r), X: number(r), Y: number(r), Z: number(r)}
}

func someV(r *rand.Rand) api.Vec { return api.Vec{X: number(r), Y: number(r), Z: number(r)} }

// m is a product of two parts, by 30.
func m(a, b int32) int64 { return fix.Round(int64(a)*int64(b), 30) }

// cuts counts what is cut.
type cuts int

func (c *cuts) cut(n int64) int32 {
	out, was := fix.Clamp(n)
	if was {
		*c++
	}
	return out
}

func TestRotate(t *testing.T) { // P1302
	r := rand.New(rand.NewSource(1))
	for range 20000 {
		q, v := someQ(r), someV(r)
		var c cuts
		tx, ty, tz := c.cut(2*(m(q.Y, v.Z)-m(q.Z, v.Y))), c.cut(2*(m(q.Z, v.X)-m(q.X, v.Z))), c.cut(2*(m(q.X, v.Y)-m(q.Y, v.X)))
		want := api.Vec{
			X: c.cut(int64(v.X) + m(q.W, tx) + m(q.Y, tz) - m(q.Z, ty)),
			Y: c.cut(int64(v.Y) + m(q.W, ty) + m(q.Z, tx) - m(q.X, tz)),
			Z: c.cut(int64(v.Z) + m(q.W, tz) + m(q.X, ty) - m(q.Y, tx)),
		}
		if got, n := Rotate(q, v); got != want || n != int(c) {
			t.Fatal(q, v, got, n, want, c)
		}
	}
	if v, n := Rotate(api.Quat{W: 759250125, Z: 759250125}, api.Vec{X: 65536}); v != (api.Vec{Y: 65536}) || n != 0 {
		t.Error("example", v, n)
	}
}

func TestLength(t *testing.T) { // P1306
	r := rand.New(rand.NewSource(2))
	for range 20000 {
		q, ok := unit.Make(someQ(r))
		v := api.Vec{X: number(r) >> 7, Y: number(r) >> 7, Z: number(r) >> 7}
		w, n := Rotate(q, v)
		d := int64(root.Length(v.X, v.Y, v.Z)) - int64(root.Length(w.X, w.Y, w.Z))
		if ok && (n != 0 || d > 16 || d < -16) {
			t.Fatal(q, v, w, n)
		}
	}
}

func TestUp(t *testing.T) { // P1303
	r := rand.New(rand.NewSource(3))
	for range 20000 {
		q := someQ(r)
		var c cuts
		want := api.Vec{
			X: c.cut(2 * (m(q.X, q.Z) - m(q.W, q.Y))),
			Y: c.cut(2 * (m(q.Y, q.Z) + m(q.W, q.X))),
			Z: c.cut(m(q.W, q.W) - m(q.X, q.X) - m(q.Y, q.Y) + m(q.Z, q.Z)),
		}
		if got := Up(q); got != want {
			t.Fatal(q, got, want)
		}
	}
	if Up(quat.One()) != (api.Vec{Z: 1 << 30}) {
		t.Error("of one")
	}
}

func TestStep(t *testing.T) { // P1304, P1305
	r := rand.New(rand.NewSource(4))
	for range 20000 {
		q, rate, dt := someQ(r), someV(r), number(r)
		if r.Intn(10) == 0 {
			rate = api.Vec{}
		}
		var c cuts
		part := func(n int32) int32 { return c.cut(fix.Round(int64(n)*int64(dt), 3)) }
		p, n := quat.Mul(q, api.Quat{W: 1 << 30, X: part(rate.X), Y: part(rate.Y), Z: part(rate.Z)})
		n += int(c)
		want, ok := unit.Make(p)
		if !ok {
			want, n = quat.One(), n+1
		}
		got, cuts := Step(q, rate, dt)
		if got != want || cuts != n || unit.Off(got) > 1<<33 {
			t.Fatal(q, rate, dt, got, cuts, want, n)
		}
		if made, ok := unit.Make(q); rate == (api.Vec{}) && ok && got != made {
			t.Fatal(q, got)
		}
	}
	if q, n := Step(api.Quat{}, api.Vec{X: 1}, 1); q != quat.One() || n != 1 {
		t.Error("of nothing", q, n)
	}
	if q, n := Step(quat.One(), api.Vec{X: 1<<31 - 1, Y: -1 << 31, Z: 8}, 1<<31-1); n != 2 || unit.Off(q) > 1<<33 {
		t.Error("cut", q, n)
	}
}

var table = []int64{536870912, 316933406, 167458907, 85004756, 42667331, 21354465, 10679838, 5340245, 2670163, 1335087, 667544, 333772, 166886, 83443, 41722, 20861, 10430, 5215, 2608, 1304, 652, 326, 163, 81, 41, 20, 10, 5, 3, 1, 1}

// atan is Atan as the document tells it.
func atan(y, x int32) int32 {
	if y == 0 && x == 0 {
		return 0
	}
	X, Y, A := int64(x), int64(y), int64(0)
	for max(X, -X, Y, -Y) < 1<<30 {
		X, Y = 2*X, 2*Y
	}
	if X < 0 {
		X = -X
	}
	X, Y = X<<20, Y<<20
	for k := range table {
		x, y := X/(1<<k), Y/(1<<k)
		if Y > 0 {
			X, Y, A = X+y, Y-x, A+table[k]
		} else if Y < 0 {
			X, Y, A = X-y, Y+x, A-table[k]
		}
	}
	if x < 0 {
		A = 1<<31 - A
	}
	return int32(A)
}

func TestAtan(t *testing.T) { // P1307, P1310
	r := rand.New(rand.NewSource(5))
	for range 20000 {
		y, x := number(r), number(r)
		a := Atan(y, x)
		if a != atan(y, x) {
			t.Fatal(y, x, a)
		}
		if y != -1<<31 && y != 0 && Atan(-y, x) != -a {
			t.Fatal(y, x, a)
		}
		if x == 0 && y == 0 {
			continue
		}
		if true := math.Atan2(float64(y), float64(x)) / math.Pi * (1 << 31); math.Abs(math.Remainder(true-float64(a), 1<<32)) > 64 {
			t.Fatal(y, x, a, true)
		}
	}
	for _, c := range []struct{ y, x, a int32 }{{0, 0, 0}, {0, -1, -1 << 31}, {0, 1, 0}, {1, 1, 536870912}} {
		if a := Atan(c.y, c.x); c.y == 0 && a != c.a || a-c.a > 8 || a-c.a < -8 {
			t.Error(c, a)
		}
	}
}

func TestCircle(t *testing.T) { // P1308, P1310
	r := rand.New(rand.NewSource(6))
	for range 20000 {
		a := number(r)
		cos, sin := Circle(a)
		x := new(big.Int).SetUint64(root.Squares(cos, sin))
		if x.Sub(x, big.NewInt(1<<60)).Abs(x).Cmp(big.NewInt(1<<33)) > 0 {
			t.Fatal(a, cos, sin)
		}
		turn := float64(a) / (1 << 31) * math.Pi
		if math.Abs(math.Cos(turn)*(1<<30)-float64(cos)) > 64 || math.Abs(math.Sin(turn)*(1<<30)-float64(sin)) > 64 {
			t.Fatal(a, cos, sin)
		}
		Z := int64(a)
		if Z < -1<<30 || Z > 1<<30 {
			Z = int64(int32(1<<31 - Z))
		}
		X, Y, was := int64(683706022956409), int64(0), Z
		for k := range table {
			x, y := X/(1<<k), Y/(1<<k)
			if Z >= 0 {
				X, Y, Z = X-y, Y+x, Z-table[k]
			} else {
				X, Y, Z = X+y, Y-x, Z+table[k]
			}
		}
		X, Y = fix.Round(X, 20), fix.Round(Y, 20)
		if was != int64(a) {
			X = -X
		}
		if int64(cos) != max(-1<<30, min(X, 1<<30)) || int64(sin) != max(-1<<30, min(Y, 1<<30)) {
			t.Fatal(a, cos, sin, X, Y)
		}
	}
}

func TestCircleOfAtan(t *testing.T) { // P1310
	r := rand.New(rand.NewSource(7))
	for range 20000 {
		y, x := number(r), number(r)
		cos, sin := Circle(Atan(y, x))
		side := int64(y)*int64(cos) - int64(x)*int64(sin)
		on := int64(x)*int64(cos) + int64(y)*int64(sin)
		if far := max(int64(x), -int64(x)) + max(int64(y), -int64(y)); side > 256*far || side < -256*far || on < 0 {
			t.Fatal(y, x, cos, sin)
		}
	}
}

func TestAngles(t *testing.T) { // P1309
	r := rand.New(rand.NewSource(8))
	for range 20000 {
		q := someQ(r)
		if r.Intn(2) == 0 {
			q, _ = unit.Make(q)
		}
		u := Up(q)
		var c cuts
		roll := Atan(u.Y, u.Z)
		pitch := Atan(c.cut(-int64(u.X)), c.cut(int64(root.Length(u.Y, u.Z))))
		yaw := Atan(c.cut(2*(m(q.X, q.Y)+m(q.W, q.Z))), c.cut(m(q.W, q.W)+m(q.X, q.X)-m(q.Y, q.Y)-m(q.Z, q.Z)))
		if a, b, d := Angles(q); a != roll || b != pitch || d != yaw {
			t.Fatal(q, a, b, d)
		}
	}
	quarter := func(a int32) bool { return a > 1<<30-64 && a < 1<<30+64 }
	if a, b, c := Angles(api.Quat{W: 759250125, Z: 759250125}); a != 0 || b != 0 || !quarter(c) {
		t.Error("around", a, b, c)
	}
	if a, b, c := Angles(api.Quat{W: 759250125, X: 759250125}); !quarter(a) || b != 0 || c != 0 {
		t.Error("to the side", a, b, c)
	}
	if _, b, _ := Angles(api.Quat{W: 759250125, Y: 759250125}); !quarter(b) {
		t.Error("up", b)
	}
}
