package pvt

import (
	"bytes"
	"math/rand"
	"slices"
	"testing"

	"landfall/api"
	"landfall/fix"
	"landfall/shape"
)

// table is the document's: bytes, sign, from, to.
var table = [][4]int64{
	{4, 0, 0, 604799999}, {2, 0, 0, 65535}, {1, 0, 0, 12}, {1, 0, 0, 31}, {1, 0, 0, 23}, {1, 0, 0, 59}, {1, 0, 0, 60}, {1, 0, 0, 15}, {4, 0, 0, 4294967295}, {4, 1, -1000000000, 1000000000},
	{1, 0, 0, 5}, {1, 0, 0, 255}, {1, 0, 0, 255}, {1, 0, 0, 255}, {4, 1, -1800000000, 1800000000}, {4, 1, -900000000, 900000000}, {4, 1, -2147483648, 2147483647}, {4, 1, -2147483648, 2147483647},
	{4, 0, 0, 4294967295}, {4, 0, 0, 4294967295}, {4, 1, -2147483648, 2147483647}, {4, 1, -2147483648, 2147483647}, {4, 1, -2147483648, 2147483647}, {4, 1, -2147483648, 2147483647}, {4, 1, 0, 36000000},
	{4, 0, 0, 4294967295}, {4, 0, 0, 4294967295}, {2, 0, 0, 65535}, {2, 0, 0, 31}, {4, 0, 0, 0}, {4, 1, 0, 36000000}, {2, 1, -18000, 18000}, {2, 0, 0, 65535},
}

func some(r *rand.Rand) []int64 {
	v := make([]int64, 33)
	for i, f := range table {
		v[i] = f[2] + r.Int63n(f[3]-f[2]+1)
		switch r.Intn(6) {
		case 0:
			v[i] = f[2]
		case 1:
			v[i] = f[3]
		}
	}
	return v
}

func TestShape(t *testing.T) { // P1602
	l := Shape()
	if len(l) != 33 || shape.Width(l) != 92 {
		t.Fatal(len(l), shape.Width(l))
	}
	for i, f := range table {
		if l[i] != (api.Field{Size: int(f[0]), Signed: f[1] == 1, Lo: f[2], Hi: f[3]}) {
			t.Error(i, l[i])
		}
	}
	l[0].Size = 9
	if Shape()[0].Size != 4 {
		t.Error("shared")
	}
}

func TestValues(t *testing.T) { // P1602
	v := make([]int64, 33)
	for i := range v {
		v[i] = int64(i + 1)
	}
	v[29] = 0
	want := api.Pvt{Tow: 1, Year: 2, Month: 3, Day: 4, Hour: 5, Min: 6, Sec: 7, Valid: 8, Acc: 9, Nano: 10, Fix: 11, Flags: 12, More: 13, Sats: 14, Lon: 15, Lat: 16, Height: 17, Msl: 18, HAcc: 19, VAcc: 20, North: 21, East: 22, Down: 23, Speed: 24, Head: 25, SAcc: 26, HeadAcc: 27, Pdop: 28, Last: 29, Vehicle: 31, Dec: 32, DecAcc: 33}
	p, ok := Of(v)
	if p != want || !ok || !slices.Equal(Values(want), v) {
		t.Error(p, Values(want))
	}
	v[29] = 1
	for _, v := range [][]int64{v, nil, make([]int64, 32), make([]int64, 34)} {
		if p, ok := Of(v); ok || p != (api.Pvt{}) {
			t.Error(v)
		}
	}
	huge := api.Pvt{Tow: -1 << 63, DecAcc: 1<<63 - 1}
	if p, ok := Of(Values(huge)); p != huge || !ok {
		t.Error("whatever the numbers are")
	}
}

func TestBack(t *testing.T) { // P1603, P1604
	r := rand.New(rand.NewSource(1))
	for range 3000 {
		v := some(r)
		p, _ := Of(v)
		b, err := Put(p)
		if want, _ := shape.Put(Shape(), v); err != 0 || len(b) != 92 || !bytes.Equal(b, want) {
			t.Fatal(p, b, err)
		}
		got, err := Take(b)
		if got != p || err != 0 {
			t.Fatal(p, got, err)
		}
		b[r.Intn(92)] = byte(r.Int())
		if got, err := Take(b); err == 0 {
			if again, err := Put(got); err != 0 || !bytes.Equal(again, b) {
				t.Fatal(b, again)
			}
		} else if err != api.ErrRange || got != (api.Pvt{}) {
			t.Fatal(err, got)
		}
		i := r.Intn(33)
		for i == 29 {
			i = r.Intn(33)
		}
		v[i] = []int64{table[i][2] - 1, table[i][3] + 1}[r.Intn(2)]
		p, _ = Of(v)
		if b, err := Put(p); err != api.ErrRange || len(b) != 0 {
			t.Fatal(i, err)
		}
	}
	for n, want := range map[int]api.Errno{0: api.ErrShort, 91: api.ErrShort, 93: api.ErrLong, 92: api.OK} {
		if p, err := Take(make([]byte, n)); err != want || p != (api.Pvt{}) {
			t.Error(n, err)
		}
	}
	// A byte of 127 in the place of each number whose range is smaller than its room.
	for _, i := range []int{6, 7, 8, 9, 10, 11, 79, 80, 81, 82, 83, 87} {
		b := make([]byte, 92)
		b[i] = 127
		if _, err := Take(b); err != api.ErrRange {
			t.Error(i, err)
		}
	}
}

func TestSpeed(t *testing.T) { // P1603
	if v, n := Speed(api.Pvt{North: 1500}); v != (api.Vec{X: 98304}) || n != 0 {
		t.Error("example", v, n)
	}
	if v, n := Speed(api.Pvt{North: 2147483647, East: -2147483648, Down: -1}); v != (api.Vec{X: 2147483647, Y: -2147483648, Z: -66}) || n != 2 {
		t.Error(v, n)
	}
	r := rand.New(rand.NewSource(2))
	for range 3000 {
		p := api.Pvt{North: int64(int32(r.Uint32()) >> r.Intn(32)), East: int64(int32(r.Uint32()) >> r.Intn(32)), Down: int64(int32(r.Uint32()) >> r.Intn(32))}
		n := 0
		one := func(x int64) int32 {
			c, cut := fix.Clamp(fix.Over(65536*x, 1000))
			if cut {
				n++
			}
			return c
		}
		want := api.Vec{X: one(p.North), Y: one(p.East), Z: one(p.Down)}
		if v, m := Speed(p); v != want || m != n {
			t.Fatal(p, v, m)
		}
	}
	if v, n := Speed(api.Pvt{North: -1 << 63, East: 1<<63 - 1}); v != (api.Vec{X: -2147483648, Y: 2147483647}) || n != 2 {
		t.Error(v, n)
	}
}
