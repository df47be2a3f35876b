package unit

import (
	"math/big"
	"math/rand"
	"testing"

	"landfall/api"
	"landfall/fix"
	"landfall/root"
)

func some(r *rand.Rand) [4]int32 {
	var p [4]int32
	shift := r.Intn(32)
	for i := range p {
		p[i] = int32(r.Uint32()) >> shift
		if r.Intn(6) == 0 {
			p[i] = []int32{0, 1, -1, 1 << 30, -1 << 30, 1<<30 - 1, 1<<31 - 1, -1 << 31}[r.Intn(8)]
		}
	}
	return p
}

func of(p [4]int32) api.Quat { return api.Quat{W: p[0], X: p[1], Y: p[2], Z: p[3]} }

func TestOff(t *testing.T) { // P1102
	r := rand.New(rand.NewSource(1))
	for range 5000 {
		p := some(r)
		n := new(big.Int).SetUint64(root.Squares(p[:]...))
		n.Sub(n, big.NewInt(1<<60)).Abs(n)
		if Off(of(p)) != n.Uint64() || Is(of(p)) != (n.Uint64() <= 1<<40) {
			t.Fatal(p)
		}
	}
	for _, c := range []struct {
		q    api.Quat
		off  uint64
		unit bool
	}{
		{api.Quat{}, 1 << 60, false}, {api.Quat{W: 1 << 30}, 0, true}, {api.Quat{W: 1 << 30, X: 1 << 20}, 1 << 40, true},
		{api.Quat{W: 1 << 30, X: 1 << 20, Y: 1}, 1<<40 + 1, false}, {api.Quat{W: 1<<30 - 512, X: 1}, 1<<40 - 1<<18 - 1, true}, {api.Quat{W: 1<<30 - 513}, 513 * (1<<31 - 513), false},
		{api.Quat{W: -1 << 31, X: -1 << 31, Y: -1 << 31, Z: -1 << 31}, 1<<64 - 1 - 1<<60, false},
	} {
		if Off(c.q) != c.off || Is(c.q) != c.unit {
			t.Error(c, Off(c.q), Is(c.q))
		}
	}
}

func TestMake(t *testing.T) { // P1102, P1103, P1104
	if q, ok := Make(api.Quat{}); ok || q != (api.Quat{}) {
		t.Error("of nothing")
	}
	if q, ok := Make(api.Quat{Z: 7}); !ok || q != (api.Quat{Z: 1 << 30}) {
		t.Error("example", q)
	}
	r := rand.New(rand.NewSource(2))
	far := func(n int32) int64 { return max(int64(n), -int64(n)) }
	for range 20000 {
		p := some(r)
		q, ok := Make(of(p))
		if !ok {
			continue
		}
		var x [4]int64
		most := int64(0)
		for i, n := range p {
			x[i] = int64(n)
			most = max(most, far(n))
		}
		for ; most < 1<<30; most *= 2 {
			for i := range x {
				x[i] *= 2
			}
		}
		l := int64(root.Length(int32(x[0]), int32(x[1]), int32(x[2]), int32(x[3])))
		got := [4]int32{q.W, q.X, q.Y, q.Z}
		for i, n := range got {
			if int64(n) != fix.Over(x[i]<<30, l) {
				t.Fatal(p, q)
			}
			if n != 0 && (n < 0) != (p[i] < 0) {
				t.Fatal("sign", p, q)
			}
			for j := range got {
				if far(p[i]) <= far(p[j]) && far(n) > far(got[j]) {
					t.Fatal("farther", p, q)
				}
			}
		}
		if Off(q) > 1<<33 || !Is(q) {
			t.Fatal(p, q, Off(q))
		}
	}
}
