package root

import (
	"math/big"
	"math/rand"
	"slices"
	"testing"
)

func some() []uint64 {
	l := []uint64{1<<64 - 1, 1<<64 - 2}
	for n := range uint64(3000) {
		l = append(l, n)
	}
	r := rand.New(rand.NewSource(1))
	for range 5000 {
		l = append(l, r.Uint64()>>r.Intn(64))
	}
	for range 2000 {
		x := uint64(r.Uint32())
		l = append(l, x*x, x*x+x, x*x+x+1, x*x-1, x*x+2*x)
	}
	l = append(l, (1<<32-1)*(1<<32-1), (1<<32-1)*(1<<32-1)-1, (1<<32-1)*(1<<32-1)+(1<<32-1), (1<<32-1)*(1<<32-1)+(1<<32-1)+1)
	slices.Sort(l)
	return l
}

func TestSqrt(t *testing.T) { // P202, P203, P205
	last := uint32(0)
	for _, n := range some() {
		want := new(big.Int).Sqrt(new(big.Int).SetUint64(n)).Uint64()
		got := Sqrt(n)
		if uint64(got) != want || got < last {
			t.Fatal(n, got, want)
		}
		last = got
	}
	if Sqrt(99) != 9 {
		t.Error("example")
	}
}

func TestNear(t *testing.T) { // P202, P204
	for _, n := range some() {
		// The nearest whole number to the root of n is the floor of the root of 4n, and one, by 2.
		x := new(big.Int).SetUint64(n)
		x.Sqrt(x.Lsh(x, 2))
		x.Add(x, big.NewInt(1)).Rsh(x, 1)
		if got := Near(n); got != x.Uint64() {
			t.Fatal(n, got, x)
		}
	}
	if Near(99) != 10 || Near(90) != 9 || Near(91) != 10 || Near(1<<64-1) != 1<<32 {
		t.Error("examples")
	}
}

func TestSquares(t *testing.T) { // P202
	r := rand.New(rand.NewSource(2))
	for range 5000 {
		l := make([]int32, r.Intn(7))
		sum := new(big.Int)
		for i := range l {
			l[i] = int32(r.Uint32())
			if r.Intn(3) == 0 {
				l[i] = -1 << 31
			}
			n := big.NewInt(int64(l[i]))
			sum.Add(sum, n.Mul(n, n))
		}
		want := uint64(1<<64 - 1)
		if sum.IsUint64() {
			want = sum.Uint64()
		}
		if got := Squares(l...); got != want {
			t.Fatal(l, got, want)
		}
		if Length(l...) != Sqrt(want) {
			t.Fatal(l)
		}
	}
	if Squares() != 0 || Length() != 0 || Length(3, 4) != 5 {
		t.Error("examples")
	}
	if Squares(-1<<31, -1<<31, -1<<31, -1<<31, 1) != 1<<64-1 || Squares(-1<<31, -1<<31, -1<<31) != 3<<62 {
		t.Error("the most")
	}
}
