package fix

import (
	"math/big"
	"math/rand"
	"testing"
)

// some are numbers at all edges.
func some() []int64 {
	l := []int64{}
	for k := range 64 {
		for d := int64(-2); d <= 2; d++ {
			l = append(l, int64(uint64(1)<<k)+d, -int64(uint64(1)<<k)+d)
		}
	}
	r := rand.New(rand.NewSource(1))
	for range 100 {
		l = append(l, int64(r.Uint64())>>r.Intn(64))
	}
	return l
}

// nearest is n by d in numbers of any size.
func nearest(n, d int64) *big.Int {
	a, b := new(big.Int).Abs(big.NewInt(n)), new(big.Int).Abs(big.NewInt(d))
	a.Lsh(a, 1).Add(a, b)
	b.Lsh(b, 1)
	a.Div(a, b)
	if (n < 0) != (d < 0) {
		a.Neg(a)
	}
	return a
}

func TestOver(t *testing.T) { // P102, P104
	for _, n := range some() {
		for _, d := range some() {
			got := Over(n, d)
			switch {
			case d == 0:
				if got != 0 {
					t.Fatal(n, d, got)
				}
			case n == -1<<63 && d == -1:
				if got != 1<<63-1 {
					t.Fatal(n, d, got)
				}
			case nearest(n, d).Cmp(big.NewInt(got)) != 0:
				t.Fatal(n, d, got, nearest(n, d))
			case n != -1<<63 && Over(-n, d) != -got:
				t.Fatal(n, d)
			}
		}
	}
	if Over(7, 2) != 4 || Over(-7, 2) != -4 || Over(5, 4) != 1 || Over(6, 4) != 2 {
		t.Error("examples")
	}
}

func TestRound(t *testing.T) { // P102
	for _, n := range some() {
		for frac := -3; frac < 70; frac++ {
			if Round(n, frac) != Over(n, int64(1)<<max(0, min(frac, 62))) {
				t.Fatal(n, frac)
			}
		}
		if Round(n, -1<<63) != n || Round(n, 1<<63-1) != Over(n, 1<<62) {
			t.Fatal(n)
		}
	}
}

// right tells whether got, was is that what want is cut to.
func right(want *big.Int, got int32, was bool) bool {
	hi, lo := big.NewInt(1<<31-1), big.NewInt(-1<<31)
	switch {
	case want.Cmp(hi) > 0:
		return got == 1<<31-1 && was
	case want.Cmp(lo) < 0:
		return got == -1<<31 && was
	}
	return !was && want.Cmp(big.NewInt(int64(got))) == 0
}

func some32() []int32 {
	l := []int32{}
	for _, n := range some() {
		l = append(l, int32(n))
	}
	return l[:200:200]
}

func TestCut(t *testing.T) { // P103, P105
	for _, n := range some() {
		if got, was := Clamp(n); !right(big.NewInt(n), got, was) {
			t.Fatal(n, got, was)
		}
	}
	for _, a := range some32() {
		x := big.NewInt(int64(a))
		if got, was := Neg(a); !right(new(big.Int).Neg(x), got, was) {
			t.Fatal(a, got, was)
		}
		if got, was := Abs(a); !right(new(big.Int).Abs(x), got, was) {
			t.Fatal(a, got, was)
		}
		for _, b := range some32() {
			y := big.NewInt(int64(b))
			if got, was := Add(a, b); !right(new(big.Int).Add(x, y), got, was) {
				t.Fatal(a, b, got, was)
			}
			if got, was := Sub(a, b); !right(new(big.Int).Sub(x, y), got, was) {
				t.Fatal(a, b, got, was)
			}
		}
	}
}

func TestMulDiv(t *testing.T) { // P103
	for _, a := range some32() {
		for _, b := range some32() {
			for _, frac := range []int{-1 << 63, -1, 0, 1, 16, 29, 30, 31, 1 << 40} {
				f := max(0, min(frac, 30))
				if got, was := Mul(a, b, frac); !right(nearest(int64(a)*int64(b), 1<<f), got, was) {
					t.Fatal(a, b, frac, got, was)
				}
				got, was := Div(a, b, frac)
				if b == 0 {
					want := map[bool]int32{true: 1<<31 - 1, false: -1 << 31}[a > 0]
					if a == 0 {
						want = 0
					}
					if got != want || !was {
						t.Fatal(a, b, got, was)
					}
				} else if !right(nearest(int64(a)<<f, int64(b)), got, was) {
					t.Fatal(a, b, frac, got, was)
				}
			}
		}
	}
}
