package bits

import (
	"math/rand"
	"slices"
	"testing"
)

func TestGetPut(t *testing.T) { // P802, P804
	r := rand.New(rand.NewSource(1))
	for at := range 33 {
		for n := range 34 {
			in := n >= 1 && n <= 32 && at+n <= 32
			for range 5 {
				w := r.Uint32()
				want := uint32(0)
				if in {
					want = uint32(uint64(w) >> at % (1 << n))
				}
				if got := Get(w, at, n); got != want {
					t.Fatal(w, at, n, got)
				}
				v := uint32(0)
				if in {
					v = r.Uint32() >> (32 - n)
				}
				got, ok := Put(w, at, n, v)
				if ok != in || !ok && got != 0 {
					t.Fatal(w, at, n, v)
				}
				if in && (Get(got, at, n) != v || (got^w)>>at>>n != 0 || (got^w)<<(32-at) != 0 && at > 0) {
					t.Fatal(w, at, n, v, got)
				}
				if in && n < 32 {
					if got, ok := Put(w, at, n, 1<<n); ok || got != 0 {
						t.Fatal(w, at, n)
					}
				}
			}
		}
	}
	for _, c := range [][2]int{{-1, 1}, {-1, 5}, {1 << 62, 1 << 62}, {1<<63 - 1, 1}, {0, 1<<63 - 1}, {-1 << 63, 32}, {-5, -1 << 63}, {32, 1}, {1, 32}, {0, 0}, {0, -1}} {
		if w, ok := Put(9, c[0], c[1], 0); ok || w != 0 || Get(1<<32-1, c[0], c[1]) != 0 {
			t.Error(c)
		}
	}
	if Get(240, 4, 4) != 15 {
		t.Error("example")
	}
}

func TestSigned(t *testing.T) { // P802
	for n := 1; n <= 32; n++ {
		for _, u := range []uint32{0, 1, 1 << 31, 1<<32 - 1, 1 << (n - 1), 1<<(n-1) - 1, 12345678} {
			want := int64(uint64(u) % (1 << n))
			if want >= 1<<(n-1) {
				want -= 1 << n
			}
			if got := Signed(u, n); int64(got) != want {
				t.Fatal(u, n, got, want)
			}
		}
		for _, i := range []int64{0, -1, 1<<(n-1) - 1, 1 << (n - 1), -1 << (n - 1), -1<<(n-1) - 1} {
			if i != int64(int32(i)) {
				continue
			}
			if want := i >= -1<<(n-1) && i < 1<<(n-1); Fits(int32(i), n) != want {
				t.Fatal(i, n)
			}
		}
	}
	for _, n := range []int{0, -1, 33, 64, -1 << 63, 1<<63 - 1} {
		if Signed(1, n) != 0 || Fits(0, n) {
			t.Error(n)
		}
	}
}

func TestSplit(t *testing.T) { // P803, P804
	if l, ok := Split(0x80000001, 1, 30, 1); !ok || !slices.Equal(l, []uint32{1, 0, 1}) {
		t.Error("example")
	}
	r := rand.New(rand.NewSource(2))
	for range 3000 {
		var widths []int
		for left := 32; left > 0; {
			n := 1 + r.Intn(left)
			widths = append(widths, n)
			left -= n
		}
		w := r.Uint32()
		l, ok := Split(w, widths...)
		sum := uint64(0)
		for i, v := range l {
			sum = sum<<widths[i] + uint64(v)
		}
		if !ok || len(l) != len(widths) || sum != uint64(w) {
			t.Fatal(w, widths, l)
		}
		if got, ok := Join(widths, l); !ok || got != w {
			t.Fatal(w, widths, l)
		}
		i := r.Intn(len(l))
		if widths[i] < 32 {
			l[i] = 1 << widths[i]
			if got, ok := Join(widths, l); ok || got != 0 {
				t.Fatal(widths, l)
			}
		}
		for _, l := range [][]uint32{nil, l[1:], append(l, 0)} {
			if got, ok := Join(widths, l); ok || got != 0 {
				t.Fatal(widths, l)
			}
		}
	}
	for _, widths := range [][]int{nil, {31}, {33}, {0, 32}, {33, -1}, {16, 15}, {16, 17}, {1 << 62, 1 << 62, 1 << 62, 1 << 62, 32}, {32, 1}} {
		if l, ok := Split(1, widths...); ok || len(l) != 0 {
			t.Error(widths)
		}
		if w, ok := Join(widths, make([]uint32, len(widths))); ok || w != 0 {
			t.Error(widths)
		}
	}
}
