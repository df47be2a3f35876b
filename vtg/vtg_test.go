package vtg

import (
	"math/rand"
	"strings"
	"testing"

	"landfall/api"
	"landfall/fix"
)

func num(n int64) api.Num { return api.Num{Is: true, N: n} }

func cut(s string) []string { return strings.Split(s, ",") }

var full = api.Vtg{True: num(5470), Magnetic: num(3440), Knots: num(550), Kmh: num(1020)}

var text = "54.7,T,34.4,M,5.5,N,10.2,K"

func TestPut(t *testing.T) { // P2802
	if l, err := Put(full); err != 0 || strings.Join(l, ",") != text {
		t.Error(l, err)
	}
	if l, err := Put(api.Vtg{}); err != 0 || strings.Join(l, ",") != ",,,,,,," {
		t.Error(l, err)
	}
	if l, err := Put(api.Vtg{True: num(5), Knots: num(5), Kmh: num(999999)}); err != 0 || strings.Join(l, ",") != "0.05,T,,,0.05,N,9999.99,K" {
		t.Error(l, err)
	}
	for i, m := range []api.Vtg{{True: num(36001)}, {True: num(-1)}, {Magnetic: num(36001)}, {Magnetic: api.Num{N: 1}}, {Knots: num(1000000)}, {Kmh: num(-1)}, {Kmh: num(1000000)}} {
		if l, err := Put(m); err != api.ErrRange || len(l) != 0 {
			t.Error(i, l, err)
		}
	}
}

func TestTake(t *testing.T) { // P2803
	for _, s := range []string{text, text + ",", text + ",A"} {
		if m, err := Take(cut(s)); err != 0 || m != full {
			t.Error(s, m, err)
		}
	}
	for _, s := range []string{",,,,,,,", ",T,,M,,N,,K", ",,,M,,,,K,Z"} {
		if m, err := Take(cut(s)); err != 0 || m != (api.Vtg{}) {
			t.Error(s, m, err)
		}
	}
	for _, c := range []struct {
		at   int
		s    string
		want api.Errno
	}{
		{0, "360.01", api.ErrRange}, {0, "1000", api.ErrForm}, {1, "", api.ErrForm}, {1, "M", api.ErrForm}, {1, "t", api.ErrForm}, {2, "-1", api.ErrRange}, {3, "T", api.ErrForm}, {3, "", api.ErrForm}, {4, "10000", api.ErrForm}, {4, "9999.999", api.ErrForm}, {5, "", api.ErrForm}, {5, "K", api.ErrForm}, {6, "-0.01", api.ErrRange}, {7, "N", api.ErrForm}, {7, "", api.ErrForm}, {8, "a", api.ErrForm}, {8, "AA", api.ErrForm}, {8, "1", api.ErrForm},
	} {
		l := cut(text + ",A")
		l[c.at] = c.s
		if m, err := Take(l); err != c.want || m != (api.Vtg{}) {
			t.Error(c, err)
		}
		l[8] = "x"
		if _, err := Take(l); c.at < 8 && err != c.want {
			t.Error("the first error", c, err)
		}
	}
	if m, err := Take(cut(",x,,,,,,")); err != api.ErrForm || m != (api.Vtg{}) {
		t.Error(err)
	}
	for _, n := range []int{0, 7, 10} {
		if m, err := Take(make([]string, n)); err != api.ErrForm || m != (api.Vtg{}) {
			t.Error(n, err)
		}
	}
}

func TestKmh(t *testing.T) { // P2804
	for knots, want := range map[int64]int64{100: 185, 0: 0, -1: 0, 250: 463, 999999: fix.Over(1852*999999, 1000), 1000000: fix.Over(1852*999999, 1000), -1 << 63: 0, 1<<63 - 1: fix.Over(1852*999999, 1000)} {
		if Kmh(knots) != want {
			t.Error(knots, Kmh(knots))
		}
	}
	for d := int64(-4); d <= 4; d++ {
		if Agrees(api.Vtg{Knots: num(100), Kmh: num(185 + d)}) != (d >= -2 && d <= 2) {
			t.Error(d)
		}
	}
	if !Agrees(api.Vtg{}) || !Agrees(api.Vtg{Knots: num(5000)}) || !Agrees(api.Vtg{Kmh: num(5000)}) || Agrees(api.Vtg{Knots: num(0), Kmh: num(-1 << 63)}) || Agrees(api.Vtg{Knots: num(0), Kmh: num(1<<63 - 1)}) {
		t.Error("Agrees")
	}
}

func TestBack(t *testing.T) { // P2805
	r := rand.New(rand.NewSource(1))
	some := func(hi int64) api.Num {
		switch r.Intn(4) {
		case 0:
			return api.Num{}
		case 1:
			return num(hi)
		}
		return num(r.Int63n(hi + 1))
	}
	for range 3000 {
		m := api.Vtg{True: some(36000), Magnetic: some(36000), Knots: some(999999), Kmh: some(999999)}
		l, err := Put(m)
		if err != 0 || len(l) != 8 {
			t.Fatal(m, err)
		}
		if got, err := Take(l); err != 0 || got != m {
			t.Fatal(m, got, err)
		}
		i := r.Intn(8)
		l[i] = []string{"", "00.10", "M", "012"}[r.Intn(4)]
		if got, err := Take(l); err == 0 {
			again, err := Put(got)
			if back, err2 := Take(again); err != 0 || err2 != 0 || back != got {
				t.Fatal(l, again)
			}
			for i := range l {
				if len(again[i]) > len(l[i]) {
					t.Fatal(l, again)
				}
			}
		}
	}
}
