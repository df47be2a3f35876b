package rmc

import (
	"math/rand"
	"slices"
	"strings"
	"testing"

	"landfall/api"
	"landfall/clock"
)

func num(n int64) api.Num { return api.Num{Is: true, N: n} }

var full = api.Rmc{Time: api.Clock{Is: true, Hour: 12, Min: 35, Sec: 19, Centis: 5}, Active: true, Lat: num(-288423000), Lon: num(69100000), Speed: num(2240), Course: num(8441), Date: api.Date{Is: true, Day: 23, Month: 3, Year: 2094}, Var: num(-31)}

var text = "123519.05,A,4804.23,S,01131,E,22.4,84.41,230394,3.1,W"

func cut(s string) []string { return strings.Split(s, ",") }

func TestPut(t *testing.T) { // P2602
	if l, err := Put(full); err != 0 || strings.Join(l, ",") != text {
		t.Error(l, err)
	}
	if l, err := Put(api.Rmc{}); err != 0 || strings.Join(l, ",") != ",V,,,,,,,,," || len(l) != 11 {
		t.Error(l, err)
	}
	if l, err := Put(api.Rmc{Speed: num(5), Course: num(5), Var: num(5)}); err != 0 || strings.Join(l, ",") != ",V,,,,,0.05,0.05,,0.5,E" {
		t.Error(l, err)
	}
	for v, want := range map[int64][2]string{0: {"0", "E"}, 1800: {"180", "E"}, -1800: {"180", "W"}, -1: {"0.1", "W"}} {
		if l, err := Put(api.Rmc{Var: num(v)}); err != 0 || l[9] != want[0] || l[10] != want[1] {
			t.Error(v, l, err)
		}
	}
	for i, spoil := range []func(m *api.Rmc){
		func(m *api.Rmc) { m.Time.Sec = 60 }, func(m *api.Rmc) { m.Lat.N = 540000001 }, func(m *api.Rmc) { m.Lon.N = -1080000001 }, func(m *api.Rmc) { m.Speed.N = 1000000 }, func(m *api.Rmc) { m.Speed.N = -1 }, func(m *api.Rmc) { m.Course.N = 36001 }, func(m *api.Rmc) { m.Course.N = -1 }, func(m *api.Rmc) { m.Date.Day = 32 }, func(m *api.Rmc) { m.Date.Is = false },
		func(m *api.Rmc) { m.Var.N = 1801 }, func(m *api.Rmc) { m.Var.N = -1801 }, func(m *api.Rmc) { m.Var.N = -1 << 63 }, func(m *api.Rmc) { m.Var.Is = false }, func(m *api.Rmc) { m.Var = api.Num{N: 5} }, func(m *api.Rmc) { m.Speed.Is = false },
	} {
		m := full
		spoil(&m)
		if l, err := Put(m); err != api.ErrRange || len(l) != 0 {
			t.Error(i, l, err)
		}
	}
}

func TestTake(t *testing.T) { // P2603
	for _, s := range []string{text, text + ",", text + ",A", text + ",Z"} {
		if m, err := Take(cut(s)); err != 0 || m != full {
			t.Error(s, m, err)
		}
	}
	if m, err := Take(cut(",V,,,,,,,,,")); err != 0 || m != (api.Rmc{}) {
		t.Error("example", m, err)
	}
	if m, err := Take(cut(",A,,,,,,,,0,W")); err != 0 || m != (api.Rmc{Active: true, Var: num(0)}) {
		t.Error(m, err)
	}
	for _, c := range []struct {
		at   int
		s    string
		want api.Errno
	}{
		{0, "1", api.ErrForm}, {0, "240000", api.ErrRange}, {1, "", api.ErrForm}, {1, "a", api.ErrForm}, {1, "AV", api.ErrForm}, {2, "4860", api.ErrRange}, {3, "", api.ErrForm}, {4, "4804", api.ErrForm}, {5, "S", api.ErrForm}, {6, "10000", api.ErrForm}, {6, "-1", api.ErrRange}, {7, "360.01", api.ErrRange}, {7, "361", api.ErrRange}, {7, "x", api.ErrForm}, {7, "1000", api.ErrForm}, {7, "1.234", api.ErrForm}, {6, "1.234", api.ErrForm}, {9, "1000", api.ErrForm},
		{8, "23039", api.ErrForm}, {8, "320394", api.ErrRange}, {9, "180.1", api.ErrRange}, {9, "-1", api.ErrRange}, {9, "1.23", api.ErrForm}, {9, "", api.ErrForm}, {10, "", api.ErrForm}, {10, "N", api.ErrForm}, {10, "w", api.ErrForm}, {11, "a", api.ErrForm}, {11, "AA", api.ErrForm}, {11, "1", api.ErrForm}, {11, " ", api.ErrForm},
	} {
		l := cut(text + ",A")
		l[c.at] = c.s
		if m, err := Take(l); err != c.want || m != (api.Rmc{}) {
			t.Error(c, err)
		}
		l[11] = "x"
		if _, err := Take(l); c.at < 11 && err != c.want {
			t.Error("the first error", c, err)
		}
	}
	l := cut(",V,,,,,,,,,")
	l[10] = "E"
	if _, err := Take(l); err != api.ErrForm {
		t.Error("a side of nothing", err)
	}
	for _, n := range []int{0, 10, 13} {
		if m, err := Take(make([]string, n)); err != api.ErrForm || m != (api.Rmc{}) {
			t.Error(n, err)
		}
	}
}

func TestWhen(t *testing.T) { // P2604
	want, _ := clock.Count(full.Date, full.Time)
	if n, ok := When(full); n != want || !ok || n == 0 {
		t.Error(n)
	}
	if n, ok := When(api.Rmc{Date: full.Date}); n != 0 || ok {
		t.Error(n)
	}
}

func TestBack(t *testing.T) { // P2605
	r := rand.New(rand.NewSource(1))
	some := func(lo, hi int64) api.Num {
		switch r.Intn(4) {
		case 0:
			return api.Num{}
		case 1:
			return num([]int64{lo, hi}[r.Intn(2)])
		}
		return num(lo + r.Int63n(hi-lo+1))
	}
	for range 5000 {
		m := api.Rmc{Active: r.Intn(2) == 0, Lat: some(-540000000, 540000000), Lon: some(-1080000000, 1080000000), Speed: some(0, 999999), Course: some(0, 36000), Var: some(-1800, 1800)}
		if r.Intn(2) == 0 {
			m.Date, m.Time, _ = clock.Of(r.Int63n(1 << 38))
		}
		l, err := Put(m)
		if err != 0 || len(l) != 11 {
			t.Fatal(m, err)
		}
		was := slices.Clone(l)
		if got, err := Take(l); err != 0 || got != m || !slices.Equal(l, was) {
			t.Fatal(m, got, err)
		}
		i := r.Intn(11)
		if n := len(l[i]); n > 0 {
			b := []byte(l[i])
			b[r.Intn(n)] = "0.-W"[r.Intn(4)]
			l[i] = string(b)
		}
		if got, err := Take(l); err == 0 {
			again, err := Put(got)
			if back, err2 := Take(again); err != 0 || err2 != 0 || back != got {
				t.Fatal(l, again)
			}
			for i := range again {
				if len(again[i]) > len(l[i]) {
					t.Fatal(l, again)
				}
			}
		}
	}
}
