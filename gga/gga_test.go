package gga

import (
	"math/rand"
	"slices"
	"strings"
	"testing"

	"landfall/api"
)

func num(n int64) api.Num { return api.Num{Is: true, N: n} }

var full = api.Gga{Time: api.Clock{Is: true, Hour: 12, Min: 35, Sec: 19}, Lat: num(288423000), Lon: num(-69100000), Quality: 1, Sats: num(8), Hdop: num(90), Alt: num(5454), Geoid: num(-469), Age: num(15), At: num(7)}

var text = "123519,4804.23,N,01131,W,1,8,0.9,545.4,M,-46.9,M,1.5,7"

func cut(s string) []string { return strings.Split(s, ",") }

func TestPut(t *testing.T) { // P2502
	if l, err := Put(full); err != 0 || strings.Join(l, ",") != text {
		t.Error(l, err)
	}
	if l, err := Put(api.Gga{}); err != 0 || strings.Join(l, ",") != ",,,,,0,,,,,,,," || len(l) != 14 {
		t.Error(l, err)
	}
	small := api.Gga{Sats: num(5), Hdop: num(5), Alt: num(-5), Geoid: num(5), Age: num(5), At: num(5)}
	if l, err := Put(small); err != 0 || strings.Join(l, ",") != ",,,,,0,5,0.05,-0.5,M,0.5,M,0.5,5" {
		t.Error(l, err)
	}
	for i, spoil := range []func(g *api.Gga){
		func(g *api.Gga) { g.Time.Hour = 24 }, func(g *api.Gga) { g.Lat.N = 540000001 }, func(g *api.Gga) { g.Lon.N = -1080000001 }, func(g *api.Gga) { g.Quality = 9 }, func(g *api.Gga) { g.Quality = -1 }, func(g *api.Gga) { g.Sats.N = 100 }, func(g *api.Gga) { g.Sats.N = -1 },
		func(g *api.Gga) { g.Hdop.N = 100000 }, func(g *api.Gga) { g.Alt.N = 10000000 }, func(g *api.Gga) { g.Alt.N = -10000000 }, func(g *api.Gga) { g.Geoid.N = 100000 }, func(g *api.Gga) { g.Geoid.N = -100000 }, func(g *api.Gga) { g.Age.N = 100000 }, func(g *api.Gga) { g.Age.N = -1 }, func(g *api.Gga) { g.At.N = 1024 },
		func(g *api.Gga) { g.Alt.Is = false }, func(g *api.Gga) { g.Lat.Is = false }, func(g *api.Gga) { g.Time.Is = false },
	} {
		g := full
		spoil(&g)
		if l, err := Put(g); err != api.ErrRange || len(l) != 0 {
			t.Error(i, l, err)
		}
	}
}

func TestTake(t *testing.T) { // P2503
	if g, err := Take(cut(text)); err != 0 || g != full {
		t.Error(g, err)
	}
	if g, err := Take(cut(",,,,,0,,,,,,,,")); err != 0 || g != (api.Gga{}) {
		t.Error("example", g, err)
	}
	if g, err := Take(cut(",,,,,0,,,,M,,M,,")); err != 0 || g != (api.Gga{}) {
		t.Error("units behind nothing", g, err)
	}
	for _, c := range []struct {
		at   int
		s    string
		want api.Errno
	}{
		{0, "1235", api.ErrForm}, {0, "246060", api.ErrRange}, {1, "", api.ErrForm}, {1, "4860", api.ErrRange}, {2, "E", api.ErrForm}, {2, "", api.ErrForm}, {3, "x", api.ErrForm}, {4, "N", api.ErrForm}, {3, "18100", api.ErrRange},
		{5, "", api.ErrForm}, {5, "9", api.ErrRange}, {5, "10", api.ErrForm}, {5, "a", api.ErrForm}, {5, "-1", api.ErrForm}, {6, "100", api.ErrForm}, {6, "-1", api.ErrRange}, {6, "1.", api.ErrForm}, {7, "1000", api.ErrForm}, {7, "-1", api.ErrRange},
		{8, "1.23", api.ErrForm}, {8, "1234567", api.ErrForm}, {6, "123", api.ErrForm}, {7, "1.234", api.ErrForm}, {10, "12345", api.ErrForm}, {10, "1.23", api.ErrForm}, {12, "12345", api.ErrForm}, {12, "1.23", api.ErrForm}, {13, "1.0", api.ErrForm}, {9, "m", api.ErrForm}, {9, "", api.ErrForm}, {9, "F", api.ErrForm}, {11, "", api.ErrForm}, {11, "MM", api.ErrForm}, {10, "10000", api.ErrForm}, {12, "-1", api.ErrRange}, {13, "1024", api.ErrRange}, {13, "12345", api.ErrForm},
	} {
		l := cut(text)
		l[c.at] = c.s
		if g, err := Take(l); err != c.want || g != (api.Gga{}) {
			t.Error(c, err)
		}
		// The first error is told, and a worse form behind it is not.
		l[13] = "x"
		if c.at < 13 && c.want == api.ErrRange {
			if _, err := Take(l); err != api.ErrRange {
				t.Error(c, err)
			}
		}
	}
	l := cut(text)
	l[8] = ""
	if g, err := Take(l); err != 0 || g.Alt.Is {
		t.Error(err)
	}
	l[9] = "x"
	if _, err := Take(l); err != api.ErrForm {
		t.Error(err)
	}
	for _, n := range []int{0, 13, 15} {
		if g, err := Take(make([]string, n)); err != api.ErrForm || g != (api.Gga{}) {
			t.Error(n, err)
		}
	}
}

func TestBack(t *testing.T) { // P2504
	r := rand.New(rand.NewSource(1))
	some := func(lo, hi int64) api.Num {
		switch r.Intn(4) {
		case 0:
			return api.Num{}
		case 1:
			return num([]int64{lo, hi}[r.Intn(2)])
		}
		return num(lo + r.Int63n(hi-lo+1))
	}
	for range 5000 {
		g := api.Gga{Lat: some(-540000000, 540000000), Lon: some(-1080000000, 1080000000), Quality: r.Int63n(9), Sats: some(0, 99), Hdop: some(0, 99999), Alt: some(-9999999, 9999999), Geoid: some(-99999, 99999), Age: some(0, 99999), At: some(0, 1023)}
		if r.Intn(2) == 0 {
			g.Time = api.Clock{Is: true, Hour: r.Int63n(24), Min: r.Int63n(60), Sec: r.Int63n(60), Centis: r.Int63n(100)}
		}
		l, err := Put(g)
		if err != 0 || len(l) != 14 {
			t.Fatal(g, err)
		}
		was := slices.Clone(l)
		if got, err := Take(l); err != 0 || got != g || !slices.Equal(l, was) {
			t.Fatal(g, got, err)
		}
		i := r.Intn(14)
		if n := len(l[i]); n > 0 {
			b := []byte(l[i])
			b[r.Intn(n)] = "0.-M"[r.Intn(4)]
			l[i] = string(b)
		} else {
			l[i] = "M"
		}
		if got, err := Take(l); err == 0 {
			again, err := Put(got)
			if back, err2 := Take(again); err != 0 || err2 != 0 || back != got {
				t.Fatal(l, again)
			}
			for i := range l {
				if len(again[i]) > len(l[i]) {
					t.Fatal(l, again)
				}
			}
		}
	}
}
