package gsa

import (
	"math/rand"
	"slices"
	"strings"
	"testing"

	"landfall/api"
)

func num(n int64) api.Num { return api.Num{Is: true, N: n} }

func same(a, b api.Gsa) bool {
	return a.Auto == b.Auto && a.Fix == b.Fix && slices.Equal(a.Ids, b.Ids) && a.Pdop == b.Pdop && a.Hdop == b.Hdop && a.Vdop == b.Vdop
}

func cut(s string) []string { return strings.Split(s, ",") }

var full = api.Gsa{Auto: true, Fix: 3, Ids: []int64{4, 5, 9, 255, 1}, Pdop: num(250), Hdop: num(130), Vdop: num(210)}

var text = "A,3,4,5,9,255,1,,,,,,,,2.5,1.3,2.1"

func TestPut(t *testing.T) { // P2702
	if l, err := Put(full); err != 0 || strings.Join(l, ",") != text {
		t.Error(l, err)
	}
	if l, err := Put(api.Gsa{Fix: 1}); err != 0 || strings.Join(l, ",") != "M,1,,,,,,,,,,,,,,," {
		t.Error(l, err)
	}
	twelve := []int64{1, 2, 3, 4, 5, 6, 7, 8, 9, 10, 11, 12}
	if l, err := Put(api.Gsa{Fix: 2, Ids: twelve}); err != 0 || strings.Join(l, ",") != "M,2,1,2,3,4,5,6,7,8,9,10,11,12,,," {
		t.Error(l, err)
	}
	if l, err := Put(api.Gsa{Fix: 1, Pdop: num(5), Vdop: num(99999)}); err != 0 || l[14] != "0.05" || l[16] != "999.99" {
		t.Error(l, err)
	}
	for i, c := range []struct {
		m    api.Gsa
		want api.Errno
	}{
		{api.Gsa{Ids: append(twelve, 0)}, api.ErrLong}, {api.Gsa{}, api.ErrRange}, {api.Gsa{Fix: 4}, api.ErrRange}, {api.Gsa{Fix: -1 << 63}, api.ErrRange}, {api.Gsa{Fix: 1, Ids: []int64{0}}, api.ErrRange}, {api.Gsa{Fix: 1, Ids: []int64{1, 256}}, api.ErrRange},
		{api.Gsa{Fix: 1, Pdop: num(-1)}, api.ErrRange}, {api.Gsa{Fix: 1, Hdop: num(100000)}, api.ErrRange}, {api.Gsa{Fix: 1, Vdop: api.Num{N: 1}}, api.ErrRange},
	} {
		if l, err := Put(c.m); err != c.want || len(l) != 0 {
			t.Error(i, l, err)
		}
	}
}

func TestTake(t *testing.T) { // P2703
	if m, err := Take(cut(text)); err != 0 || !same(m, full) {
		t.Error(m, err)
	}
	if m, err := Take(cut("A,1,,,,,,,,,,,,,,,")); err != 0 || !same(m, api.Gsa{Auto: true, Fix: 1}) {
		t.Error("example", m, err)
	}
	if m, err := Take(cut("M,2,,,7,,,,008,,,,,1,,,")); err != 0 || !same(m, api.Gsa{Fix: 2, Ids: []int64{7, 8, 1}}) {
		t.Error("wherever they stand", m, err)
	}
	for _, c := range []struct {
		at   int
		s    string
		want api.Errno
	}{
		{0, "", api.ErrForm}, {0, "V", api.ErrForm}, {0, "AM", api.ErrForm}, {1, "", api.ErrForm}, {1, "x", api.ErrForm}, {1, "12", api.ErrForm}, {1, "0", api.ErrRange}, {1, "4", api.ErrRange}, {1, "9", api.ErrRange},
		{2, "0", api.ErrRange}, {2, "256", api.ErrRange}, {2, "1000", api.ErrForm}, {13, "x", api.ErrForm}, {13, "1.0", api.ErrForm}, {14, "-1", api.ErrRange}, {15, "1000", api.ErrForm}, {16, "1.234", api.ErrForm},
	} {
		l := cut(text)
		l[c.at] = c.s
		if m, err := Take(l); err != c.want || !same(m, api.Gsa{}) {
			t.Error(c, err)
		}
		l[16] = "x"
		if _, err := Take(l); c.at < 16 && err != c.want {
			t.Error("the first error", c, err)
		}
	}
	for _, n := range []int{0, 16, 18} {
		if m, err := Take(make([]string, n)); err != api.ErrForm || !same(m, api.Gsa{}) {
			t.Error(n, err)
		}
	}
}

func TestBack(t *testing.T) { // P2704
	r := rand.New(rand.NewSource(1))
	some := func() api.Num {
		if r.Intn(3) == 0 {
			return api.Num{}
		}
		return num(r.Int63n(100000))
	}
	for range 3000 {
		m := api.Gsa{Auto: r.Intn(2) == 0, Fix: 1 + r.Int63n(3), Pdop: some(), Hdop: some(), Vdop: some()}
		for range r.Intn(13) {
			m.Ids = append(m.Ids, 1+r.Int63n(255))
		}
		l, err := Put(m)
		if err != 0 || len(l) != 17 {
			t.Fatal(m, err)
		}
		if got, err := Take(l); err != 0 || !same(got, m) {
			t.Fatal(m, got, err)
		}
		l[2+r.Intn(12)] = []string{"", "001", "17"}[r.Intn(3)]
		if got, err := Take(l); err == 0 {
			again, err := Put(got)
			if back, err2 := Take(again); err != 0 || err2 != 0 || !same(back, got) || len(strings.Join(again, ",")) > len(strings.Join(l, ",")) {
				t.Fatal(l, again)
			}
		}
	}
}
