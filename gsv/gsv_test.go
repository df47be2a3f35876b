package gsv

import (
	"math/rand"
	"slices"
	"strings"
	"testing"

	"landfall/api"
)

func num(n int64) api.Num { return api.Num{Is: true, N: n} }

func same(a, b api.Gsv) bool {
	return a.Total == b.Total && a.No == b.No && a.Seen == b.Seen && slices.Equal(a.L, b.L)
}

func cut(s string) []string { return strings.Split(s, ",") }

var full = api.Gsv{Total: 2, No: 1, Seen: 8, L: []api.View{{Id: num(1), Elev: num(40), Azim: num(83), Level: num(46)}, {Id: num(255), Azim: num(359)}, {}}}

var text = "2,1,8,1,40,83,46,255,,359,,,,,"

func TestPut(t *testing.T) { // P2902
	if l, err := Put(full); err != 0 || strings.Join(l, ",") != text {
		t.Error(l, err)
	}
	if l, err := Put(api.Gsv{Total: 9, No: 9}); err != 0 || strings.Join(l, ",") != "9,9,0" {
		t.Error(l, err)
	}
	one := func(v api.View) api.Gsv { return api.Gsv{Total: 1, No: 1, L: []api.View{{}, v}} }
	for i, c := range []struct {
		m    api.Gsv
		want api.Errno
	}{
		{api.Gsv{L: make([]api.View, 5)}, api.ErrLong}, {api.Gsv{Total: 1, No: 1, L: make([]api.View, 4)}, 0}, {api.Gsv{No: 1}, api.ErrRange}, {api.Gsv{Total: 10, No: 1}, api.ErrRange}, {api.Gsv{Total: 3}, api.ErrRange}, {api.Gsv{Total: 3, No: 4}, api.ErrRange}, {api.Gsv{Total: 3, No: -1}, api.ErrRange}, {api.Gsv{Total: 1 << 40, No: 5}, api.ErrRange},
		{api.Gsv{Total: 3, No: 3, Seen: 100}, api.ErrRange}, {api.Gsv{Total: 3, No: 3, Seen: -1}, api.ErrRange}, {one(api.View{Id: num(0)}), api.ErrRange}, {one(api.View{Id: num(256)}), api.ErrRange}, {one(api.View{Elev: num(91)}), api.ErrRange}, {one(api.View{Elev: num(-1)}), api.ErrRange}, {one(api.View{Azim: num(360)}), api.ErrRange}, {one(api.View{Level: num(100)}), api.ErrRange}, {one(api.View{Level: api.Num{N: 1}}), api.ErrRange},
	} {
		if l, err := Put(c.m); err != c.want || (err != 0) != (len(l) == 0) {
			t.Error(i, l, err)
		}
	}
}

func TestTake(t *testing.T) { // P2903
	if m, err := Take(cut(text)); err != 0 || !same(m, full) {
		t.Error(m, err)
	}
	for _, c := range []struct {
		at   int
		s    string
		want api.Errno
	}{
		{0, "", api.ErrForm}, {0, "x", api.ErrForm}, {0, "02", api.ErrForm}, {0, "0", api.ErrRange}, {1, "", api.ErrForm}, {1, "01", api.ErrForm}, {1, "0", api.ErrRange}, {1, "3", api.ErrRange}, {2, "", api.ErrForm}, {2, "-1", api.ErrRange}, {2, "100", api.ErrForm}, {2, "1.0", api.ErrForm},
		{3, "0", api.ErrRange}, {3, "256", api.ErrRange}, {4, "91", api.ErrRange}, {5, "360", api.ErrRange}, {6, "x", api.ErrForm}, {13, "400", api.ErrRange}, {14, "100", api.ErrForm}, {3, "1000", api.ErrForm}, {4, "100", api.ErrForm}, {5, "1000", api.ErrForm}, {6, "100", api.ErrForm}, {6, "1.0", api.ErrForm},
	} {
		l := cut(text)
		l[c.at] = c.s
		if m, err := Take(l); err != c.want || !same(m, api.Gsv{}) {
			t.Error(c, err)
		}
		l[14] = "x"
		if _, err := Take(l); c.at < 14 && err != c.want {
			t.Error("the first error", c, err)
		}
	}
	for n := range 30 {
		l := make([]string, n)
		for i := range l {
			l[i] = "1"
		}
		want := api.ErrForm
		if n >= 3 && n <= 19 && n%4 == 3 {
			want = 0
		}
		if m, err := Take(l); err != want || err == 0 && len(m.L) != (n-3)/4 {
			t.Error(n, err)
		}
	}
}

func TestBack(t *testing.T) { // P2905
	r := rand.New(rand.NewSource(1))
	some := func(lo, hi int64) api.Num {
		if r.Intn(3) == 0 {
			return api.Num{}
		}
		return num(lo + r.Int63n(hi-lo+1))
	}
	for range 3000 {
		m := api.Gsv{Total: 1 + r.Int63n(9), Seen: r.Int63n(100)}
		m.No = 1 + r.Int63n(m.Total)
		for range r.Intn(5) {
			m.L = append(m.L, api.View{Id: some(1, 255), Elev: some(0, 90), Azim: some(0, 359), Level: some(0, 99)})
		}
		l, err := Put(m)
		if err != 0 || len(l) != 3+4*len(m.L) {
			t.Fatal(m, err)
		}
		if got, err := Take(l); err != 0 || !same(got, m) {
			t.Fatal(m, got, err)
		}
		i := r.Intn(len(l))
		l[i] = "0" + l[i]
		if got, err := Take(l); err == 0 {
			again, err := Put(got)
			if back, err2 := Take(again); err != 0 || err2 != 0 || !same(back, got) {
				t.Fatal(l, again)
			}
			for i := range l {
				if len(again[i]) > len(l[i]) {
					t.Fatal(l, again)
				}
			}
		}
	}
}

func part(total, no int64, ids ...int64) api.Gsv {
	m := api.Gsv{Total: total, No: no}
	for _, i := range ids {
		m.L = append(m.L, api.View{Id: num(i)})
	}
	return m
}

func TestBook(t *testing.T) { // P2904
	k := New()
	waits := func(total, no int) {
		t.Helper()
		if a, b := k.Wait(); a != total || b != no {
			t.Error(a, b)
		}
	}
	add := func(m api.Gsv, done bool, ids ...int64) {
		t.Helper()
		l, ok := k.Add(m)
		if ok != done || !slices.Equal(l, part(0, 0, ids...).L) {
			t.Error(m, l, ok)
		}
	}
	waits(0, 0)
	add(part(1, 1), true)
	add(part(3, 1, 1, 2), false)
	waits(3, 2)
	add(part(3, 2), false)
	waits(3, 3)
	add(part(3, 3, 3, 4, 5, 6), true, 1, 2, 3, 4, 5, 6)
	waits(0, 0)
	add(part(3, 3, 3), false)
	waits(0, 0)
	for i, wrong := range []api.Gsv{part(3, 3), part(4, 2), part(3, 0), part(0, 0), part(10, 2), part(3, 4), part(-1, -1), part(3, 2, 1, 2, 3, 4, 5), part(1<<40, 2), part(10, 1), part(0, 1), part(-1, 1), part(2, 1, 1, 2, 3, 4, 5), part(1, 1, 1, 2, 3, 4, 5)} {
		add(part(3, 1, 7), false)
		add(wrong, false)
		waits(0, 0)
		add(part(3, 2), false)
		if a, b := k.Wait(); a != 0 || b != 0 {
			t.Error(i)
		}
	}
	add(part(3, 1, 7), false)
	add(part(2, 1, 8), false)
	waits(2, 2)
	add(part(2, 2, 9), true, 8, 9)
	add(part(3, 1, 7), false)
	add(part(1, 1, 8), true, 8)
	waits(0, 0)
}

func TestTogether(t *testing.T) { // P2906, P2901
	r := rand.New(rand.NewSource(2))
	k := New()
	for range 2000 {
		for range r.Intn(3) {
			k.Add(part(r.Int63n(11), r.Int63n(11), 1))
		}
		total := 1 + r.Int63n(9)
		var want []api.View
		for no := int64(1); no <= total; no++ {
			m := part(total, no, []int64{no, 2 * no, 3 * no, 4 * no}[:r.Intn(5)]...)
			want = append(want, m.L...)
			l, ok := k.Add(m)
			for i := range m.L {
				m.L[i] = api.View{}
			}
			if ok != (no == total) || ok && !slices.Equal(l, want) || !ok && len(l) != 0 {
				t.Fatal(total, no, l, want)
			}
			for i := range l {
				l[i] = api.View{}
			}
		}
	}
	for _, k := range []*Book{nil, {}} {
		l, ok := k.Add(part(1, 1, 1))
		if a, b := k.Wait(); ok || len(l) != 0 || a != 0 || b != 0 {
			t.Error("no book")
		}
	}
}
