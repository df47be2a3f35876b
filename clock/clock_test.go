package clock

import (
	"math/rand"
	"testing"
	"time"

	"landfall/api"
)

func at(h, m, s, c int64) api.Clock { return api.Clock{Is: true, Hour: h, Min: m, Sec: s, Centis: c} }

func on(d, m, y int64) api.Date { return api.Date{Is: true, Day: d, Month: m, Year: y} }

func TestTime(t *testing.T) { // P2402, P2405
	for s, c := range map[string]api.Clock{"": {}, "123519": at(12, 35, 19, 0), "000000": at(0, 0, 0, 0), "235959.99": at(23, 59, 59, 99), "123519.5": at(12, 35, 19, 50), "123519.05": at(12, 35, 19, 5)} {
		if got, err := Put(c); got != s || err != 0 {
			t.Error(c, got, err)
		}
		if got, err := Take(s); got != c || err != 0 {
			t.Error(s, got, err)
		}
	}
	for s, c := range map[string]api.Clock{"123519.50": at(12, 35, 19, 50), "123519.0": at(12, 35, 19, 0), "123519.00": at(12, 35, 19, 0)} {
		if got, err := Take(s); got != c || err != 0 {
			t.Error(s, got, err)
		}
	}
	for _, c := range []api.Clock{{Hour: 1}, {Min: 1}, {Sec: -1}, {Centis: 5}, at(24, 0, 0, 0), at(-1, 0, 0, 0), at(0, 60, 0, 0), at(0, -1, 0, 0), at(0, 0, 60, 0), at(0, 0, -1, 0), at(0, 0, 0, 100), at(0, 0, 0, -1)} {
		if s, err := Put(c); s != "" || err != api.ErrRange {
			t.Error(c, s, err)
		}
	}
	for _, s := range []string{"12351", "1235190", "123519.", "123519.123", "123519,5", "12351a", " 23519", "-12351", "123519.a", "123519.5a", "123519.-1", "1", "12351９", "123519 ", "99999", "999999.", "a99999"} {
		if c, err := Take(s); c != (api.Clock{}) || err != api.ErrForm {
			t.Error(s, c, err)
		}
	}
	for _, s := range []string{"240000", "006000", "000060", "999999.99"} {
		if c, err := Take(s); c != (api.Clock{}) || err != api.ErrRange {
			t.Error(s, c, err)
		}
	}
}

func TestDate(t *testing.T) { // P2403, P2405
	for s, d := range map[string]api.Date{"": {}, "010100": on(1, 1, 2000), "311299": on(31, 12, 2099), "290204": on(29, 2, 2004), "230394": on(23, 3, 2094)} {
		if got, err := PutDate(d); got != s || err != 0 {
			t.Error(d, got, err)
		}
		if got, err := TakeDate(s); got != d || err != 0 {
			t.Error(s, got, err)
		}
	}
	for _, d := range []api.Date{{Day: 1}, {Month: 1}, {Year: 2000}, on(0, 1, 2000), on(32, 1, 2000), on(1, 0, 2000), on(1, 13, 2000), on(1, 1, 1999), on(1, 1, 2100), on(29, 2, 2001), on(31, 4, 2000)} {
		if s, err := PutDate(d); s != "" || err != api.ErrRange {
			t.Error(d, s, err)
		}
	}
	for _, s := range []string{"01010", "0101000", "01010a", "01 100", "-10100", "1", "010100.5"} {
		if d, err := TakeDate(s); d != (api.Date{}) || err != api.ErrForm {
			t.Error(s, d, err)
		}
	}
	for _, s := range []string{"000100", "320100", "010000", "011300", "290201", "310400"} {
		if d, err := TakeDate(s); d != (api.Date{}) || err != api.ErrRange {
			t.Error(s, d, err)
		}
	}
}

func TestDays(t *testing.T) { // P2403
	for year := int64(1998); year < 2103; year++ {
		for month := int64(-1); month < 15; month++ {
			want := int64(0)
			if year >= 2000 && year <= 2099 && month >= 1 && month <= 12 {
				want = int64(time.Date(int(year), time.Month(month+1), 0, 0, 0, 0, 0, time.UTC).Day())
			}
			if Days(month, year) != want {
				t.Error(month, year, Days(month, year))
			}
		}
	}
	if Days(1<<62, 2000) != 0 || Days(1, -1<<63) != 0 {
		t.Error("huge")
	}
}

func TestCount(t *testing.T) { // P2404, P2405
	if d, c, ok := Of(0); d != on(1, 1, 2000) || c != at(0, 0, 0, 0) || !ok {
		t.Error("example", d, c)
	}
	start := time.Date(2000, 1, 1, 0, 0, 0, 0, time.UTC)
	end := time.Date(2100, 1, 1, 0, 0, 0, 0, time.UTC).Sub(start).Milliseconds() / 10
	r := rand.New(rand.NewSource(1))
	last := int64(-1)
	for i := range 40000 {
		n := r.Int63n(end)
		if i < 36525 {
			n = int64(i)*8640000 + int64(i)*236
		}
		x := start.Add(time.Duration(n/100) * time.Second)
		wantD, wantC := on(int64(x.Day()), int64(x.Month()), int64(x.Year())), at(int64(x.Hour()), int64(x.Minute()), int64(x.Second()), n%100)
		d, c, ok := Of(n)
		if d != wantD || c != wantC || !ok {
			t.Fatal(n, d, c)
		}
		if back, ok := Count(d, c); back != n || !ok {
			t.Fatal(n, back)
		}
		if i < 36525 {
			if n <= last {
				t.Fatal(n)
			}
			last = n
		}
	}
	if n, ok := Count(on(31, 12, 2099), at(23, 59, 59, 99)); n != end-1 || !ok {
		t.Error(n, end)
	}
	for _, n := range []int64{-1, -1 << 63, end, 1<<63 - 1} {
		if d, c, ok := Of(n); ok || d != (api.Date{}) || c != (api.Clock{}) {
			t.Error(n, d, c)
		}
	}
	good, now := on(1, 1, 2000), at(0, 0, 0, 0)
	for _, x := range []struct {
		d api.Date
		c api.Clock
	}{{api.Date{}, now}, {good, api.Clock{}}, {on(32, 1, 2000), now}, {good, at(24, 0, 0, 0)}, {api.Date{Day: 1, Month: 1, Year: 2000}, now}, {good, api.Clock{Hour: 1}}, {on(1, 1, 1<<62), now}} {
		if n, ok := Count(x.d, x.c); n != 0 || ok {
			t.Error(x, n)
		}
	}
}
