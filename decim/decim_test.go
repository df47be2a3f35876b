package decim

import (
	"math/rand"
	"slices"
	"strconv"
	"strings"
	"testing"

	"landfall/api"
	"landfall/fix"
)

func num(n int64) api.Num { return api.Num{Is: true, N: n} }

func col(whole, most, frac int, lo, hi int64) api.Col {
	return api.Col{Whole: whole, Most: most, Frac: frac, Lo: lo, Hi: hi}
}

var right = []api.Col{col(1, 1, 0, 0, 9), col(1, 12, 6, -999999999999999999, 999999999999999999), col(12, 12, 0, -5, 5), col(3, 3, 1, -9999, 9999), col(1, 3, 2, -99999, 99999), col(1, 3, 2, 7, 7)}

var wrong = []api.Col{{}, col(0, 1, 0, 0, 0), col(2, 1, 0, 0, 0), col(1, 13, 0, 0, 0), col(1, 1, -1, 0, 0), col(1, 1, 7, 0, 0), col(1, 1, 0, 1, 0), col(1, 1, 0, 0, 10), col(1, 1, 0, -10, 0), col(1, 1, 1, 0, 100), col(1, 12, 6, -1<<63, 1<<63-1), col(1, 12, 6, 0, 1000000000000000000), col(-1, 1, 0, 0, 0), col(1, 1<<62, 1<<62, 0, 0)}

func TestRight(t *testing.T) { // words of chapter 23
	for _, c := range right {
		if !Right(c) {
			t.Error(c)
		}
	}
	for _, c := range wrong {
		if Right(c) {
			t.Error(c)
		}
		if s, err := Put(api.Num{N: 5}, c); s != "" || err != api.ErrArg {
			t.Error(c, err)
		}
		if n, err := Take("", c); n != (api.Num{}) || err != api.ErrArg {
			t.Error(c, err)
		}
	}
}

func TestPut(t *testing.T) { // P2302
	for _, c := range []struct {
		n    api.Num
		c    api.Col
		want string
		err  api.Errno
	}{
		{num(-5), col(1, 3, 2, -999, 999), "-0.05", 0}, {num(5), col(1, 3, 2, -999, 999), "0.05", 0}, {num(50), col(1, 3, 2, -999, 999), "0.5", 0}, {num(500), col(1, 3, 2, -999, 999), "5", 0}, {num(0), col(1, 3, 2, -999, 999), "0", 0},
		{num(0), col(3, 3, 2, -999, 999), "000", 0}, {num(-120), col(2, 3, 2, -999, 999), "-01.2", 0}, {num(12345), col(1, 3, 2, 0, 99999), "123.45", 0}, {num(7), col(3, 4, 0, 0, 9), "007", 0}, {num(1234), col(3, 4, 0, 0, 9999), "1234", 0},
		{api.Num{}, col(3, 4, 0, 1, 9), "", 0}, {api.Num{N: 1}, col(3, 4, 0, 1, 9), "", api.ErrRange}, {api.Num{N: -1}, col(3, 4, 0, -1, 9), "", api.ErrRange},
		{num(0), col(3, 4, 0, 1, 9), "", api.ErrRange}, {num(10), col(3, 4, 0, 1, 9), "", api.ErrRange}, {num(-1 << 63), col(3, 4, 0, 1, 9), "", api.ErrRange},
		{num(-999999999999999999), right[1], "-999999999999.999999", 0},
	} {
		if s, err := Put(c.n, c.c); s != c.want || err != c.err {
			t.Error(c, s, err)
		}
	}
}

func TestTake(t *testing.T) { // P2303
	two, none := col(2, 3, 2, -99999, 50000), col(1, 3, 0, 0, 500)
	for _, c := range []struct {
		s    string
		c    api.Col
		want api.Num
		err  api.Errno
	}{
		{"", two, api.Num{}, 0}, {"1", two, num(100), 0}, {"001", two, num(100), 0}, {"-1.2", two, num(-120), 0}, {"-0", two, num(0), 0}, {"-0.05", two, num(-5), 0}, {"0.00", two, num(0), 0}, {"500", two, num(50000), 0},
		{"500.01", two, api.Num{}, api.ErrRange}, {"-999.99", two, num(-99999), 0}, {"-", two, api.Num{}, api.ErrForm}, {".", two, api.Num{}, api.ErrForm}, {".5", two, api.Num{}, api.ErrForm}, {"5.", two, api.Num{}, api.ErrForm},
		{"1.234", two, api.Num{}, api.ErrForm}, {"1234", two, api.Num{}, api.ErrForm}, {"+1", two, api.Num{}, api.ErrForm}, {"--1", two, api.Num{}, api.ErrForm}, {" 1", two, api.Num{}, api.ErrForm}, {"1 ", two, api.Num{}, api.ErrForm}, {"1.2.3", two, api.Num{}, api.ErrForm}, {"1-", two, api.Num{}, api.ErrForm}, {"1,2", two, api.Num{}, api.ErrForm}, {"٣", two, api.Num{}, api.ErrForm}, {"0000", two, api.Num{}, api.ErrForm}, {"1.x", two, api.Num{}, api.ErrForm}, {"1.-", two, api.Num{}, api.ErrForm},
		{"1.", none, api.Num{}, api.ErrForm}, {"1.0", none, api.Num{}, api.ErrForm}, {"-1", none, api.Num{}, api.ErrRange}, {"501", none, api.Num{}, api.ErrRange}, {"500", none, num(500), 0}, {strings.Repeat("9", 50), none, api.Num{}, api.ErrForm},
		{"999999999999.999999", right[1], num(999999999999999999), 0},
	} {
		if n, err := Take(c.s, c.c); n != c.want || err != c.err {
			t.Error(c, n, err)
		}
	}
}

func TestAngle(t *testing.T) { // P2304, P2305
	for _, c := range []struct {
		n       api.Num
		lat     bool
		s, side string
		err     api.Errno
	}{
		{num(288423000), true, "4804.23", "N", 0}, {num(-288423000), true, "4804.23", "S", 0}, {num(288423000), false, "04804.23", "E", 0}, {num(-1), false, "00000.00001", "W", 0}, {num(0), true, "0000", "N", 0}, {num(0), false, "00000", "E", 0},
		{num(540000000), true, "9000", "N", 0}, {num(540000001), true, "", "", api.ErrRange}, {num(-540000001), true, "", "", api.ErrRange}, {num(-1080000000), false, "18000", "W", 0}, {num(1080000001), false, "", "", api.ErrRange},
		{api.Num{}, true, "", "", 0}, {api.Num{N: 5}, true, "", "", api.ErrRange}, {num(-1 << 63), false, "", "", api.ErrRange}, {num(5999999), true, "0059.99999", "N", 0},
	} {
		if s, side, err := Angle(c.n, c.lat); s != c.s || side != c.side || err != c.err {
			t.Error(c, s, side, err)
		}
	}
	for _, c := range []struct {
		s, side string
		lat     bool
		want    api.Num
		err     api.Errno
	}{
		{"4804.23", "N", true, num(288423000), 0}, {"4804.230", "S", true, num(-288423000), 0}, {"", "", true, api.Num{}, 0}, {"", "N", true, api.Num{}, api.ErrForm}, {"4804.23", "", true, api.Num{}, api.ErrForm}, {"4804.23", "E", true, api.Num{}, api.ErrForm}, {"04804.23", "N", false, api.Num{}, api.ErrForm}, {"04804.23", "E", false, num(288423000), 0},
		{"4804.23", "E", false, api.Num{}, api.ErrForm}, {"04804.23", "N", true, api.Num{}, api.ErrForm}, {"4804.", "N", true, api.Num{}, api.ErrForm}, {"4804.123456", "N", true, api.Num{}, api.ErrForm}, {"-804", "N", true, api.Num{}, api.ErrForm}, {"480", "N", true, api.Num{}, api.ErrForm}, {"4804", "n", true, api.Num{}, api.ErrForm}, {"4804", "NN", true, api.Num{}, api.ErrForm}, {"4804 ", "N", true, api.Num{}, api.ErrForm}, {"4804.2.3", "N", true, api.Num{}, api.ErrForm},
		{"4860", "N", true, api.Num{}, api.ErrRange}, {"4859.99999", "N", true, num(48*6000000 + 5999999), 0}, {"9000.00001", "N", true, api.Num{}, api.ErrRange}, {"9000", "S", true, num(-540000000), 0}, {"18000", "W", false, num(-1080000000), 0}, {"18000.1", "W", false, api.Num{}, api.ErrRange}, {"99999.99999", "E", false, api.Num{}, api.ErrRange}, {"0000", "S", true, num(0), 0}, {"4860", "E", true, api.Num{}, api.ErrForm},
	} {
		if n, err := TakeAngle(c.s, c.side, c.lat); n != c.want || err != c.err {
			t.Error(c, n, err)
		}
	}
}

func TestDegrees(t *testing.T) { // P2305
	r := rand.New(rand.NewSource(1))
	for range 3000 {
		n := int64(r.Uint64()) >> r.Intn(64)
		if Degrees(n) != fix.Over(5*max(-1080000000, min(1080000000, n)), 3) {
			t.Fatal(n)
		}
	}
	if Degrees(288423000) != 480705000 || Degrees(-1) != -2 || Degrees(1<<63-1) != 1800000000 || Degrees(-1<<63) != -1800000000 {
		t.Error("edges")
	}
}

func TestBack(t *testing.T) { // P2306
	r := rand.New(rand.NewSource(2))
	for range 20000 {
		most := 1 + r.Intn(12)
		c := col(1+r.Intn(most), most, r.Intn(7), 0, 0)
		end, _ := strconv.ParseInt(strings.Repeat("9", c.Most+c.Frac), 10, 64)
		c.Lo, c.Hi = -end, end
		n := num(r.Int63n(end+1) >> r.Intn(60))
		if r.Intn(2) == 0 {
			n.N = -n.N
		}
		s, err := Put(n, c)
		got, err2 := Take(s, c)
		if err != 0 || err2 != 0 || got != n {
			t.Fatal(n, c, s, got)
		}
		b := []byte(s)
		b[r.Intn(len(b))] = "0.-9"[r.Intn(4)]
		c.Whole = 1
		if x, err := Take(string(b), c); err == 0 {
			again, err := Put(x, c)
			if y, err2 := Take(again, c); err != 0 || err2 != 0 || y != x || len(again) > len(b) {
				t.Fatal(string(b), x, again)
			}
		}
		lat := r.Intn(2) == 0
		a := num(r.Int63n(540000001) >> r.Intn(30))
		if r.Intn(2) == 0 {
			a.N = -a.N
		}
		s, side, err := Angle(a, lat)
		if got, err2 := TakeAngle(s, side, lat); err != 0 || err2 != 0 || got != a {
			t.Fatal(a, s, side, got)
		}
	}
}

func TestPen(t *testing.T) { // P2307
	p := Row()
	p.Num(num(5), right[0])
	p.Angle(num(-1), true)
	p.Text("x", 0)
	p.Num(api.Num{}, right[0])
	p.Angle(api.Num{}, true)
	want := []string{"5", "0000.00001", "S", "x", "", "", ""}
	l, err := p.Done()
	if err != 0 || !slices.Equal(l, want) {
		t.Error(l, err)
	}
	l[0] = "changed"
	if l, err := p.Done(); err != 0 || !slices.Equal(l, want) {
		t.Error("shared", l)
	}
	for i, fail := range []func(*Pen){
		func(p *Pen) { p.Num(num(10), right[0]) }, func(p *Pen) { p.Angle(num(1<<40), false) }, func(p *Pen) { p.Text("", api.ErrRange) },
	} {
		p := Row()
		p.Text("a", 0)
		fail(p)
		p.Num(num(1), api.Col{})
		p.Text("b", api.ErrFull)
		if l, err := p.Done(); err != api.ErrRange || len(l) != 0 {
			t.Error(i, l, err)
		}
	}
	if l, err := Row().Done(); err != 0 || len(l) != 0 {
		t.Error(l, err)
	}
	for _, p := range []*Pen{nil, {}} {
		p.Num(num(5), right[0])
		p.Angle(num(5), true)
		p.Text("x", 0)
		if l, err := p.Done(); err != api.ErrArg || len(l) != 0 {
			t.Error(l, err)
		}
	}
}

func TestEye(t *testing.T) { // P2307
	l := []string{"5", "0000.00001", "S", "x,", "", "1"}
	r := Look(l)
	l[0] = "9"
	if r.Left() != 6 || r.Num(right[0]) != num(5) || r.Left() != 5 || r.Angle(true) != num(-1) || r.Text() != "x," || r.Num(right[0]) != (api.Num{}) || r.Left() != 1 || r.Err() != 0 {
		t.Error("in order")
	}
	r.Fail(api.OK)
	if r.Err() != 0 {
		t.Error("no failure")
	}
	r.Fail(api.ErrFull)
	r.Fail(api.ErrSum)
	if r.Num(right[0]) != num(1) || r.Err() != api.ErrFull || r.Text() != "" || r.Err() != api.ErrFull || r.Left() != 0 {
		t.Error("the first error is kept")
	}
	for i, c := range []struct {
		l    []string
		do   func(r *Eye)
		want api.Errno
	}{
		{nil, func(r *Eye) { r.Text() }, api.ErrForm}, {nil, func(r *Eye) { r.Num(right[0]) }, api.ErrForm}, {nil, func(r *Eye) { r.Num(api.Col{}) }, api.ErrForm}, {nil, func(r *Eye) { r.Angle(true) }, api.ErrForm}, {[]string{"9999"}, func(r *Eye) { r.Angle(true) }, api.ErrForm}, {[]string{""}, func(r *Eye) { r.Angle(true) }, api.ErrForm},
		{[]string{"x"}, func(r *Eye) { r.Num(right[0]) }, api.ErrForm}, {[]string{"10"}, func(r *Eye) { r.Num(right[5]) }, api.ErrRange}, {[]string{"9999", "N", "x"}, func(r *Eye) { r.Angle(true); r.Num(right[0]) }, api.ErrRange}, {[]string{"1"}, func(r *Eye) { r.Num(api.Col{}) }, api.ErrArg},
		{[]string{"x", "1"}, func(r *Eye) { r.Num(right[0]); r.Num(api.Col{}) }, api.ErrForm},
	} {
		r := Look(c.l)
		c.do(r)
		if r.Err() != c.want {
			t.Error(i, r.Err())
		}
	}
	for _, r := range []*Eye{nil, {}} {
		r.Fail(api.ErrFull)
		if r.Num(right[0]) != (api.Num{}) || r.Angle(true) != (api.Num{}) || r.Text() != "" || r.Left() != 0 || r.Err() != api.ErrArg {
			t.Error("no eye")
		}
	}
}
