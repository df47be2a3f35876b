package nmea

import (
	"math/rand"
	"slices"
	"strings"
	"testing"

	"landfall/api"
	"landfall/parity"
	"landfall/sentence"
)

func num(n int64) api.Num { return api.Num{Is: true, N: n} }

// full is a message all of whose parts are there.
func full(kind int) api.Nmea {
	return api.Nmea{
		Kind: kind, Talker: "GN",
		Gga: api.Gga{Lat: num(5), Lon: num(-5), Quality: 2},
		Rmc: api.Rmc{Active: true, Speed: num(7)},
		Gsa: api.Gsa{Fix: 2, Ids: []int64{3, 4}},
		Vtg: api.Vtg{Kmh: num(9)},
		Gsv: api.Gsv{Total: 2, No: 1, Seen: 3, L: []api.View{{Id: num(5)}, {Id: num(6)}}},
	}
}

// plain is full with its part alone.
func plain(kind int) api.Nmea {
	m, f := api.Nmea{Kind: kind, Talker: "GN"}, full(kind)
	switch kind {
	case 1:
		m.Gga = f.Gga
	case 2:
		m.Rmc = f.Rmc
	case 3:
		m.Gsa = f.Gsa
	case 4:
		m.Vtg = f.Vtg
	case 5:
		m.Gsv = f.Gsv
	}
	return m
}

func same(a, b api.Nmea) bool {
	return a.Kind == b.Kind && a.Talker == b.Talker && a.Gga == b.Gga && a.Rmc == b.Rmc && a.Vtg == b.Vtg &&
		a.Gsa.Auto == b.Gsa.Auto && a.Gsa.Fix == b.Gsa.Fix && slices.Equal(a.Gsa.Ids, b.Gsa.Ids) && a.Gsa.Pdop == b.Gsa.Pdop && a.Gsa.Hdop == b.Gsa.Hdop && a.Gsa.Vdop == b.Gsa.Vdop &&
		a.Gsv.Total == b.Gsv.Total && a.Gsv.No == b.Gsv.No && a.Gsv.Seen == b.Gsv.Seen && slices.Equal(a.Gsv.L, b.Gsv.L)
}

var types = []string{"", "GGA", "RMC", "GSA", "VTG", "GSV"}

func sealed(s string) string { return "$" + parity.Seal(s) + "\r\n" }

func TestPlain(t *testing.T) { // P3002, P3001
	for kind := -1; kind < 8; kind++ {
		f := full(kind)
		m := Plain(f)
		if !same(m, plain(kind)) {
			t.Error(kind, m)
		}
		if kind == 3 {
			m.Gsa.Ids[0] = 77
		}
		if kind == 5 {
			m.Gsv.L[0].Id.N = 77
		}
		if !same(f, full(kind)) {
			t.Error("shared")
		}
	}
}

func TestPutTake(t *testing.T) { // P3002
	for kind := 1; kind <= 5; kind++ {
		s, err := Put(full(kind))
		if err != 0 || s.Talker != "GN" || s.Type != types[kind] {
			t.Error(s, err)
		}
		if m, err := Take(s); err != 0 || !same(m, plain(kind)) {
			t.Error(m, err)
		}
		s.Talker = "whatever"
		if m, err := Take(s); err != 0 || m.Talker != "whatever" {
			t.Error(m, err)
		}
	}
	for _, c := range []struct {
		m    api.Nmea
		want api.Errno
	}{
		{full(0), api.ErrKind}, {full(6), api.ErrKind}, {full(-1), api.ErrKind}, {api.Nmea{Kind: 1, Gga: api.Gga{Quality: 9}}, api.ErrRange}, {api.Nmea{Kind: 2, Rmc: api.Rmc{Speed: num(-1)}}, api.ErrRange}, {api.Nmea{Kind: 3, Gsa: api.Gsa{Ids: make([]int64, 13)}}, api.ErrLong}, {api.Nmea{Kind: 4, Vtg: api.Vtg{Kmh: num(-1)}}, api.ErrRange}, {api.Nmea{Kind: 5, Gsv: api.Gsv{L: make([]api.View, 5)}}, api.ErrLong},
	} {
		if s, err := Put(c.m); err != c.want || s.Talker != "" || s.Type != "" || len(s.Fields) != 0 {
			t.Error(c, err)
		}
		if s, err := Encode(c.m); err != c.want || s != "" {
			t.Error(c, err)
		}
	}
	for _, c := range []struct {
		s    api.Sentence
		want api.Errno
	}{
		{api.Sentence{Talker: "GP", Type: "GLL"}, api.ErrKind}, {api.Sentence{Talker: "GP", Type: "gga"}, api.ErrKind}, {api.Sentence{Type: ""}, api.ErrKind}, {api.Sentence{Type: "GGA"}, api.ErrForm}, {api.Sentence{Type: "RMC"}, api.ErrForm}, {api.Sentence{Type: "GSA"}, api.ErrForm}, {api.Sentence{Type: "VTG"}, api.ErrForm}, {api.Sentence{Type: "GSV"}, api.ErrForm}, {api.Sentence{Type: "GSV", Fields: []string{"0", "1", "1"}}, api.ErrRange},
	} {
		if m, err := Take(c.s); err != c.want || !same(m, api.Nmea{}) {
			t.Error(c, err)
		}
	}
}

func TestEncode(t *testing.T) { // P3003, P3004
	if m, n, err := Decode("$GPVTG,,,,,,,,*52\r\n"); err != 0 || n != 19 || !same(m, api.Nmea{Kind: 4, Talker: "GP"}) {
		t.Error("example", m, n, err)
	}
	for kind := 1; kind <= 5; kind++ {
		x, err := Encode(full(kind))
		s, _ := Put(full(kind))
		if want, _ := sentence.Put(s); err != 0 || x != want {
			t.Error(x, err)
		}
		for _, tail := range []string{"", "$", "\x00\xff", x} {
			if m, n, err := Decode(x + tail); err != 0 || n != len(x) || !same(m, plain(kind)) {
				t.Error(x, m, n, err)
			}
		}
		for i := range x {
			if m, n, err := Decode(x[:i]); err != api.ErrShort || n != 0 || !same(m, api.Nmea{}) {
				t.Error(i, err)
			}
		}
		bad := full(kind)
		bad.Talker = "gp"
		if s, err := Encode(bad); err != api.ErrArg || s != "" {
			t.Error(s, err)
		}
	}
	long := api.Nmea{Kind: 1, Talker: "GP", Gga: api.Gga{Time: api.Clock{Is: true, Centis: 99}, Lat: num(-539999999), Lon: num(-1079999999), Sats: num(99), Hdop: num(99999), Alt: num(-9999999), Geoid: num(-99999), Age: num(99999), At: num(1023)}}
	if s, err := Encode(long); err != api.ErrLong || s != "" {
		t.Error(s, err)
	}
	for i, c := range []struct {
		t    string
		n    int
		want api.Errno
	}{
		{sealed("GPGLL,1"), 13, api.ErrKind}, {sealed("GPVTG,1"), 13, api.ErrForm}, {sealed("GPGSV,0,1,1"), 17, api.ErrRange}, {"", 0, api.ErrShort}, {"x", 0, api.ErrForm}, {"$GPGLL*51\r\n", 0, api.ErrSum}, {"$" + strings.Repeat("x", 90), 0, api.ErrLong},
	} {
		if m, n, err := Decode(c.t); err != c.want || n != c.n || !same(m, api.Nmea{}) {
			t.Error(i, n, err)
		}
	}
}

func TestAgain(t *testing.T) { // P3005
	lines := []string{
		"GPGGA,123519,4807.038,N,01131.000,E,1,08,0.9,545.4,M,46.9,M,,",
		"GPGGA,123519.00,4807.0380,N,01131.00,E,1,08,0.90,0545.40,M,-0,M,0.0,0000",
		"GPRMC,123519,A,4807.038,N,01131.000,E,022.4,084.4,230394,003.1,W", "GPRMC,123519.10,V,,,,,,,,,,N",
		"GPGSA,A,3,04,05,,09,12,,,24,,,,,2.5,1.3,2.1", "GPVTG,054.7,T,034.4,M,005.5,N,010.2,K,A", "GPVTG,,T,,M,,N,,K",
		"GPGSV,2,1,08,01,40,083,46,02,17,308,41,12,07,344,39,14,22,228,45",
	}
	r := rand.New(rand.NewSource(1))
	good := 0
	for range 30000 {
		b := []byte(lines[r.Intn(len(lines))])
		for range r.Intn(4) {
			b[6+r.Intn(len(b)-6)] = "0123456789.,-MAVNSEW"[r.Intn(20)]
		}
		x := sealed(string(b))
		m, n, err := Decode(x)
		if err != 0 {
			continue
		}
		good++
		again, err := Encode(m)
		back, k, err2 := Decode(again)
		if err != 0 || err2 != 0 || n != len(x) || len(again) > n || k != len(again) || !same(back, m) {
			t.Fatal(x, again, err, err2)
		}
	}
	if good < 1000 {
		t.Error(good)
	}
}
