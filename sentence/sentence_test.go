package sentence

import (
	"math/rand"
	"slices"
	"strings"
	"testing"

	"landfall/api"
	"landfall/parity"
)

func same(a, b api.Sentence) bool {
	return a.Talker == b.Talker && a.Type == b.Type && slices.Equal(a.Fields, b.Fields)
}

// sealed is a line with its right sum.
func sealed(s string) string { return "$" + parity.Seal(s) + "\r\n" }

func isLetter(c byte) bool {
	return c >= 32 && c <= 126 && !strings.ContainsRune("!$*\\^~", rune(c))
}

func TestPut(t *testing.T) { // P2202
	if s, err := Put(api.Sentence{Talker: "GP", Type: "GLL"}); s != "$GPGLL*50\r\n" || err != 0 {
		t.Error("example", s)
	}
	if s, err := Put(api.Sentence{Talker: "G7", Type: "0ZA", Fields: []string{"", "a b", ""}}); s != sealed("G70ZA,,a b,") || err != 0 {
		t.Error(s)
	}
	long := strings.Repeat("x", 100)
	for _, s := range []api.Sentence{{Type: "GLL"}, {Talker: "G", Type: "GLL"}, {Talker: "GPS", Type: "GLL"}, {Talker: "gP", Type: "GLL"}, {Talker: "G-", Type: "GLL"}, {Talker: "É", Type: "GLL"}, {Talker: "GP"}, {Talker: "GP", Type: "GL"}, {Talker: "GP", Type: "GLLL"}, {Talker: "GP", Type: "GLl"}, {Talker: "GP", Type: "GL,"}, {Talker: "GP", Type: "Gé"},
		{Talker: "GP", Type: "GLL", Fields: []string{long, ","}}, {Talker: "GP", Type: "GLL", Fields: []string{"a,"}}, {Talker: "GP", Type: "GLL", Fields: []string{"é"}}, {Talker: "GP", Type: "GLL", Fields: []string{"a\xff"}}} {
		if x, err := Put(s); err != api.ErrArg || x != "" {
			t.Error(s, err)
		}
	}
	for i := range 256 {
		s, err := Put(api.Sentence{Talker: "GP", Type: "GLL", Fields: []string{string([]byte{byte(i)})}})
		if want := isLetter(byte(i)) && i != ','; want != (err == 0) || want != (s != "") || !want && err != api.ErrArg {
			t.Error(i, err)
		}
	}
	for n := range 100 {
		s, err := Put(api.Sentence{Talker: "GP", Type: "GLL", Fields: []string{long[:n]}})
		if n <= 70 && (err != 0 || len(s) != 12+n) || n > 70 && (err != api.ErrLong || s != "") {
			t.Error(n, err)
		}
	}
}

func TestTake(t *testing.T) { // P2203
	long := strings.Repeat("x", 100)
	for i, c := range []struct {
		t    string
		want api.Errno
	}{
		{"", api.ErrShort}, {"G", api.ErrForm}, {"\r\n", api.ErrForm}, {"$", api.ErrShort}, {"$$", api.ErrForm}, {"$\n", api.ErrForm}, {"$\x7f", api.ErrForm}, {"$é", api.ErrForm}, {"$GP\\", api.ErrForm},
		{"$" + long[:80], api.ErrLong}, {"$" + long[:79], api.ErrShort}, {"$" + long[:80] + "\x01", api.ErrLong}, {"$" + long[:79] + "\x01", api.ErrForm},
		{"$" + long[:80] + "\r\n", api.ErrLong}, {"$" + long[:79] + "\r", api.ErrShort}, {"$" + long[:79] + "\r\n", api.ErrForm}, {"$" + long[:79] + "\r\r", api.ErrForm},
		{"$\r", api.ErrShort}, {"$\r\n", api.ErrForm}, {"$\rx", api.ErrForm}, {"$GPGLL*50\r", api.ErrShort}, {"$GPGLL*50\n", api.ErrForm}, {"$GPGLL*50\r\r\n", api.ErrForm}, {"$GPGLL*50", api.ErrShort},
		{"$GPGLL*51\r\n", api.ErrSum}, {"$GPGLL*5\r\n", api.ErrForm}, {"$GPGLL*500\r\n", api.ErrForm}, {"$GPGLL50\r\n", api.ErrForm}, {"$GPGLL*5G\r\n", api.ErrForm}, {"$GPGLL**50\r\n", api.ErrForm}, {"$*00\r\n", api.ErrForm}, {"$GPGLL,*\r\n", api.ErrForm},
		{sealed("GPGL"), api.ErrForm}, {sealed("GPGl,"), api.ErrForm}, {sealed("GPGLLx"), api.ErrForm}, {sealed("GPGLL,*"), api.ErrForm}, {sealed("GPGL,"), api.ErrForm}, {sealed("gPGLL"), api.ErrForm}, {sealed("GPGLL*41,"), api.ErrForm},
	} {
		if s, n, err := Take(c.t); err != c.want || n != 0 || !same(s, api.Sentence{}) {
			t.Error(i, c.t, err)
		}
	}
	for i := range 256 {
		_, _, err := Take("$" + string([]byte{byte(i)}))
		want := api.ErrForm
		if isLetter(byte(i)) || i == '*' || i == 13 {
			want = api.ErrShort
		}
		if err != want {
			t.Error(i, err)
		}
	}
	for text, want := range map[string]api.Sentence{
		"$GPGLL*50\r\n":              {Talker: "GP", Type: "GLL"},
		sealed("GPGLL,"):             {Talker: "GP", Type: "GLL", Fields: []string{""}},
		sealed("GPGLL,1,,b c,"):      {Talker: "GP", Type: "GLL", Fields: []string{"1", "", "b c", ""}},
		sealed("GPGLL," + long[:70]): {Talker: "GP", Type: "GLL", Fields: []string{long[:70]}},
	} {
		if s, n, err := Take(text); err != 0 || n != len(text) || !same(s, want) {
			t.Error(text, s, n, err)
		}
	}
	small := "$GPVTG,,,,,,,,*52\r\n"
	if _, n, err := Take(strings.ToLower(small[len(small)-4:]) + small); n != 0 || err != api.ErrForm {
		t.Error(n, err)
	}
	letters := sealed("GPGLL,j") // its sum has a letter
	low := letters[:len(letters)-4] + strings.ToLower(letters[len(letters)-4:])
	if s, n, err := Take(low); err != 0 || n != len(low) || !same(s, api.Sentence{Talker: "GP", Type: "GLL", Fields: []string{"j"}}) {
		t.Error(low, s, n, err)
	}
}

func TestBack(t *testing.T) { // P2204, P2205
	r := rand.New(rand.NewSource(1))
	for range 5000 {
		s := api.Sentence{Talker: []string{"GP", "GN", "Z9"}[r.Intn(3)], Type: []string{"GLL", "XYZ", "000"}[r.Intn(3)]}
		for range r.Intn(12) {
			f := ""
			for range r.Intn(6) {
				if c := byte(32 + r.Intn(95)); isLetter(c) && c != ',' {
					f += string(rune(c))
				}
			}
			s.Fields = append(s.Fields, f)
		}
		x, err := Put(s)
		if err != 0 {
			t.Fatal(err)
		}
		got, n, err := Take(x + "$\x00\r\n"[:r.Intn(4)])
		if !same(got, s) || n != len(x) || err != 0 {
			t.Fatal(x, got, n, err)
		}
		b := []byte(x + "\x00\r\n*00")
		for range r.Intn(3) {
			b[r.Intn(len(b))] = "$*\r\n,A0a\xff"[r.Intn(9)]
		}
		s1, n1, e1 := Take(string(b[:r.Intn(len(b)+1)]))
		if s2, n2, e2 := Take(string(b)); e1 != api.ErrShort && (!same(s1, s2) || n1 != n2 || e1 != e2) {
			t.Fatal(string(b), e1, e2)
		} else if e2 == 0 {
			again, err := Put(s2)
			if err != 0 || again[:n2-4] != string(b[:n2-4]) || again[n2-4:] != strings.ToUpper(string(b[n2-4:n2])) {
				t.Fatal(string(b), again)
			}
		}
	}
}
