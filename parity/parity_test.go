package parity

import (
	"math/rand"
	"strconv"
	"strings"
	"testing"
)

func TestOf(t *testing.T) { // P702
	if Of("GPGLL") != 80 || Of("") != 0 || Of("\xff\x0f") != 0xf0 || Of("é") != 0xc3^0xa9 {
		t.Error("Of")
	}
}

func TestHex(t *testing.T) { // P702
	for b := range 256 {
		h := Hex(byte(b))
		want := strings.ToUpper(strconv.FormatInt(int64(b), 16))
		if len(want) == 1 {
			want = "0" + want
		}
		if h != want {
			t.Fatal(b, h)
		}
		for _, s := range []string{h, strings.ToLower(h), h[:1] + strings.ToLower(h[1:])} {
			if u, ok := Unhex(s); int(u) != b || !ok {
				t.Fatal(s, u)
			}
		}
	}
	for i := range 256 {
		c := string([]byte{byte(i)})
		want := strings.Contains("0123456789abcdefABCDEF", c)
		for _, s := range []string{c + "0", "0" + c} {
			if u, ok := Unhex(s); ok != want || !ok && u != 0 {
				t.Fatal(s, u, ok)
			}
		}
	}
	for _, s := range []string{"", "0", "000", "é", " 1", "+1", "-1", "0x"} {
		if u, ok := Unhex(s); ok || u != 0 {
			t.Error(s)
		}
	}
}

func TestSeal(t *testing.T) { // P703, P704
	if Seal("A") != "A*41" || Seal("") != "*00" || Seal("GPGLL") != "GPGLL*50" {
		t.Error("examples")
	}
	r := rand.New(rand.NewSource(1))
	for range 3000 {
		b := make([]byte, r.Intn(30))
		r.Read(b)
		if r.Intn(4) == 0 && len(b) > 2 {
			b[len(b)-2] = '*'
		}
		x := Seal(string(b))
		if o, ok := Open(x); o != string(b) || !ok {
			t.Fatal(x)
		}
		if o, ok := Open(x[:len(b)] + strings.ToLower(x[len(b):])); o != string(b) || !ok {
			t.Fatal(x)
		}
		if len(b) > 0 {
			y := []byte(x)
			y[r.Intn(len(b))] ^= byte(1 + r.Intn(255))
			if o, ok := Open(string(y)); ok || o != "" {
				t.Fatal(x, y)
			}
		}
	}
	for _, s := range []string{"", "*", "*0", "00", "A*4", "A*42", "A41", "A*4G", "A+41", "*000", "A*41 ", "A* 41"} {
		if o, ok := Open(s); ok || o != "" {
			t.Error(s)
		}
	}
}
