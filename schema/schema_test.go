package schema

import (
	"bytes"
	"math/rand"
	"slices"
	"strconv"
	"strings"
	"testing"

	"landfall/api"
)

// message is a row of the document's table.
type message struct {
	id    int
	name  string
	parts []api.Part
}

func messages() []message {
	var l []message
	for _, line := range strings.Split(document, "\n") {
		w := strings.Split(strings.Trim(line, "| "), " | ")
		m := message{name: w[1]}
		m.id, _ = strconv.Atoi(w[0])
		for _, p := range strings.Split(w[2], "; ") {
			kind, name, _ := strings.Cut(p, " ")
			kind, many, _ := strings.Cut(strings.TrimSuffix(kind, "]"), "[")
			bits, _ := strconv.Atoi(kind[1:])
			n, _ := strconv.Atoi(many)
			m.parts = append(m.parts, api.Part{Name: name, Size: bits / 8, Signed: kind[0] == 'i', Many: n})
		}
		l = append(l, m)
	}
	return l
}

func TestForms(t *testing.T) { // P3102
	var ids []int
	for _, m := range messages() {
		ids = append(ids, m.id)
		count, width := 0, 0
		for _, p := range m.parts {
			count += max(1, p.Many)
			width += max(1, p.Many) * p.Size
		}
		if Name(m.id) != m.name || !slices.Equal(Parts(m.id), m.parts) || Count(m.id) != count || Width(m.id) != width {
			t.Error(m, Name(m.id), Parts(m.id), Count(m.id), Width(m.id))
		}
	}
	if !slices.Equal(Ids(), ids) || len(ids) != 22 || !slices.IsSorted(ids) {
		t.Error(Ids())
	}
	for id := -300; id < 600; id++ {
		if !slices.Contains(ids, id) && (Name(id) != "" || len(Parts(id)) != 0 || Count(id) != 0 || Width(id) != 0 || Extra(id) != 0) {
			t.Error(id)
		}
	}
	if Width(0) != 9 || Wire(Parts(0))[0].Name != "custom_mode" {
		t.Error("example")
	}
	Ids()[0], Parts(0)[0].Size = 7, 7
	if Ids()[0] != 0 || Parts(0)[0].Size != 1 {
		t.Error("shared")
	}
}

func TestWire(t *testing.T) { // P3102, P3106
	for _, m := range messages() {
		was := slices.Clone(m.parts)
		w := Wire(m.parts)
		if !slices.Equal(m.parts, was) {
			t.Error("changed")
		}
		var want []api.Part
		for _, size := range []int{8, 4, 2, 1} {
			for _, p := range m.parts {
				if p.Size == size {
					want = append(want, p)
				}
			}
		}
		if !slices.Equal(w, want) {
			t.Error(m.id, w)
		}
	}
	odd := []api.Part{{Name: "a", Size: -1}, {Name: "b", Size: 1 << 62}, {Name: "c"}, {Name: "d", Size: 1 << 62, Many: -5}, {Name: "e", Size: -1 << 63}}
	got := ""
	for _, p := range Wire(odd) {
		got += p.Name
	}
	if got != "bdcae" || len(Wire(nil)) != 0 {
		t.Error(got)
	}
}

func TestExtra(t *testing.T) { // P3103
	// What others who speak this protocol have for the messages that are known everywhere.
	for id, want := range map[int]byte{0: 50, 1: 124, 2: 137, 4: 237, 24: 24, 25: 23, 26: 170, 27: 144, 28: 67, 33: 104, 35: 244, 36: 222, 42: 28, 44: 221, 47: 153, 66: 148, 77: 143, 111: 34, 125: 203} {
		if Extra(id) != want {
			t.Error(id, Extra(id), want)
		}
	}
	for _, m := range messages() {
		text := m.name + " "
		for _, p := range Wire(m.parts) {
			u := "u"
			if p.Signed {
				u = ""
			}
			text += u + "int" + strconv.Itoa(8*p.Size) + "_t " + p.Name + " "
			if p.Many > 0 {
				text += string([]byte{byte(p.Many)})
			}
		}
		c := uint16(65535)
		for i := range len(text) {
			c ^= uint16(text[i])
			for range 8 {
				c = c>>1 ^ c&1*33800
			}
		}
		if Extra(m.id) != byte(c)^byte(c>>8) {
			t.Error(m.id)
		}
	}
}

func TestPut(t *testing.T) { // P3104
	if b, err := Put(0, []int64{1, 2, 3, 0x07060504, 8, 9}); err != 0 || !bytes.Equal(b, []byte{4, 5, 6, 7, 1, 2, 3, 8, 9}) {
		t.Error(b, err)
	}
	if v, err := Take(0, []byte{4, 5, 6, 7, 1, 2, 3, 8, 9}); err != 0 || !slices.Equal(v, []int64{1, 2, 3, 0x07060504, 8, 9}) {
		t.Error(v, err)
	}
	for i, c := range []struct {
		id   int
		v    []int64
		want api.Errno
	}{
		{3, nil, api.ErrKind}, {-1, nil, api.ErrKind}, {256, nil, api.ErrKind}, {42, nil, api.ErrArg}, {42, []int64{65536, 1}, api.ErrArg}, {42, []int64{65536}, api.ErrRange}, {42, []int64{-1}, api.ErrRange}, {111, []int64{-1, 1 << 62}, 0}, {2, []int64{-1, 0}, api.ErrRange}, {2, []int64{0, 1 << 32}, api.ErrRange},
	} {
		if b, err := Put(c.id, c.v); err != c.want || err != 0 && len(b) != 0 {
			t.Error(i, b, err)
		}
	}
	for i, c := range []struct {
		id   int
		n    int
		want api.Errno
	}{
		{3, 0, api.ErrKind}, {42, 1, api.ErrShort}, {42, 0, api.ErrShort}, {42, 3, api.ErrLong}, {2, 11, api.ErrShort}, {2, 13, api.ErrLong}, {2, 12, api.ErrRange},
	} {
		if v, err := Take(c.id, bytes.Repeat([]byte{255}, c.n)); err != c.want || len(v) != 0 {
			t.Error(i, v, err)
		}
	}
}

func TestBack(t *testing.T) { // P3105
	r := rand.New(rand.NewSource(1))
	for range 200 {
		for _, m := range messages() {
			var v []int64
			for _, p := range m.parts {
				for range max(1, p.Many) {
					n := int64(r.Uint64()) >> (64 - 8*p.Size)
					if !p.Signed {
						n &= int64(uint64(1)<<63-1) >> max(0, 63-8*p.Size)
					}
					v = append(v, n)
				}
			}
			b, err := Put(m.id, v)
			if err != 0 || len(b) != Width(m.id) {
				t.Fatal(m.id, v, err)
			}
			if got, err := Take(m.id, b); err != 0 || !slices.Equal(got, v) {
				t.Fatal(m.id, v, got)
			}
			r.Read(b)
			if got, err := Take(m.id, b); err == 0 {
				if again, err := Put(m.id, got); err != 0 || !bytes.Equal(again, b) {
					t.Fatal(m.id, b, again)
				}
			} else if err != api.ErrRange {
				t.Fatal(err)
			}
		}
	}
}
