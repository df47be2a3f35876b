package probe

import (
	"bytes"
	"math/rand"
	"reflect"
	"testing"

	"landfall/api"
	"landfall/frame"
	"landfall/nmea"
	"landfall/parity"
	"landfall/tlm"
	"landfall/ubx"
)

// messages are some whole ones, good and odd, of all protocols.
func messages() [][]byte {
	one, _ := ubx.Encode(api.Ubx{Kind: 4, Ack: api.Ack{Yes: true, Class: 6, Id: 1}})
	two, _ := nmea.Encode(api.Nmea{Kind: 3, Talker: "GP", Gsa: api.Gsa{Fix: 1, Ids: []int64{3}}})
	three, _ := tlm.Put(api.Packet{Seq: 9, Msg: api.Msg{Id: 42, V: []int64{5}}})
	oddOne, _ := frame.Put(api.Frame{Class: 1, Id: 3})
	oddTwo := []byte("$" + parity.Seal("GPGLL") + "\r\n")
	oddThree, _ := tlm.Put(api.Packet{Msg: api.Msg{Id: 2, V: []int64{1<<63 - 1, 0}}})
	oddThree[13] = 255
	for c := range 65536 { // the sum that makes it odd
		oddThree[18], oddThree[19] = byte(c), byte(c>>8)
		if _, n, _ := tlm.Take(oddThree); n > 0 {
			break
		}
	}
	big, _ := frame.Put(api.Frame{Class: 9, Id: 9, Payload: make([]byte, 1016)})
	return [][]byte{one, []byte(two), three, oddOne, oddTwo, oddThree, big}
}

func TestProto(t *testing.T) { // P3802
	for c := range 256 {
		want := map[int]int{181: 1, 36: 2, 254: 3}[c]
		if Proto(byte(c)) != want {
			t.Error(c)
		}
	}
	if Wait != 0 || Drop != 1 || Take != 2 {
		t.Error("what is to be done")
	}
}

// decoded is what the document says of b.
func decoded(b []byte) Verdict {
	if len(b) == 0 {
		return Verdict{}
	}
	var n int
	var err api.Errno
	item := api.Item{Proto: Proto(b[0])}
	switch item.Proto {
	case 0:
		return Verdict{Do: 1, Why: api.ErrForm}
	case 1:
		item.Ubx, n, err = ubx.Decode(b)
	case 2:
		item.Nmea, n, err = nmea.Decode(string(b))
	case 3:
		item.Tlm, n, err = tlm.Take(b)
	}
	switch {
	case n > 0 && err == 0:
		return Verdict{Do: 2, Proto: item.Proto, Size: n, Item: item}
	case n > 0:
		return Verdict{Do: 2, Proto: item.Proto, Size: n, Why: err, Item: api.Item{Proto: item.Proto, Odd: true}}
	case err == api.ErrShort:
		return Verdict{Proto: item.Proto}
	}
	return Verdict{Do: 1, Proto: item.Proto, Why: err}
}

func same(a, b Verdict) bool {
	return a.Do == b.Do && a.Proto == b.Proto && a.Size == b.Size && a.Why == b.Why && Same(a.Item, b.Item)
}

func TestAt(t *testing.T) { // P3803
	if v := At([]byte{0}); !same(v, Verdict{Do: Drop, Why: api.ErrForm}) {
		t.Error("example", v)
	}
	if v := At([]byte{181, 98}); !same(v, Verdict{Do: Wait, Proto: 1}) {
		t.Error("example", v)
	}
	if v := At(nil); !same(v, Verdict{}) {
		t.Error("nothing", v)
	}
	why := []api.Errno{0, 0, 0, api.ErrKind, api.ErrKind, api.ErrRange, api.ErrKind}
	for i, m := range messages() {
		v := At(m)
		if v.Do != Take || v.Size != len(m) || v.Why != why[i] || v.Item.Odd != (why[i] != 0) || v.Proto != []int{1, 2, 3, 1, 2, 3, 1}[i] || v.Item.Proto != v.Proto || !same(v, decoded(m)) {
			t.Error(i, v)
		}
		for k := range m {
			want := Verdict{Proto: v.Proto}
			if k == 0 {
				want.Proto = 0
			}
			if v := At(m[:k]); !same(v, want) {
				t.Fatal(i, k, v)
			}
		}
	}
	for b, want := range map[string]Verdict{"\xb5a": {Do: Drop, Proto: 1, Why: api.ErrForm}, "\xb5b\x01\x01\xf9\x03": {Do: Drop, Proto: 1, Why: api.ErrLong}, "\xb5b\x01\x01\x00\x00\x00\x00": {Do: Drop, Proto: 1, Why: api.ErrSum}, "$GPGLL*51\r\n": {Do: Drop, Proto: 2, Why: api.ErrSum}, "$$": {Do: Drop, Proto: 2, Why: api.ErrForm}, "\xfe\x00\x00\x00\x00\x03": {Do: Drop, Proto: 3, Why: api.ErrKind}} {
		if v := At([]byte(b)); !same(v, want) {
			t.Errorf("%q %v", b, v)
		}
	}
}

func TestSteady(t *testing.T) { // P3805, P3806, P3801
	r := rand.New(rand.NewSource(1))
	ms := messages()
	for range 5000 {
		b := bytes.Clone(ms[r.Intn(len(ms))])
		for range r.Intn(4) {
			b[r.Intn(min(len(b), 9))] = []byte{181, 36, 254, 98, 0, 1, 13, 10, 42, byte(r.Int())}[r.Intn(10)]
		}
		tail := make([]byte, r.Intn(1200))
		r.Read(tail)
		b = append(b, tail...)
		was := bytes.Clone(b)
		v := At(b)
		if !same(v, decoded(b)) || !bytes.Equal(b, was) {
			t.Fatal(b, v)
		}
		if v.Do == Take && (v.Size < 8 || v.Size > 1024 || v.Size > len(b)) || v.Do == Wait && len(b) >= 1024 {
			t.Fatal(v, len(b))
		}
		if w := At(b[:r.Intn(len(b))]); w.Do != Wait && !same(v, w) {
			t.Fatal(v, w)
		}
	}
	for _, c := range []byte{181, 36, 254} {
		for _, fill := range []byte{0, 'A', 255, c} {
			b := bytes.Repeat([]byte{fill}, 1024)
			b[0] = c
			if c == 181 {
				b[1] = 98
				b[4], b[5] = 0xf8, 3
			}
			if At(b).Do == Wait {
				t.Error(c, fill)
			}
		}
	}
}

func TestSame(t *testing.T) { // P3804
	full := func() api.Item {
		return api.Item{
			Ubx:  api.Ubx{Sats: api.Sats{L: make([]api.Sat, 2)}, Set: api.Valset{L: make([]api.Pair, 2)}},
			Nmea: api.Nmea{Gsa: api.Gsa{Ids: make([]int64, 2)}, Gsv: api.Gsv{L: make([]api.View, 2)}},
			Tlm:  api.Packet{Msg: api.Msg{V: make([]int64, 2)}},
		}
	}
	if !Same(full(), full()) || !Same(api.Item{}, api.Item{Tlm: api.Packet{Msg: api.Msg{V: []int64{}}}}) {
		t.Error("alike")
	}
	// Each number, text and bool of an item, changed, makes it another one.
	count := 0
	var each func(v reflect.Value, check func())
	each = func(v reflect.Value, check func()) {
		switch v.Kind() {
		case reflect.Struct:
			for i := range v.NumField() {
				each(v.Field(i), check)
			}
		case reflect.Slice:
			for i := range v.Len() {
				each(v.Index(i), check)
			}
			whole := reflect.ValueOf(v.Interface())
			v.Set(whole.Slice(0, 1))
			check()
			v.Set(whole)
		case reflect.String:
			v.SetString("x")
			check()
			v.SetString("")
		case reflect.Bool:
			v.SetBool(true)
			check()
			v.SetBool(false)
		default:
			v.SetInt(1)
			check()
			v.SetInt(0)
		}
	}
	a := full()
	each(reflect.ValueOf(&a).Elem(), func() {
		count++
		if Same(a, full()) || Same(full(), a) {
			t.Error(a)
		}
	})
	if count < 100 {
		t.Error(count)
	}
}
