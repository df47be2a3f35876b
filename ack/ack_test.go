package ack

import (
	"bytes"
	"math/rand"
	"slices"
	"testing"

	"landfall/api"
)

func TestPutTake(t *testing.T) { // P1902
	for _, yes := range []bool{true, false} {
		a := api.Ack{Yes: yes, Class: 6, Id: 255}
		b, err := Put(a)
		if err != 0 || !bytes.Equal(b, []byte{6, 255}) {
			t.Error(b, err)
		}
		if got, err := Take(b, yes); got != a || err != 0 {
			t.Error(got, err)
		}
	}
	for _, a := range []api.Ack{{Class: -1}, {Class: 256}, {Id: -1}, {Id: 256}} {
		if b, err := Put(a); err != api.ErrRange || len(b) != 0 {
			t.Error(a, err)
		}
	}
	for n, want := range map[int]api.Errno{0: api.ErrShort, 1: api.ErrShort, 3: api.ErrLong} {
		if a, err := Take(make([]byte, n), true); err != want || a != (api.Ack{}) {
			t.Error(n, a, err)
		}
	}
}

func counts(k *Book) [3]int {
	yes, no, odd := k.Counts()
	return [3]int{yes, no, odd}
}

func TestBook(t *testing.T) { // P1903
	k := New()
	if !k.Ask(6, 1) || !k.Hear(api.Ack{Yes: true, Class: 6, Id: 1}) || k.Hear(api.Ack{Yes: true, Class: 6, Id: 1}) || counts(k) != [3]int{1, 0, 1} {
		t.Error("example", counts(k))
	}
	for _, c := range [][2]int64{{-1, 0}, {256, 0}, {0, -1}, {0, 256}, {1 << 62, 0}} {
		if k.Ask(c[0], c[1]) {
			t.Error(c)
		}
	}
	if edge := New(); !edge.Ask(255, 255) || !edge.Ask(0, 0) || len(edge.Open()) != 2 {
		t.Error("edges")
	}
	for i := range int64(16) {
		if !k.Ask(i/2, 0) {
			t.Error(i)
		}
	}
	if k.Ask(3, 0) || len(k.Open()) != 16 {
		t.Error("the 17th")
	}
	if !k.Hear(api.Ack{Class: 2}) || !k.Ask(9, 9) {
		t.Error("room again")
	}
	want := []api.Ack{{}, {}, {Class: 1}, {Class: 1}, {Class: 2}, {Class: 3}, {Class: 3}, {Class: 4}, {Class: 4}, {Class: 5}, {Class: 5}, {Class: 6}, {Class: 6}, {Class: 7}, {Class: 7}, {Class: 9, Id: 9}}
	if l := k.Open(); !slices.Equal(l, want) || counts(k) != [3]int{1, 1, 1} {
		t.Error(l, counts(k))
	}
	k.Open()[0].Class = 77
	if k.Open()[0].Class != 0 {
		t.Error("shared")
	}
	if k.Hear(api.Ack{Class: 300, Id: -5}) || counts(k) != [3]int{1, 1, 2} {
		t.Error("odd")
	}
}

func TestOnce(t *testing.T) { // P1904
	r := rand.New(rand.NewSource(1))
	k := New()
	var model []api.Ack
	was := [3]int{}
	for range 5000 {
		c, i := r.Int63n(3), r.Int63n(3)
		if r.Intn(2) == 0 {
			ok := k.Ask(c, i)
			if ok != (len(model) < 16) {
				t.Fatal(len(model))
			}
			if ok {
				model = append(model, api.Ack{Class: c, Id: i})
			}
		} else {
			yes := r.Intn(2) == 0
			at := slices.Index(model, api.Ack{Class: c, Id: i})
			if k.Hear(api.Ack{Yes: yes, Class: c, Id: i}) != (at >= 0) {
				t.Fatal(c, i, model)
			}
			switch {
			case at < 0:
				was[2]++
			case yes:
				was[0]++
			default:
				was[1]++
			}
			if at >= 0 {
				model = slices.Delete(model, at, at+1)
			}
		}
		if !slices.Equal(k.Open(), model) || counts(k) != was {
			t.Fatal(k.Open(), model, was)
		}
	}
}

func TestNoBook(t *testing.T) { // P1901
	for _, k := range []*Book{nil, {}} {
		if k.Ask(1, 1) || k.Hear(api.Ack{}) || len(k.Open()) != 0 || counts(k) != [3]int{} {
			t.Error("no book")
		}
	}
}
