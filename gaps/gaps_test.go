package gaps

import (
	"math/rand"
	"slices"
	"testing"
)

func TestHear(t *testing.T) { // P3302
	k := New()
	for _, c := range [][2]int{{5, 0}, {7, 1}, {7, 255}, {8, 0}, {255, 246}, {0, 0}, {254, 253}, {1, 2}} {
		if lost, ok := k.Hear(c[0], 1, 1); lost != c[1] || !ok {
			t.Error(c, lost)
		}
	}
	if !slices.Equal(k.All(), []Line{{1, 1, 1, 8, 1 + 255 + 246 + 253 + 2}}) {
		t.Error(k.All())
	}
	for _, c := range [][3]int{{-1, 1, 1}, {256, 1, 1}, {0, -1, 1}, {0, 256, 1}, {0, 1, -1}, {0, 1, 256}, {-1 << 63, 1, 1}} {
		if lost, ok := k.Hear(c[0], c[1], c[2]); lost != 0 || ok {
			t.Error(c)
		}
	}
	if heard, lost := k.Sums(); heard != 8 || lost != 757 {
		t.Error(heard, lost)
	}
}

func TestSenders(t *testing.T) { // P3302, P3301
	k := New()
	if len(k.All()) != 0 {
		t.Error("new")
	}
	var want []Line
	for i := range 16 {
		sys, comp := i%4, 255-i/4
		if lost, ok := k.Hear(i, sys, comp); lost != 0 || !ok {
			t.Error(i)
		}
		want = append(want, Line{sys, comp, i, 1, 0})
	}
	slices.SortFunc(want, func(a, b Line) int { return 1000*(a.Sys-b.Sys) + a.Comp - b.Comp })
	if lost, ok := k.Hear(0, 9, 9); lost != 0 || ok {
		t.Error("the 17th")
	}
	if !slices.Equal(k.All(), want) {
		t.Error(k.All(), want)
	}
	if lost, ok := k.Hear(3, 0, 255); lost != 2 || !ok {
		t.Error("one that is known", lost)
	}
	k.All()[0].Sys = 99
	if k.All()[0].Sys != 0 {
		t.Error("shared")
	}
	if heard, lost := k.Sums(); heard != 17 || lost != 2 {
		t.Error(heard, lost)
	}
	for _, k := range []*Book{nil, {}} {
		lost, ok := k.Hear(1, 1, 1)
		if h, l := k.Sums(); lost != 0 || ok || len(k.All()) != 0 || h != 0 || l != 0 {
			t.Error("no book")
		}
	}
}

func TestGaps(t *testing.T) { // P3303
	r := rand.New(rand.NewSource(1))
	for range 50 {
		k := New()
		n := r.Intn(1000)
		k.Hear(n%256, 1, 2)
		heard, lost := 1, 0
		for range 500 {
			gone := 0
			if r.Intn(3) == 0 {
				gone = r.Intn(256)
			}
			n += 1 + gone
			if l, ok := k.Hear(n%256, 1, 2); l != gone || !ok {
				t.Fatal(l, gone)
			}
			heard++
			lost += gone
		}
		if h, l := k.Sums(); h != heard || l != lost {
			t.Fatal(h, l)
		}
	}
}
