package ubx

import (
	"slices"

	"landfall/ack"
	"landfall/api"
	"landfall/dop"
	"landfall/pvt"
	"landfall/sats"
	"landfall/valset"
)

const (
	nav     = 1
	navPvt  = 7
	navSats = 53
	navDop  = 4
	answer  = 5
	answerY = 1
	answerN = 0
	config  = 6
	setting = 138
)

// kind is what messages of one Kind do: what is left of one, what stands in its frame's head, and how its part is put and taken.
type kind interface {
	plain(m api.Ubx) api.Ubx
	head(m api.Ubx) (class, id int)
	put(m api.Ubx) ([]byte, api.Errno)
	take(f api.Frame) (api.Ubx, api.Errno)
}

// of is what messages of a Kind do.
func of(number int) (kind, bool) {
	switch number {
	case api.UbxPvt:
		return place{}, true
	case api.UbxSats:
		return sky{}, true
	case api.UbxDop:
		return spread{}, true
	case api.UbxAck:
		return reply{}, true
	case api.UbxSet:
		return order{}, true
	}
	return nil, false
}

// kindOf is the Kind of a frame's messages; 0, if there is none.
func kindOf(class, id int) int {
	switch [2]int{class, id} {
	case [2]int{nav, navPvt}:
		return api.UbxPvt
	case [2]int{nav, navSats}:
		return api.UbxSats
	case [2]int{nav, navDop}:
		return api.UbxDop
	case [2]int{answer, answerY}, [2]int{answer, answerN}:
		return api.UbxAck
	case [2]int{config, setting}:
		return api.UbxSet
	}
	return 0
}

type place struct{}

func (place) plain(m api.Ubx) api.Ubx { return api.Ubx{Kind: api.UbxPvt, Pvt: m.Pvt} }

func (place) head(api.Ubx) (class, id int) { return nav, navPvt }

func (place) put(m api.Ubx) ([]byte, api.Errno) { return pvt.Put(m.Pvt) }

func (place) take(f api.Frame) (api.Ubx, api.Errno) {
	p, err := pvt.Take(f.Payload)
	return api.Ubx{Kind: api.UbxPvt, Pvt: p}, err
}

type sky struct{}

func (sky) plain(m api.Ubx) api.Ubx {
	s := api.Sats{Tow: m.Sats.Tow, L: slices.Clone(m.Sats.L)}
	return api.Ubx{Kind: api.UbxSats, Sats: s}
}

func (sky) head(api.Ubx) (class, id int) { return nav, navSats }

func (sky) put(m api.Ubx) ([]byte, api.Errno) { return sats.Put(m.Sats) }

func (sky) take(f api.Frame) (api.Ubx, api.Errno) {
	s, err := sats.Take(f.Payload)
	return api.Ubx{Kind: api.UbxSats, Sats: s}, err
}

type spread struct{}

func (spread) plain(m api.Ubx) api.Ubx { return api.Ubx{Kind: api.UbxDop, Dop: m.Dop} }

func (spread) head(api.Ubx) (class, id int) { return nav, navDop }

func (spread) put(m api.Ubx) ([]byte, api.Errno) { return dop.Put(m.Dop) }

func (spread) take(f api.Frame) (api.Ubx, api.Errno) {
	d, err := dop.Take(f.Payload)
	return api.Ubx{Kind: api.UbxDop, Dop: d}, err
}

type reply struct{}

func (reply) plain(m api.Ubx) api.Ubx { return api.Ubx{Kind: api.UbxAck, Ack: m.Ack} }

func (reply) head(m api.Ubx) (class, id int) {
	if m.Ack.Yes {
		return answer, answerY
	}
	return answer, answerN
}

func (reply) put(m api.Ubx) ([]byte, api.Errno) { return ack.Put(m.Ack) }

func (reply) take(f api.Frame) (api.Ubx, api.Errno) {
	a, err := ack.Take(f.Payload, f.Id == answerY)
	return api.Ubx{Kind: api.UbxAck, Ack: a}, err
}

type order struct{}

func (order) plain(m api.Ubx) api.Ubx {
	s := api.Valset{Layers: m.Set.Layers, L: slices.Clone(m.Set.L)}
	return api.Ubx{Kind: api.UbxSet, Set: s}
}

func (order) head(api.Ubx) (class, id int) { return config, setting }

func (order) put(m api.Ubx) ([]byte, api.Errno) { return valset.Put(m.Set) }

func (order) take(f api.Frame) (api.Ubx, api.Errno) {
	s, err := valset.Take(f.Payload)
	return api.Ubx{Kind: api.UbxSet, Set: s}, err
}
