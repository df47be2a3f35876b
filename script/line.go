package script

import (
	"strconv"
	"strings"

	"landfall/api"
	"landfall/parity"
)

// number is the one that a word is.
func number(s string) (int64, bool) {
	n, err := strconv.ParseInt(s, 10, 64)
	// Signs and noughts that need not stand there must not.
	if err != nil || decimal(n) != s {
		return 0, false
	}
	return n, true
}

func numbers(words []string) ([]int64, bool) {
	var l []int64
	for _, w := range words {
		n, ok := number(w)
		if !ok {
			return nil, false
		}
		l = append(l, n)
	}
	return l, true
}

// unhex is the bytes that a word is.
func unhex(s string) ([]byte, bool) {
	if s == nothing {
		return nil, true
	}
	if s == "" || len(s)%2 != 0 {
		return nil, false
	}
	var b []byte
	for i := 0; i < len(s); i += 2 {
		pair := s[i : i+2]
		c, ok := parity.Unhex(pair)
		if !ok || parity.Hex(c) != pair {
			return nil, false
		}
		b = append(b, c)
	}
	return b, true
}

func pairs(words []string) ([]api.Pair, bool) {
	var l []api.Pair
	for _, w := range words {
		left, right, _ := strings.Cut(w, equals)
		key, ok := number(left)
		value, ok2 := number(right)
		if !ok || !ok2 {
			return nil, false
		}
		l = append(l, api.Pair{Key: key, Value: value})
	}
	return l, true
}

// Line is the step of a line.
func Line(line string) (api.Step, api.Errno) {
	var words []string
	for w := range cut(line, blank) {
		words = append(words, w)
	}
	if len(words) < 2 {
		return api.Step{}, api.ErrForm
	}
	s, ok := step(words[0], words[1], words[2:])
	if !ok {
		return api.Step{}, api.ErrForm
	}
	return s, api.OK
}

// step is the one of a line's words.
func step(verb, first string, more []string) (api.Step, bool) {
	switch verb {
	case "bytes":
		b, ok := unhex(first)
		return api.Step{Kind: api.StepBytes, B: b}, ok && len(more) == 0
	case "tick", "log":
		kind := api.StepTick
		if verb == "log" {
			kind = api.StepLog
		}
		n, ok := number(first)
		return api.Step{Kind: kind, N: int(n)}, ok && len(more) == 0
	case "send":
		id, ok := number(first)
		v, ok2 := numbers(more)
		return api.Step{Kind: api.StepSend, Msg: api.Msg{Id: int(id), V: v}}, ok && ok2
	case "ask":
		layers, ok := number(first)
		l, ok2 := pairs(more)
		return api.Step{Kind: api.StepAsk, Set: api.Valset{Layers: layers, L: l}}, ok && ok2
	}
	return api.Step{}, false
}
