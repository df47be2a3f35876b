package node

import (
	"landfall/api"
	"landfall/flog"
	"landfall/tlm"
	"landfall/ubx"
)

const (
	longest  = 10000
	latest   = 1 << 40
	setClass = 6
	setId    = 138
	logBlock = 202
	parts    = 4
	round    = 1 << 32
)

// job is a step that a node does, and the events of it.
type job struct {
	*Node
	events []api.Event
}

// way is what a step of a kind does.
func way(kind int) func(*job, api.Step) {
	switch kind {
	case api.StepBytes:
		return (*job).bytes
	case api.StepTick:
		return (*job).tick
	case api.StepSend:
		return (*job).message
	case api.StepLog:
		return (*job).logging
	case api.StepAsk:
		return (*job).ask
	}
	return (*job).unknown
}

func (j *job) tell(e api.Event) { j.events = append(j.events, e) }

func (j *job) refuse(err api.Errno) { j.tell(api.Event{Kind: api.EvRefused, N: int(err)}) }

func (j *job) unknown(api.Step) { j.refuse(api.ErrKind) }

// send sends a message; one that can't be laid is refused.
func (j *job) send(m api.Msg) {
	b, err := tlm.Put(api.Packet{Seq: j.seq, Sys: j.sys, Comp: j.comp, Msg: m})
	if err != api.OK {
		j.refuse(err)
		return
	}
	j.seq = (j.seq + 1) % 256
	j.tell(api.Event{Kind: api.EvSent, B: b})
}

// say sends a message of its own numbers.
func (j *job) say(id int, v ...int64) { j.send(api.Msg{Id: id, V: v}) }

func (j *job) message(s api.Step) { j.send(s.Msg) }

func (j *job) bytes(s api.Step) {
	for _, x := range j.decoder.Feed(s.B) {
		j.take(x)
	}
}

func (j *job) tick(s api.Step) {
	if s.N < 0 || s.N > longest {
		j.refuse(api.ErrRange)
		return
	}
	if j.now+s.N > latest {
		j.refuse(api.ErrFull)
		return
	}
	j.now += s.N
	for {
		id, at, ok := j.timers.Next(j.now)
		if !ok {
			return
		}
		j.stream(id, int64(at%round))
	}
}

func (j *job) logging(s api.Step) {
	if s.N < -1 || s.N > api.MaxEvery {
		j.refuse(api.ErrRange)
		return
	}
	if s.N <= 0 && j.log == nil {
		j.refuse(api.ErrNone)
		return
	}
	if j.log != nil {
		j.logged(j.log.Flush())
	}
	if s.N >= 0 {
		// Of 0 there is no log.
		j.log = flog.New(s.N)
	}
}

// logged logs a block, if there is one, and sends it.
func (j *job) logged(b []byte) {
	if len(b) == 0 {
		return
	}
	j.tell(api.Event{Kind: api.EvLogged, B: b})
	_, blocks := j.log.Counts()
	no := int64((blocks - 1) % round)
	size := len(b) / parts
	for part := range parts {
		v := []int64{no, int64(part)}
		for _, c := range b[part*size : (part+1)*size] {
			v = append(v, int64(c))
		}
		j.say(logBlock, v...)
	}
}

func (j *job) ask(s api.Step) {
	b, err := ubx.Encode(api.Ubx{Kind: api.UbxSet, Set: s.Set})
	if err != api.OK {
		j.refuse(err)
		return
	}
	if !j.answers.Ask(setClass, setId) {
		j.refuse(api.ErrFull)
		return
	}
	j.tell(api.Event{Kind: api.EvSent, B: b})
}
