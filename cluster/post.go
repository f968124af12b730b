package cluster

import "pupil/api"

// post is the mail: the messages that are under way, in a row.
type post struct{ row []message }

// has tells whether there is such a message.
func (p *post) has(i int) bool { return i >= 0 && i < len(p.row) }

// add puts a message at the end.
func (p *post) add(m message) { p.row = append(p.row, m) }

// cut takes a message out. Those ahead of it are cut off with their room, so that those behind it are laid in new memory, and none is written over. The first one has none ahead of it: it goes at once.
func (p *post) cut(i int) message {
	m := p.row[i]
	if i == 0 {
		p.row = p.row[1:]
	} else {
		p.row = append(p.row[:i:i], p.row[i+1:]...)
	}
	return m
}

// put puts a message in, so that it stands at a place. Those that are to stand ahead of it are cut off with their room: else it would be written over the next one.
func (p *post) put(m message, at int) {
	p.row = append(append(p.row[:at:at], m), p.row[at:]...)
}

// send does what may send messages, and puts these at the end. A call sends no more than one message to each worker, or one to the master, so that none waits for room in the channel.
func (p *post) send(do func(out chan<- message)) {
	out := make(chan message, api.MaxWorkers)
	do(out)
	for {
		select {
		case m := <-out:
			p.add(m)
		default:
			return
		}
	}
}
