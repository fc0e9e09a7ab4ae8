package pump

import (
	"sync"
	"sync/atomic"

	"crier/api"
	"crier/conn"
)

// piece: a connection, and those of its bytes that are to be read next.
type piece struct {
	conn  *conn.Conn
	parts []*part
}

// part: some bytes, and the place for what is read when they come.
type part struct {
	data []byte
	read []api.Input
}

// read reads all parts, one behind the other.
func (p *piece) read() {
	for _, x := range p.parts {
		p.conn.Push(x.data)
		for in, ok := p.conn.Next(); ok; in, ok = p.conn.Next() {
			x.read = append(x.read, in)
		}
	}
	p.parts = nil
}

// crew: workers, and what goes to them.
type crew struct {
	jobs  chan job
	ended sync.WaitGroup
}

// job: a piece, and the wait that it is a part of.
type job struct {
	piece *piece
	wait  *wait
}

// wait: for pieces that are read side by side.
type wait struct {
	left atomic.Int64 // how many aren't read yet
	last sync.Once
	over chan struct{} // closed, when all are read
}

func newCrew(workers int) *crew {
	c := &crew{jobs: make(chan job)}
	for range min(max(workers, 1), api.MaxWorkers) {
		c.ended.Add(1)
		go c.work()
	}
	return c
}

// work: what one worker does.
func (c *crew) work() {
	defer c.ended.Done()
	for j := range c.jobs {
		j.piece.read()
		j.wait.laid()
	}
}

// laid: one more piece is read.
func (w *wait) laid() {
	if w.left.Add(-1) == 0 {
		w.last.Do(func() { close(w.over) })
	}
}

// read lets the workers read pieces, and waits till all are read.
func (c *crew) read(l []*piece) {
	if len(l) == 0 {
		return // no last one would end the wait
	}
	w := &wait{over: make(chan struct{})}
	w.left.Store(int64(len(l)))
	for _, p := range l {
		c.jobs <- job{piece: p, wait: w}
	}
	<-w.over
}

// dismiss tells the workers that nothing more comes, and waits till they have ended.
func (c *crew) dismiss() {
	close(c.jobs)
	c.ended.Wait()
}
