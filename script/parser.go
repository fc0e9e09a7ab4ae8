package script

import (
	"slices"

	"crier/api"
)

// mostTimes: how often a repeat may be done.
const mostTimes = 1000

// parser: what was read of a script.
type parser struct {
	steps   []api.Step
	content int  // of the steps, in bytes
	repeat  loop // the one that hasn't ended
}

// loop: a repeat, and what stands ahead of it.
type loop struct {
	times          int // 0: there is none
	steps, content int
}

// repeats tells whether there is a repeat that hasn't ended.
func (p *parser) repeats() bool { return p.repeat.times > 0 }

// line reads a line.
func (p *parser) line(text string) error {
	r := newReader(text)
	switch {
	case !r.more():
	case r.has("repeat"):
		p.begin(r)
	case r.has("end"):
		p.end(r)
	default:
		p.step(r)
	}
	return r.err
}

func (p *parser) begin(r *reader) {
	if p.repeats() {
		r.refuse(api.ErrScriptWord)
		return
	}
	r.pass()
	l := loop{steps: len(p.steps), content: p.content}
	r.bounded(&l.times, 1, mostTimes)
	r.close()
	p.repeat = l
}

func (p *parser) end(r *reader) {
	if e := p.mayEnd(); e != api.OK {
		r.refuse(e)
		return
	}
	r.pass()
	if r.close(); r.err == nil {
		p.unfold()
	}
}

// mayEnd tells why a repeat can't end here.
func (p *parser) mayEnd() api.Errno {
	switch {
	case !p.repeats():
		return api.ErrScriptWord
	case p.repeat.steps+p.repeat.times*p.bodySteps() > api.MaxSteps:
		return api.ErrScriptMany
	case p.repeat.content+p.repeat.times*p.bodyContent() > api.MaxContent:
		return api.ErrScriptLong
	}
	return api.OK
}

func (p *parser) bodySteps() int { return len(p.steps) - p.repeat.steps }

func (p *parser) bodyContent() int { return p.content - p.repeat.content }

// unfold ends a repeat: its body, which stands there once, is added as often as it is missing, each time in new memory.
func (p *parser) unfold() {
	body, missing := p.steps[p.repeat.steps:], p.repeat.times-1
	p.content += missing * p.bodyContent()
	p.steps = slices.Grow(p.steps, missing*len(body))
	for range missing {
		for _, s := range body {
			p.steps = append(p.steps, copied(s))
		}
	}
	p.repeat = loop{}
}

func (p *parser) step(r *reader) {
	first := r.next.at
	x, ok := wanted(r, stepRows())
	if !ok {
		return
	}
	if len(p.steps) >= api.MaxSteps {
		r.fail(first, api.ErrScriptMany)
		return
	}
	var s step
	s.Kind, s.Event.Kind, s.Move.Kind = x.kind.step, x.kind.event, x.kind.move
	x.rest(&s, r)
	r.close()
	p.steps = append(p.steps, s.Step)
	p.content += contentOf(s.Step)
	if p.content > api.MaxContent {
		r.fail(first, api.ErrScriptLong)
	}
}
