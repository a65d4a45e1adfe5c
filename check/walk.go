package check

import (
	"slices"

	"warden/api"
	"warden/link"
	"warden/table"
)

// unreached stands for the height of a place that is not reached.
const unreached = -1

// spot is a place with a height that it is reached with.
type spot struct{ at, height int }

// walk follows a method's code through all places and all heights that these are reached with.
type walk struct {
	method  api.Method
	effects []table.Effect // of the instructions
	heights []int          // of the places: the first with which each was reached
	seen    [][]bool       // by place and height
	wrong   []bool         // by place
	work    []spot         // that were reached, and not gone on from
}

// walked asks for code without faults.
func walked(cs *link.Classes, m api.Method) *walk {
	count := len(m.Code)
	w := &walk{
		method:  m,
		effects: make([]table.Effect, count),
		heights: slices.Repeat([]int{unreached}, count),
		seen:    make([][]bool, count),
		wrong:   make([]bool, count),
	}
	for at, i := range m.Code {
		w.effects[at] = table.EffectOf(cs, m, i)
		w.seen[at] = make([]bool, m.Stack+1)
	}
	w.run()
	return w
}

// run goes on from a place with two heights as well: a lesser place may be reached by one of them alone.
func (w *walk) run() {
	w.reach(0, 0)
spots:
	for len(w.work) > 0 {
		last := len(w.work) - 1
		s := w.work[last]
		w.work = w.work[:last]
	handlers:
		for _, h := range w.method.Handlers {
			switch {
			case !table.Covers(h, s.at):
				continue handlers
			case w.method.Stack == 0:
				w.wrong[s.at] = true
				break handlers
			}
			w.reach(h.At, 1)
		}
		behind, fits := w.effects[s.at].Behind(s.height, w.method.Stack)
		if !fits {
			w.wrong[s.at] = true
			continue spots
		}
		for _, next := range table.Next(w.method.Code[s.at], s.at) {
			w.reach(next, behind)
		}
	}
}

func (w *walk) reach(at, height int) {
	if w.seen[at][height] {
		return
	}
	w.seen[at][height] = true
	w.work = append(w.work, spot{at, height})
	if w.heights[at] == unreached {
		w.heights[at] = height
	} else {
		w.wrong[at] = true
	}
}

func (w *walk) stackFault() (int, bool) {
	at := slices.Index(w.wrong, true)
	return at, at >= 0
}
