package query

import "slices"

// stage is a condition where it stands in a plan: which variables are known there, which of these have become idle, because nothing needs them from there on, and whether all that the head names are known, so that it is enough to go on in one way.
type stage struct {
	condition
	known, idle names
	settled     bool
}

// plan is a rule whose conditions are in the order in which they are looked at.
type plan struct {
	stages []stage
	head   []part
	into   *relation
}

// planned returns a plan that looks at the condition with a number first, and then always at the one that has the greatest rank.
func planned(l []condition, next int, head []part, into *relation) plan {
	p := plan{head: head, into: into}
	needed := namesOf(head)
	var known names
	for l = slices.Clone(l); len(l) > 0; next = best(l, known) {
		p.stages = append(p.stages, stage{condition: l[next], known: known, settled: needed&^known == 0})
		known |= l[next].names()
		l = slices.Delete(l, next, next+1)
	}
	for n := len(p.stages) - 1; n > 0; n-- {
		needed |= p.stages[n].names()
		p.stages[n].idle = p.stages[n-1].names() &^ needed
	}
	return p
}

// best returns the number of the condition that has the greatest rank.
func best(l []condition, known names) int {
	first := 0
	for n, c := range l {
		if c.rank(known) > l[first].rank(known) {
			first = n
		}
	}
	return first
}

// remembered is how many bindings a run remembers. They save time alone, so it goes on without more.
const remembered = 1 << 18

// reached is a stage, and a binding with which it was reached.
type reached struct {
	stage int
	with  binding
}

// run adds all rows that the rule makes. Where variables have become idle, it remembers the values of the others: the same ones lead to the same rows again.
func (p plan) run() {
	seen := map[reached]struct{}{}
	var match func(n int, b binding) bool
	match = func(n int, b binding) bool {
		if n == len(p.stages) {
			p.into.put(rowOf(p.head, func(x part) int { return x.in(b) }))
			return true
		}
		s := p.stages[n]
		if s.idle != 0 {
			now := reached{n, b.without(s.idle)}
			if _, found := seen[now]; found {
				return false
			}
			if len(seen) < remembered {
				seen[now] = struct{}{}
			}
			b = now.with
		}
		made := false
	matching:
		for next := range s.matches(b, s.known) {
			if !match(n+1, next) {
				continue matching
			}
			made = true
			if s.settled {
				break matching
			}
		}
		return made
	}
	match(0, binding{})
}
