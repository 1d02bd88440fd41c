package sweep

import "gatewright/sat"

const (
	firstWindow  = 64 // gates that are looked at first
	windowGrowth = 8  // how many times as many next
	askedAtOnce  = 64 // questions
)

// question asks whether a variable is worth the same as a literal.
type question struct {
	v, literal int
}

// The replies to a question.
const (
	open = iota
	alike
	unlike
)

// reply also tells at what pattern the two part, if they are unlike; and what work it was.
type reply struct {
	kind   int
	sample sample
	work   int
}

// compare holds some variables against the next leaders of their classes. It gives those of which it is still open whether they stay.
func (s *sweeper) compare(variables []int) []int {
	questions := s.questions(variables)
	asked := questions[:min(askedAtOnce, len(questions))]
	s.divide(len(asked))
	var waiting []int
	var samples []sample
	for i, r := range each(asked, s.ask) {
		q := asked[i]
		s.spend(r.work)
		switch r.kind {
		case alike:
			s.merge(q.v, q.literal)
			continue
		case unlike:
			samples = append(samples, r.sample)
		default:
			s.tried[q.v]++
		}
		waiting = append(waiting, q.v)
	}
	for _, q := range questions[len(asked):] {
		waiting = append(waiting, q.v)
	}
	s.tellApartBy(samples, waiting)
	return waiting
}

// questions asks about those of some variables that could be the same as another one. Of the others it is known what becomes of them.
func (s *sweeper) questions(variables []int) []question {
	var questions []question
	for _, v := range variables {
		literal, isThere := s.guessed(v)
		switch {
		case !isThere || s.isSpent():
			s.stay(v)
		case s.isExact:
			s.merge(v, literal)
		default:
			questions = append(questions, question{v, literal})
		}
	}
	return questions
}

// tellApartBy runs patterns near to samples: then those that wait may have other leaders.
func (s *sweeper) tellApartBy(samples []sample, waiting []int) {
	if len(samples) == 0 {
		return
	}
	s.part(&s.layers, samples)
	s.spend((1 + len(samples)/sampleWords) * s.variables() * runWork)
	for _, v := range waiting {
		s.tried[v] = 0
	}
}

// ask looks at the nearest gates, and then at more and more of them: what follows from few is found soon.
func (s *sweeper) ask(q question) reply {
	var r reply
	for size := firstWindow; ; size *= windowGrowth {
		w := s.windowOf(2*q.v, q.literal, size)
		r.work += len(w.gates) * gateWork
		if r.work > s.share {
			return r
		}
		answer, looks := sat.Within(s.formula(w, 2*q.v, q.literal), s.share-r.work)
		r.work += looks
		switch {
		case answer.Proof != nil:
			r.kind = alike
			return r
		case !answer.Sat:
			return r
		case w.isWhole:
			r.kind = unlike
			r.sample = sample{w.edge, answer.Model[:len(w.edge)]}
			return r
		}
	}
}
