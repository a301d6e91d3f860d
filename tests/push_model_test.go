package tests

import (
	"math/rand/v2"
	"slices"

	"loop.example/g00167/impl"
)

// The model holds what came by its place in a map, a rule or a serial; it calls nothing of the program.

type sideModel struct {
	force  impl.Snapshot
	coming int
	places int
	came   map[int]any
}

func modelGoodSide(s impl.Side) bool {
	nothing := sameSnapshot(s.Force, impl.Snapshot{})
	if !nothing && !modelGoodSnapshot(s.Force) {
		return false
	}
	if len(s.Rules) != len(s.Has) || len(s.Has) != len(s.Serials) || len(s.Has) > 230 {
		return false
	}
	if s.Coming == 0 {
		return len(s.Has) == 0
	}
	if s.Coming <= s.Force.Number || s.Coming > 100000 {
		return false
	}
	for i, has := range s.Has {
		noRule, noSerial := s.Rules[i] == impl.Rule{}, s.Serials[i] == 0
		justRule := noSerial && modelGoodRule(s.Rules[i])
		justSerial := noRule && modelGoodNumbers(s.Serials[i:i+1])
		if has && !justRule && !justSerial || !has && !(noRule && noSerial) {
			return false
		}
	}
	return true
}

func modelSide(s impl.Side) *sideModel {
	m := &sideModel{force: s.Force, coming: s.Coming, places: len(s.Has), came: map[int]any{}}
	for i, has := range s.Has {
		switch {
		case has && s.Serials[i] > 0:
			m.came[i] = s.Serials[i]
		case has:
			m.came[i] = s.Rules[i]
		}
	}
	return m
}

func (m *sideModel) told() impl.Side {
	s := impl.Side{Force: m.force, Coming: m.coming, Rules: make([]impl.Rule, m.places), Has: make([]bool, m.places), Serials: make([]int, m.places)}
	for i, x := range m.came {
		s.Has[i] = true
		switch x := x.(type) {
		case int:
			s.Serials[i] = x
		case impl.Rule:
			s.Rules[i] = x
		}
	}
	return s
}

func (m *sideModel) take(mail impl.Mail) {
	v := mail.Version
	if v <= m.force.Number || v < m.coming || v > 100000 {
		return
	}
	if mail.Kind == 1 && v != m.coming && 0 <= mail.Number && mail.Number <= 230 {
		m.coming, m.places, m.came = v, mail.Number, map[int]any{}
		return
	}
	_, there := m.came[mail.Number]
	open := v == m.coming && mail.Number >= 0 && mail.Number < m.places && !there
	if mail.Kind == 2 && open && modelGoodRule(mail.Rule) {
		m.came[mail.Number] = mail.Rule
	}
	if mail.Kind == 3 && open && mail.Serial >= 1 && mail.Serial <= 100000 {
		m.came[mail.Number] = mail.Serial
	}
	if mail.Kind == 4 && v == m.coming && mail.Number == m.places && len(m.came) == m.places {
		m.commit()
	}
}

func (m *sideModel) commit() {
	var rules []impl.Rule
	var serials []int
	for _, x := range m.came {
		switch x := x.(type) {
		case int:
			serials = append(serials, x)
		case impl.Rule:
			rules = append(rules, x)
		}
	}
	if serials = modelRising(serials); len(rules) > 30 || len(serials) > 200 {
		return
	}
	m.force = snapshotOf(m.coming, modelPlain(rules), serials...)
	m.coming, m.places, m.came = 0, 0, map[int]any{}
}

func modelMails(s impl.Snapshot) ([]impl.Mail, bool) {
	if !modelGoodSnapshot(s) {
		return nil, false
	}
	n := len(s.Policy)
	mails := make([]impl.Mail, n+len(s.Revoked)+2)
	for i := range mails {
		mails[i] = impl.Mail{Kind: 2, Version: s.Number, Number: i - 1}
		switch {
		case i == 0:
			mails[i].Kind, mails[i].Number = 1, len(mails)-2
		case i == len(mails)-1:
			mails[i].Kind, mails[i].Number = 4, len(mails)-2
		case i > n:
			mails[i].Kind, mails[i].Serial = 3, s.Revoked[i-1-n]
		default:
			mails[i].Rule = s.Policy[i-1]
		}
	}
	return mails, true
}

func modelTake(s impl.Side, mail impl.Mail) (impl.Side, bool) {
	if !modelGoodSide(s) {
		return impl.Side{}, false
	}
	m := modelSide(s)
	m.take(mail)
	return m.told(), true
}

func modelMissing(s impl.Side) ([]int, bool) {
	if !modelGoodSide(s) {
		return nil, false
	}
	return modelLess(upFrom(0, len(s.Has)), modelRising(keysOf(modelSide(s).came))), true
}

func modelCrash(s impl.Side) (impl.Side, bool) {
	if !modelGoodSide(s) {
		return impl.Side{}, false
	}
	return impl.Side{Force: s.Force}, true
}

func modelPush(s impl.Side, x impl.Snapshot, lost []bool, rounds int) (impl.Side, int, bool) {
	if !modelGoodSide(s) || !modelGoodSnapshot(x) || len(lost) > 2000 || rounds < 0 || rounds > 50 {
		return impl.Side{}, 0, false
	}
	m, sent := modelSide(s), 0
	mails, _ := modelMails(x)
	for round := 0; round < rounds && m.force.Number < x.Number; round++ {
		var line []impl.Mail
		for _, mail := range mails[1 : len(mails)-1] {
			_, there := m.came[mail.Number]
			if m.coming != x.Number || mail.Number < m.places && !there {
				line = append(line, mail)
			}
		}
		if round%2 != 0 {
			slices.Reverse(line)
		}
		for _, mail := range slices.Concat(mails[:1], line, mails[len(mails)-1:]) {
			arrives := sent >= len(lost) || !lost[sent]
			sent++
			for times := 1 + round%3/2; arrives && times > 0; times-- {
				m.take(mail)
			}
		}
	}
	return m.told(), sent, m.force.Number >= x.Number
}

func keysOf(m map[int]any) []int {
	var l []int
	for k := range m {
		l = append(l, k)
	}
	return l
}

func sameSide(a, b impl.Side) bool {
	return sameSnapshot(a.Force, b.Force) && a.Coming == b.Coming && slices.Equal(a.Rules, b.Rules) && slices.Equal(a.Has, b.Has) && slices.Equal(a.Serials, b.Serials)
}

// sideWith tells a side to which a version is coming; a place has a rule, a serial, or nil if nothing came.
func sideWith(force impl.Snapshot, coming int, places ...any) impl.Side {
	m := sideModel{force: force, coming: coming, places: len(places), came: map[int]any{}}
	for i, x := range places {
		if x != nil {
			m.came[i] = x
		}
	}
	return m.told()
}

// placesOf tells what stands at the places of a snapshot when all of it came.
func placesOf(s impl.Snapshot) []any {
	var l []any
	for _, r := range s.Policy {
		l = append(l, r)
	}
	for _, n := range s.Revoked {
		l = append(l, n)
	}
	return l
}

func copySide(s impl.Side) impl.Side {
	return impl.Side{Force: copyVersions([]impl.Snapshot{s.Force})[0], Coming: s.Coming, Rules: slices.Clone(s.Rules), Has: slices.Clone(s.Has), Serials: slices.Clone(s.Serials)}
}

// randomSide tells a good side; once in a while it has many places.
func randomSide(rnd *rand.Rand, rules []impl.Rule) impl.Side {
	force := impl.Snapshot{}
	if rnd.IntN(3) > 0 {
		force = randomVersions(rnd, rules, 1+rnd.IntN(3))[0]
	}
	if rnd.IntN(3) == 0 || force.Number == 100000 {
		return impl.Side{Force: force}
	}
	places := make([]any, rnd.IntN(8))
	if rnd.IntN(20) == 0 {
		places = make([]any, 230-rnd.IntN(3))
	}
	often := rnd.IntN(4)
	for i := range places {
		switch kind := rnd.IntN(2); {
		case rnd.IntN(4) > often:
		case kind == 0:
			places[i] = rules[rnd.IntN(len(rules))]
		default:
			places[i] = 1 + rnd.IntN(40)
		}
	}
	return sideWith(force, min(100000, force.Number+1+rnd.IntN(3)), places...)
}

// randomLost tells a line that loses about one of so many (none where it is 0).
func randomLost(rnd *rand.Rand, n, oneOf int) []bool {
	lost := make([]bool, n)
	for i := range lost {
		lost[i] = oneOf > 0 && rnd.IntN(oneOf) == 0
	}
	return lost
}
