package impl

import "iter"

// Limits of paths.
const (
	FlyMaxSide  = 16
	FlyMaxLevel = 6
	FlyMaxTick  = 10000
	FlyMaxSteps = 40
)

// FlyStep is a step of a path: where, and when it may be entered.
type FlyStep struct {
	X    int
	Y    int
	Low  int
	High int
	From int
	By   int
	Hold bool
}

// FlyPath is what an aircraft holds.
type FlyPath struct {
	Kind  FlyKind
	Steps []FlyStep
	From  int
	By    int
}

// FlyPathOk says whether a path is ok.
func FlyPathOk(p FlyPath) bool {
	// Single steps come ahead of pairs: only within the limits can the
	// difference of two numbers not wrap round.
	checks := []func(FlyPath) bool{kindIsOk, stepCountIsOk, stepsAreOk, stepsFollow, endIsOk}
	for _, passes := range checks {
		if !passes(p) {
			return false
		}
	}
	return true
}

func kindIsOk(p FlyPath) bool {
	return p.Kind.ok()
}

func stepCountIsOk(p FlyPath) bool {
	return 1 <= len(p.Steps) && len(p.Steps) <= FlyMaxSteps
}

func stepsAreOk(p FlyPath) bool {
	for _, s := range p.Steps {
		if !s.ok() {
			return false
		}
	}
	return true
}

func stepsFollow(p FlyPath) bool {
	for ahead, behind := range stepPairs(p.Steps) {
		if !behind.follows(ahead) {
			return false
		}
	}
	return true
}

func endIsOk(p FlyPath) bool {
	return ordered(0, p.From, p.By, FlyMaxTick)
}

// stepPairs ranges over each step but the first, with the one ahead of it.
func stepPairs(steps []FlyStep) iter.Seq2[FlyStep, FlyStep] {
	return func(yield func(FlyStep, FlyStep) bool) {
		for place := 1; place < len(steps); place++ {
			if !yield(steps[place-1], steps[place]) {
				return
			}
		}
	}
}

func (s FlyStep) ok() bool {
	return onSide(s.X) && onSide(s.Y) &&
		ordered(0, s.Low, s.High, FlyMaxLevel) &&
		ordered(0, s.From, s.By, FlyMaxTick)
}

func (s FlyStep) follows(ahead FlyStep) bool {
	sameCell := s.X == ahead.X && s.Y == ahead.Y
	return !sameCell && isBeside(s.X, ahead.X) && isBeside(s.Y, ahead.Y) && s.sharesLevel(ahead)
}

func (s FlyStep) sharesLevel(other FlyStep) bool {
	return s.Low <= other.High && other.Low <= s.High
}

func onSide(n int) bool {
	return 0 <= n && n < FlyMaxSide
}

func isBeside(a int, b int) bool {
	return -1 <= a-b && a-b <= 1
}

func ordered(least int, low int, high int, most int) bool {
	return least <= low && low <= high && high <= most
}
