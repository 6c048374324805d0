package impl

// FlyMaxSlow bounds the ticks of a step.
const FlyMaxSlow = 50

// FlyKind is a kind of aircraft: how many ticks it takes for a step.
type FlyKind struct {
	Quick int
	Slow  int
}

// FlyKindOk says whether a kind is ok.
func FlyKindOk(k FlyKind) bool {
	return k.ok()
}

func (k FlyKind) ok() bool {
	return 1 <= k.Quick && k.Quick <= k.Slow && k.Slow <= FlyMaxSlow
}
