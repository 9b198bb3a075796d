"""Nets: names with arrows between them, nowhere in a ring."""

from arrowfind.errors import NoName, NoWord, Ring, Twice, WrongSize

LETTERS = "abcdefghijklmnopqrstuvwxyz"
MOST_LETTERS = 8
MOST_NAMES = 8


def is_word(text):
    return 1 <= len(text) <= MOST_LETTERS and all([sign in LETTERS for sign in text])


def net_made(names, arrows):
    refuse_wrong_names(names)
    refuse_wrong_pairs(names, arrows)
    pairs = [(tail, head) for tail, head in arrows]
    net = (tuple(names), tuple(sorted_rows(names, pairs)))
    refuse_ring(net)
    return net


def elders_of(net, name):
    refuse_strangers(net[0], [name])
    return tuple([tail for tail, head in net[1] if head == name])


def heirs_of(net, name):
    refuse_strangers(net[0], [name])
    return tuple([head for tail, head in net[1] if tail == name])


def are_tied(net, one, other):
    refuse_strangers(net[0], [one, other])
    return (one, other) in net[1] or (other, one) in net[1]


def names_above(net, name):
    refuse_strangers(net[0], [name])
    return names_along(net[0], [(head, tail) for tail, head in net[1]], name)


def names_below(net, name):
    refuse_strangers(net[0], [name])
    return names_along(net[0], net[1], name)


def in_turn(net):
    told = []
    name = first_ready(net, told)
    while name is not None:
        told.append(name)
        name = first_ready(net, told)
    return told


def sorted_rows(names, rows):
    return sorted(rows, key=lambda row: [names.index(name) for name in row])


def refuse_strangers(names, asked):
    for name in asked:
        if name not in names:
            raise NoName(f"{name!r} is none of the names")


def refuse_repeats(asked):
    stood = {}
    for name in asked:
        if name in stood:
            raise Twice(f"{name!r} stands twice")
        stood[name] = True


# The two names and the held ones together are what is asked.
def refuse_wrong_asks(names, asked):
    refuse_strangers(names, asked)
    refuse_repeats(asked)


# Word and repeat are looked at together, for the first wrong name decides which refusal is due.
def refuse_wrong_names(names):
    if not 1 <= len(names) <= MOST_NAMES:
        raise WrongSize(f"a net has one to {MOST_NAMES} names")
    stood = {}
    for name in names:
        if not is_word(name):
            raise NoWord(f"{name!r} is no word")
        if name in stood:
            raise Twice(f"{name!r} stands twice")
        stood[name] = True


def refuse_wrong_pairs(names, arrows):
    stood = {}
    for tail, head in arrows:
        refuse_strangers(names, [tail, head])
        if tail == head:
            raise Twice(f"an arrow goes from {tail!r} to itself")
        if (tail, head) in stood:
            raise Twice(f"a second arrow stands between {tail!r} and {head!r}")
        stood[(tail, head)] = True
        stood[(head, tail)] = True


def refuse_ring(net):
    told = in_turn(net)
    left = [name for name in net[0] if name not in told]
    if left:
        raise Ring(ring_among(net, left))


# A name that never gets its turn has an elder that never does, so a walk
# from elder to elder among these names must come to one of its own again.
def ring_among(net, left):
    walk = []
    name = left[0]
    while name not in walk:
        walk.append(name)
        name = [elder for elder in elders_of(net, name) if elder in left][0]
    return list(reversed(walk[walk.index(name):]))


def names_along(names, steps, name):
    found = {name: True}
    waiting = [name]
    while waiting:
        here = waiting.pop()
        for start, end in steps:
            if start == here and end not in found:
                found[end] = True
                waiting.append(end)
    return [each for each in names if each in found]


def first_ready(net, told):
    for name in net[0]:
        if name not in told and all([elder in told for elder in elders_of(net, name)]):
            return name
    return None
