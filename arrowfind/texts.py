"""Nets and pictures as texts."""

from arrowfind.errors import NoText
from arrowfind.nets import is_word, net_made

COLON = ":"


def show_net(net):
    names, arrows = net
    return " ".join(list(names) + [COLON] + arrows_shown(arrows))


def show_picture(picture):
    names, arrows, ties = picture
    ties_shown = [f"{one}-{other}" for one, other in ties]
    return " ".join(list(names) + [COLON] + arrows_shown(arrows) + ties_shown)


def read_net(text):
    pieces = text.split(" ")
    if COLON not in pieces:
        raise NoText("no colon stands by itself")
    place = pieces.index(COLON)
    names = pieces[:place]
    arrows = [piece.partition(">") for piece in pieces[place + 1:]]
    if not names or not all([is_word(name) for name in names]):
        raise NoText("one or more words stand ahead of the colon")
    if not all([is_arrow(arrow) for arrow in arrows]):
        raise NoText("behind the colon stand pieces of a word, a > and a word")
    return net_made(names, [(tail, head) for tail, sign, head in arrows])


def arrows_shown(arrows):
    return [f"{tail}>{head}" for tail, head in arrows]


# Of a piece without a > no head is left, so the sign needn't be looked at.
def is_arrow(parts):
    return is_word(parts[0]) and is_word(parts[2])
